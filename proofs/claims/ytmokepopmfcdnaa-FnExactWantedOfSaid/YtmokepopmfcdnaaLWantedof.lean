/-
  FnExactWantedOf answers true for every policy and all lists of addresses: the program answers what the model answers, and shares no memory.
-/
import Derived.Test.YtmokepopmfcdnaaRl3
import Derived.Test.YtmokepopmfcdnaaAar
import Derived.Test.YtmokepopmfcdnaaRar
import Derived.Test.YtmokepopmfcdnaaLaw
import Derived.Deep.DeepHandedRow
import Derived.Lib.AppendIntMem
import Derived.Stop.LaidErr
namespace Go.Proofs.Ytmokepopmfcdnaa
open Go.ChangeShapes Go.WideShapes Go.ChangeAt Go.RowKit
open Go.ChangeMaps (open_string shut_string)

set_option maxRecDepth 100000 in
theorem wantedof_contract (H : Type) (enc : TypeId × Value → H) (W : World) (base : Nat) (args : Array Value) (ds gs : List (DataW H)) (before : List MemPlace)
    (hval : ∀ (j : Nat) t v, Try.f5.params[j]? = some t → args[j]? = some v → Value.okWide Try.prog W .any base t v)
    (hW : DataW.Whole enc Try.prog Try.f5.params.toList Rows.fnExactWantedOfSpec.vars false W args.toList ds gs before) :
    Calls Try.prog 5 args W fun e W' => ∃ v, e = .returned v ∧ Rows.fnExactWantedOfSpec.post enc Try.prog Try.f5 false true false false W args v W' := by
  have hW' := hW
  obtain ⟨p, q, hA0, hV, rfl, hfz, hnd⟩ := hW
  have hA : DataW.TrodAll enc Try.prog W 0 (fun _ => true) true Try.f5.params.toList args.toList ds p := hA0
  rw [Try.params5] at hA hval
  obtain ⟨v0, vs0, d0, ds0, p0, q0, hargs, rfl, rfl, h0, r0⟩ := trodAll_cons hA
  obtain ⟨v1, vs1, d1, ds1, p1, q1, rfl, rfl, rfl, h1, r1⟩ := trodAll_cons r0
  obtain ⟨v2, vs2, d2, ds2, p2, q2, rfl, rfl, rfl, h2, r2⟩ := trodAll_cons r1
  obtain ⟨rfl, rfl, rfl⟩ := trodAll_nil r2
  obtain rfl : args = #[v0, v1, v2] := by cases args; simp_all
  obtain rfl := vars_none hV
  obtain ⟨kd0, mn0, rfl⟩ := open_policy (hval 0 39 v0 rfl rfl) h0
  obtain ⟨x1, hr1, n1, wf1⟩ := open_addrs (hval 1 42 v1 rfl rfl) h1
  unfold maxLen at n1
  obtain ⟨x2, hr2, n2, wf2⟩ := open_addrs (hval 2 42 v2 rfl rfl) h2
  unfold maxLen at n2
  clear hA0
  refine (wantedof_law kd0 mn0 v1 x1 v2 x2 W hr1 (by omega) wf1 hr2 (by omega) wf2).mono fun e W' ⟨he, hb⟩ => ?_
  subst he
  exact ⟨_, rfl, law_post Try.laidOut (by kernel_rfl) (by kernel_rfl) rfl Try.underlying4 hW' ⟨rfl, rfl, rfl⟩ hb⟩

set_option maxRecDepth 100000 in
theorem wantedof_lifted (os : Os) (started : os.Started) (H : Type) (enc : TypeId × Value → H) :
    ReturnsInHanded {} Try.checked os 5 .any (Rows.fnExactWantedOfSpec.pre6 enc Try.prog Try.f5 Rows.fnExactWantedOfRow.domain false) (Rows.fnExactWantedOfSpec.post enc Try.prog Try.f5 false true false false) := by
  refine returnsInHanded_of_change (C := Try.checked) Try.own started (by kernel_rfl) Try.func5
    (ChangeSpec.witness6 (enc := enc) (C := Try.checked) false ⟨#[], #[.agg #[.int .i64 0, .int .i64 0], .slice none 0 0, .slice none 0 0], []⟩ 8 (by kernel_rfl) (by kernel_rfl) (by kernel_rfl) (by kernel_rfl)) ?_
  intro W base args ds gs before hval0 hW hcnd _
  exact wantedof_contract H enc W base args ds gs before hval0 hW

theorem wantedof_holds : Rows.FnExactWantedOfSaid :=
  OpenClaim.holds_of_wide 5 Try.f5 rfl rfl rfl rfl rfl rfl rfl ⟨rfl, rfl, rfl, rfl, rfl⟩ rfl rfl rfl rfl rfl (by kernel_rfl) Try.func5 (by kernel_rfl)
    (of_decide_eq_true (by kernel_rfl)) (by unfold Func.isWrapper; first | (rw [if_pos (by decide +kernel)]; kernel_rfl) | (rw [if_neg (by decide +kernel)]; exact ⟨rfl, rfl⟩))
    (fun os started H enc _ => wantedof_lifted os started H enc)
#print axioms wantedof_holds
end Go.Proofs.Ytmokepopmfcdnaa
