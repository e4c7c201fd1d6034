/-
  The program's ShaStart and its model return the same eight numbers, each time in memory of its own, so the law FnExactShaStart returns true; the program's table of first numbers is tied to the program's text. No other condition.
-/
import Derived.Test.YtnjcmknjfonjpaaDoorVars
import Derived.Test.YtnjcmknjfonjpaaDoorSSt
import Derived.Test.YtnjcmknjfonjpaaDoorCards
import Derived.Test.YtnjcmknjfonjpaaDoorTie
import Derived.Deep.DeepHandedRow
import Derived.Lib.AppendIntMem
import Derived.Stop.LaidErr
namespace Go.Proofs.YtnjcmknjfonjpaaDoor
open Go.ChangeShapes Go.WideShapes Go.ChangeAt Go.RowKit
open Go.ChangeMaps (open_string shut_string)

set_option maxHeartbeats 1000000 in
set_option maxRecDepth 100000 in
theorem start_law (w : World) (hst : Starts w) :
    Calls Tryd.prog 4 #[] w fun e w' => e = .returned (.bool true) ∧ Below w.heap.size w w' := by
  have hl : (words start).length = 8 := by rw [words_length, start_size]
  go_enter Tryd.func4, Tryd.ntmps4
  go_wp2_with (fail)
  refine (spec_start _).mono ?_
  rintro e w1 ⟨v0, C0, rfl, r0, hC0, b1⟩
  have hst1 := hst.below b1
  go_wp2_with (fail)
  refine (impl_start _ hst1).mono ?_
  rintro e w2 ⟨v1, rfl, r1, b2⟩
  have r0 := r0.keep b2 hC0
  go_wp2_with (fail)
  refine (eq_ints v1 v0 _ w2 r1.rd r0.rd (by omega)).mono ?_
  rintro e w3 ⟨rfl, m, rfl⟩
  have r1' : IRow (w2.drewN m) w1.heap.size w2.heap.size v1 (words start) := r1
  have r0' : IRow (w2.drewN m) w.heap.size C0 v0 (words start) := r0
  have b2' : Below w1.heap.size w1 (w2.drewN m) := below_drewN b2 m
  have hs2 : (w2.drewN m).heap.size = w2.heap.size := rfl
  clear r1 r0 b2
  generalize w2.drewN m = w3 at r1' r0' b2' hs2
  have cm := mark_ints v1 (words start) w3 w1.heap.size w2.heap.size 1 r1' (by omega) (by omega)
  rw [hl, show ((1 : Nat) : Int) = 1 from rfl, show ((1 + 8 : Nat) : Int) = 9 from rfl] at cm
  go_wp2_with (fail)
  refine cm.mono ?_
  rintro e w4 ⟨rfl, r4, b4⟩
  have r0 := r0'.keep b4 hC0
  have hB4 : Below w.heap.size w w4 := b1.trans ((b2'.trans b4).mono b1.size)
  have hs14 : w1.heap.size ≤ w4.heap.size := (b2'.trans b4).size
  have hsz4 : w2.heap.size ≤ w4.heap.size := by have := b4.size; omega
  have ch := fun W h => held_ints v1 1 8 W h (by omega) (by omega)
  rw [show ((1 : Nat) : Int) = 1 from rfl, show ((1 + 8 : Nat) : Int) = 9 from rfl] at ch
  clear cm r1' r0' b4 b2'
  go_wp2_with (fail)
  refine (ch w4 r4.rd).mono ?_
  rintro e w' ⟨rfl, rfl⟩
  go_wp2_with (fail)
  refine (impl_start w4 (hst.below hB4)).mono ?_
  rintro e w5 ⟨v5, rfl, r5, b5⟩
  have r0 := r0.keep b5 (by omega)
  have r4 := r4.keep b5 hsz4
  have hB5 := hB4.trans (b5.mono hB4.size)
  go_wp2_with (fail)
  refine (eq_ints v5 v0 _ w5 r5.rd r0.rd (by omega)).mono ?_
  rintro e w6 ⟨rfl, m', rfl⟩
  have r4' : IRow (w5.drewN m') w1.heap.size w2.heap.size v1 (marks 1 8) := r4
  have hB6 : Below w.heap.size w (w5.drewN m') := below_drewN hB5 m'
  generalize w5.drewN m' = w6 at r4' hB6
  go_wp2_with (fail)
  refine (ch w6 r4'.rd).mono ?_
  rintro e w' ⟨rfl, rfl⟩
  go_wp2_with (fail)
  go_ret
  exact ⟨rfl, hB6⟩

set_option maxRecDepth 100000 in
theorem start_contract (H : Type) (enc : TypeId × Value → H) (W : World) (base : Nat) (args : Array Value) (ds gs : List (DataW H)) (before : List MemPlace)
    (hval : ∀ (j : Nat) t v, Tryd.f4.params[j]? = some t → args[j]? = some v → Value.okWide Tryd.prog W .any base t v)
    (hW : DataW.Whole enc Tryd.prog Tryd.f4.params.toList Rows.fnExactShaStartSpec.vars false W args.toList ds gs before) (hL : laidMetH Tryd.prog Rows.fnExactShaStartRow.laid W) :
    Calls Tryd.prog 4 args W fun e W' => ∃ v, e = .returned v ∧ Rows.fnExactShaStartSpec.post enc Tryd.prog Tryd.f4 false true false false W args v W' := by
  have hW' := hW
  obtain ⟨p, q, hA0, hV, rfl, hfz, hnd⟩ := hW
  have hA : DataW.TrodAll enc Tryd.prog W 0 (fun _ => true) true Tryd.f4.params.toList args.toList ds p := hA0
  rw [Tryd.params4] at hA hval
  obtain ⟨hargs, rfl, rfl⟩ := trodAll_nil hA
  obtain rfl : args = #[] := by cases args; simp_all
  obtain ⟨g1, rfl⟩ := vars_one hV
  have hl : laidMet Tryd.prog Rows.fnExactShaStartRow.laid W := hL
  have hs := startTab hl
  clear hA0
  refine (start_law W hs).mono fun e W' ⟨he, hb⟩ => ?_
  subst he
  exact ⟨_, rfl, law_post Tryd.laidOut (by kernel_rfl) (by kernel_rfl) rfl Tryd.underlying4 hW' ⟨rfl, rfl, rfl⟩ hb⟩

/-! A world for the witness: the settled one, each table holding what its initialiser lays. -/
def tabCellsS : DataW Unit → Array Value
  | .agg ds => (ds.map fun d => match d with | .lit (.int k n) => Value.int k n | _ => undef).toArray
  | _ => #[]
def putCellsS (c : Array Value) : Obj → Obj
  | .cells _ t frozen => .cells c t frozen
  | o => o
noncomputable def startWorld (os : Os) : World :=
  { World.holding Tryd.prog os ⟨#[], #[], []⟩ with heap := ((World.holding Tryd.prog os ⟨#[], #[], []⟩).heap.modify 0 (putCellsS (tabCellsS Rows.laid_loop_example_g00967_impl_startWords))).modify 1 (putCellsS (tabCellsS Rows.laid_loop_example_g00967_impl_roundWords)) }
theorem start_met (os : Os) : laidMet Tryd.prog Rows.fnExactShaStartRow.laid ((startWorld os).forCall (fun _ _ => 0) ⟨#[], #[], []⟩).memory :=
  laidMet_of_run' 300 (by kernel_rfl) (by kernel_rfl)
theorem start_reads (os : Os) {H : Type} (enc : TypeId × Value → H) : ∃ places, DataW.whole enc Tryd.prog ((startWorld os).forCall (fun _ _ => 0) ⟨#[], #[], []⟩).memory Tryd.f4.params.toList Rows.fnExactShaStartSpec.vars false (#[] : Array Value).toList 8 = some ([], [Rows.laid_loop_example_g00967_impl_startWords], places) :=
  ⟨MemPlace.row ⟨0, 0, none⟩ 8, by kernel_rfl⟩

set_option maxRecDepth 100000 in
theorem start_lifted (os : Os) (started : os.Started) (H : Type) (enc : TypeId × Value → H) (F : Stop.Interp) :
    ReturnsInHanded {} Tryd.checked os 4 .any ((OpenSpec.ofChange Rows.fnExactShaStartSpec).preRow enc Tryd.prog Tryd.f4 Rows.fnExactShaStartRow.domain false Rows.fnExactShaStartRow.laid) (((OpenSpec.ofChange Rows.fnExactShaStartSpec).at F).post enc Tryd.prog Tryd.f4 false true false false) := by
  obtain ⟨places, hx⟩ := start_reads os enc
  refine returnsInHanded_of_row (C := Tryd.checked) (s := OpenSpec.ofChange Rows.fnExactShaStartSpec) Tryd.own started (by kernel_rfl) Tryd.func4
    (witness_row_at (enc := enc) (C := Tryd.checked) false (startWorld os) #[] rfl (by kernel_rfl) (by kernel_rfl) (by kernel_rfl)
      (OpenSpec.preRow_of_cond 8 hx (by kernel_rfl) (fun k hk => by cases hk) (by kernel_rfl) (start_met os))) ?_
  intro W base args ds gs before hval hW _ _ _ hL _ _
  exact start_contract H enc W base args ds gs before hval hW hL

theorem start_said : Rows.FnExactShaStartSaid :=
  OpenClaim.holds_of_cond 4 Tryd.f4 rfl rfl rfl rfl rfl rfl rfl ⟨rfl, rfl, rfl, rfl, rfl⟩ rfl rfl rfl rfl rfl (by kernel_rfl) Tryd.func4 (by kernel_rfl)
    (of_decide_eq_true (by kernel_rfl)) (by unfold Func.isWrapper; first | (rw [if_pos (by decide +kernel)]; kernel_rfl) | (rw [if_neg (by decide +kernel)]; exact ⟨rfl, rfl⟩))
    (fun os started H enc _ F => by rw [OpenClaim.pre_eq_preRow]; exact start_lifted os started H enc F)

theorem start_plain (f : FuncId) (fn : Func) (hf : Tryd.pinned.checked.prog.funcNamed "loop.example/g00967/laws.FnExactShaStart" = some f) (hfn : Tryd.pinned.checked.prog.funcs[f]? = some fn) :
    false = Tryd.pinned.checked.prog.looks [] ∧ ∀ (j : Nat) t, fn.params[j]? = some t → Tryd.pinned.checked.prog.wantsStandIn t = false := by
  obtain rfl : f = 4 := Option.some.inj ((show Tryd.prog.funcNamed "loop.example/g00967/laws.FnExactShaStart" = some 4 by kernel_rfl).symm.trans hf) |>.symm
  obtain rfl : fn = Tryd.f4 := (Option.some.inj (Tryd.func4.symm.trans hfn)).symm
  refine ⟨by kernel_rfl, fun j t ht => ?_⟩
  rw [Tryd.params4] at ht
  have ht' := Array.mem_of_getElem? ht
  simp at ht'

theorem start_card : Rows.FnExactShaStartCardSaid :=
  Claim7.holds_tied_plain_at .later [] _ _ _ _ start_said (fun _ h => by cases h) (by kernel_rfl) (fun _ h => by cases h) fnExactShaStart_row_tie rfl ⟨rfl, rfl⟩ (by kernel_rfl) rfl start_plain (by kernel_rfl)
#print axioms start_card
end Go.Proofs.YtnjcmknjfonjpaaDoor
