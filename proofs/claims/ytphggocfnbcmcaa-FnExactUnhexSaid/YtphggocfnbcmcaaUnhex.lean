/-
  For every text, the program's Unhex and its model return the same text and the same flag, so the law FnExactUnhex returns true and leaves its argument as it was. No condition.
-/
import Derived.Test.YtphggocfnbcmcaaUnhexC
import Derived.Test.YtphggocfnbcmcaaLaw
namespace Go.Proofs.Ytphggocfnbcmcaa
open Go.ChangeShapes Go.WideShapes Go.ChangeAt Go.RowKit
open Go.ChangeMaps (open_string shut_string)

theorem unhexEnd_bad (s : ByteArray) (h : ¬ (s.size ≤ 40000 ∧ s.size % 2 = 0)) : Value.tuple #[.string ByteArray.empty, .bool false] = unhexEnd s := by
  unfold unhexEnd
  rw [if_neg h]

theorem unhexEnd_form (s : ByteArray) : ∃ t b, unhexEnd s = .tuple #[.string t, .bool b] := by
  unfold unhexEnd
  split
  · split
    · exact ⟨_, _, rfl⟩
    · exact ⟨_, _, rfl⟩
  · exact ⟨_, _, rfl⟩

theorem model_all (s : ByteArray) (w : World) (hs : s.size ≤ 1048576) :
    Calls Try.prog 7 #[.string s] w fun e w' => e = .returned (unhexEnd s) ∧ Below w.heap.size w w' := by
  by_cases h1 : s.size ≤ 40000
  · by_cases h2 : s.size % 2 = 0
    · exact model_unhex s w h1 h2
    · have h3 : ((s.size : Int) % 2 != 0) = true := by simp; omega
      go_enter Try.func7, Try.ntmps7
      go_wp2
      go_ret2
      exact ⟨ret_val (unhexEnd_bad s (by omega)), Below.refl _ _⟩
  · go_enter Try.func7, Try.ntmps7
    go_wp2
    go_ret2
    exact ⟨ret_val (unhexEnd_bad s (by omega)), Below.refl _ _⟩

theorem program_all (s : ByteArray) (w : World) (hs : s.size ≤ 1048576) :
    Calls Try.prog 8 #[.string s] w fun e w' => e = .returned (unhexEnd s) ∧ Below w.heap.size w w' := by
  by_cases h2 : s.size % 2 = 0
  · by_cases h1 : s.size ≤ 40000
    · exact program_unhex s w h1 h2
    · have h3 : ((s.size : Int) % 2 != 0) = false := by simp; omega
      go_enter Try.func8, Try.ntmps8
      go_wp2
      go_ret2
      exact ⟨ret_val (unhexEnd_bad s (by omega)), Below.refl _ _⟩
  · have h3 : ((s.size : Int) % 2 != 0) = true := by simp; omega
    go_enter Try.func8, Try.ntmps8
    go_wp2
    go_ret2
    exact ⟨ret_val (unhexEnd_bad s (by omega)), Below.refl _ _⟩

theorem unhex_law (s : ByteArray) (w : World) :
    Calls Try.prog 4 #[.string s] w fun e w' => e = .returned (.bool true) ∧ Below w.heap.size w w' := by
  by_cases h1 : s.size ≤ 1048576
  · have c1 := fun w => model_all s w h1
    have c2 := fun w => program_all s w h1
    obtain ⟨t, b, ht⟩ := unhexEnd_form s
    rw [ht] at c1 c2
    clear ht
    go_enter Try.func4, Try.ntmps4
    go_wp2_with (first
      | (go_at_call 7; refine (c1 _).mono ?_; rintro e w1 ⟨rfl, hb1⟩)
      | (go_at_call 8; refine (c2 _).mono ?_; rintro e w2 ⟨rfl, hb2⟩))
    go_ret
    exact ⟨rfl, hb1.trans (hb2.mono hb1.size)⟩
  · go_enter Try.func4, Try.ntmps4
    go_wp2
    go_ret
    exact ⟨rfl, Below.refl _ _⟩

set_option maxRecDepth 100000 in
theorem unhex_lifted (os : Os) (started : os.Started) (H : Type) (enc : TypeId × Value → H) :
    ReturnsInHanded {} Try.checked os 4 .any (Rows.fnExactUnhexSpec.pre6 enc Try.prog Try.f4 Rows.fnExactUnhexRow.domain false) (Rows.fnExactUnhexSpec.post enc Try.prog Try.f4 false true false false) := by
  refine returnsInHanded_of_change (C := Try.checked) Try.own started (by kernel_rfl) Try.func4
    (ChangeSpec.witness6 (enc := enc) (C := Try.checked) false ⟨#[], #[.string ByteArray.empty], []⟩ 8 (by kernel_rfl) (by kernel_rfl) (by kernel_rfl) (by kernel_rfl)) ?_
  intro W base args ds gs before hval0 hW hcnd _
  have hval : ∀ (j : Nat) t v, Try.f4.params[j]? = some t → args[j]? = some v → Value.okWide Try.prog W .any base t v := hval0
  have hW' := hW
  obtain ⟨p, q, hA0, hV, rfl, hfz, hnd⟩ := hW
  have hA : DataW.TrodAll enc Try.prog W 0 (fun _ => true) true Try.f4.params.toList args.toList ds p := hA0
  rw [Try.params4] at hA hval
  obtain ⟨v0, vs0, d0, ds0, p0, q0, hargs, rfl, rfl, h0, r0⟩ := trodAll_cons hA
  obtain ⟨rfl, rfl, rfl⟩ := trodAll_nil r0
  obtain rfl : args = #[v0] := by cases args; simp_all
  obtain ⟨s, rfl, rfl, rfl, hs⟩ := open_string Try.underlying9 (hval 0 9 v0 rfl rfl) h0
  clear hA0 hval0
  refine (unhex_law s W).mono fun e W' ⟨he, hb⟩ => ?_
  subst he
  exact ⟨_, rfl, law_post Try.laidOut (by kernel_rfl) rfl (by kernel_rfl) Try.underlying4 hW' ⟨rfl, rfl, rfl⟩ hb⟩

theorem unhex_holds : Rows.FnExactUnhexSaid :=
  OpenClaim.holds_of_wide 4 Try.f4 rfl rfl rfl rfl rfl rfl rfl ⟨rfl, rfl, rfl, rfl, rfl⟩ rfl rfl rfl rfl rfl (by kernel_rfl) Try.func4 (by kernel_rfl)
    (of_decide_eq_true (by kernel_rfl)) (by unfold Func.isWrapper; first | (rw [if_pos (by decide +kernel)]; kernel_rfl) | (rw [if_neg (by decide +kernel)]; exact ⟨rfl, rfl⟩))
    (fun os started H enc _ => unhex_lifted os started H enc)
#print axioms unhex_holds
end Go.Proofs.Ytphggocfnbcmcaa
