import Derived.Test.YtlkhgamhhblmgaaDoorHm
import Derived.Test.YtlkhgamhhblmgaaDoorIn
namespace Go.Proofs.YtlkhgamhhblmgaaDoor
open Go.RowKit

/-- What CutMark answers. -/
def cutMarkOf (k t : ByteArray) (x : Int) : ByteArray := if 1 ≤ x ∧ x ≤ 32 then (hmacOf k t).extract 0 x.toNat else ⟨#[]⟩

theorem slice_cut (t : ByteArray) (x : Int) (h1 : 0 ≤ x) (h2 : x ≤ (t.size : Int)) (W : World) :
    (Instr.slice 9 (.string t) none (some (.int .i64 x)) none).run Tryd.prog W = .ok (.string (t.extract 0 x.toNat)) W := by
  have h3 : ((t.size : Nat) : Int) ≤ (t.size : Int) := Int.le_refl _
  simp [Instr.slice, run_underlying Tryd.underlying9, Instr.sliceBounds, Instr.sliceBound, asIntOf, h1, h2]

theorem impl_cutmark (k t : ByteArray) (x : Int) (w : World) (hks : k.size ≤ 1048576) (ht : t.size ≤ 1100000) (hk : Keys w) (hst : Starts w) :
    Calls Tryd.prog 22 #[.string k, .string t, .int .i64 x] w fun e w' => e = .returned (.string (cutMarkOf k t x)) ∧ Below w.heap.size w w' := by
  have c1 := impl_hmac k t w hks ht hk hst
  by_cases h : 1 ≤ x ∧ x ≤ 32
  · have hc : cutMarkOf k t x = (hmacOf k t).extract 0 x.toNat := by rw [cutMarkOf, if_pos h]
    have hsl := slice_cut (hmacOf k t) x (by omega) (by rw [hmacOf_size]; omega)
    rw [hc]
    generalize (hmacOf k t).extract 0 x.toNat = r at hsl
    generalize hmacOf k t = m at c1 hsl
    have q1 : ¬ x < 1 := by omega
    have q2 : ¬ 32 < x := by omega
    clear h
    go_enter Tryd.func22, Tryd.ntmps22
    go_wp2_with (go_at_call 11; refine c1.mono ?_; rintro e w1 ⟨rfl, hb1⟩)
    go_ret
    exact ⟨rfl, hb1⟩
  · have hc : cutMarkOf k t x = ⟨#[]⟩ := by rw [cutMarkOf, if_neg h]
    rw [hc]
    by_cases q1 : x < 1
    · clear h
      go_enter Tryd.func22, Tryd.ntmps22
      go_wp2_with (fail)
      go_ret
      exact ⟨rfl, Below.refl _ _⟩
    · have q2 : 32 < x := by omega
      clear h
      go_enter Tryd.func22, Tryd.ntmps22
      go_wp2_with (fail)
      go_ret
      exact ⟨rfl, Below.refl _ _⟩

end Go.Proofs.YtlkhgamhhblmgaaDoor
