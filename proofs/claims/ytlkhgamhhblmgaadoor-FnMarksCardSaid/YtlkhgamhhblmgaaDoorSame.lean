import Derived.Test.YtlkhgamhhblmgaaDoorRows
import Derived.WalkKit
import Derived.Below
import Derived.Deep.QuietTactic
import Derived.BigQuiet
import Derived.Laws.BitsAllLaws
import Derived.Lib.Hide
namespace Go.Proofs.YtlkhgamhhblmgaaDoor
open Go.RowKit

theorem below_drewN' {B : Nat} {a w : World} (h : Below B a w) (n : Nat) : Below B a (w.drewN n) := ⟨h.os, h.tape, h.output, h.size, h.block⟩

theorem bits_xor_u8 (a m : UInt8) : bits .xor .u8 (a.toNat : Int) (m.toNat : Int) = ((a ^^^ m).toNat : Int) := by
  rw [u8_xor_nat _ _ a.toNat_lt m.toNat_lt, UInt8.toNat_xor]

theorem bits_or_u8 (a m : UInt8) : bits .or .u8 (a.toNat : Int) (m.toNat : Int) = ((a ||| m).toNat : Int) := by
  rw [u8_or_nat _ _ a.toNat_lt m.toNat_lt, UInt8.toNat_or]

/-- What the first k bytes of two texts differ by. -/
def diffTo (a b : ByteArray) : Nat → UInt8
  | 0 => 0
  | k + 1 => diffTo a b k ||| (a.data.getD k 0 ^^^ b.data.getD k 0)

theorem u8_or_zero (x y : UInt8) : x ||| y = 0 ↔ x = 0 ∧ y = 0 := by
  constructor
  · intro h
    have h' := congrArg UInt8.toNat h
    rw [UInt8.toNat_or] at h'
    have hx : x.toNat = 0 := by
      apply Nat.eq_of_testBit_eq; intro i
      have := congrArg (Nat.testBit · i) h'
      simp [Nat.testBit_or] at this
      simp [this]
    have hy : y.toNat = 0 := by
      apply Nat.eq_of_testBit_eq; intro i
      have := congrArg (Nat.testBit · i) h'
      simp [Nat.testBit_or] at this
      simp [this]
    exact ⟨UInt8.toNat_inj.1 hx, UInt8.toNat_inj.1 hy⟩
  · rintro ⟨rfl, rfl⟩; rfl

theorem u8_xor_zero (x y : UInt8) : x ^^^ y = 0 ↔ x = y := UInt8.xor_eq_zero_iff

theorem diffTo_zero (a b : ByteArray) (k : Nat) : diffTo a b k = 0 ↔ ∀ i, i < k → a.data.getD i 0 = b.data.getD i 0 := by
  induction k with
  | zero => simp [diffTo]
  | succ k ih =>
    rw [diffTo, u8_or_zero, ih, u8_xor_zero]
    constructor
    · rintro ⟨h1, h2⟩ i hi
      rcases Nat.lt_succ_iff_lt_or_eq.1 hi with h | rfl
      · exact h1 i h
      · exact h2
    · intro h
      exact ⟨fun i hi => h i (by omega), h k (by omega)⟩

theorem diffTo_end (a b : ByteArray) (h : a.size = b.size) : diffTo a b a.size = 0 ↔ a = b := by
  rw [diffTo_zero]
  constructor
  · intro hi
    apply ByteArray.ext
    apply Array.ext h
    intro i h1 h2
    have := hi i h1
    simp only [Array.getD, h1, h2, ↓reduceDIte] at this
    exact this
  · rintro rfl i _; rfl

theorem diffTo_succ (a b : ByteArray) (k : Nat) (h1 : k < a.size) (h2 : k < b.size) : diffTo a b (k + 1) = diffTo a b k ||| (a[k] ^^^ b[k]) := by
  have g1 : k < a.data.size := h1
  have g2 : k < b.data.size := h2
  rw [diffTo]
  simp only [Array.getD, g1, g2, ↓reduceDIte]
  rfl

attribute [irreducible] diffTo

set_option maxHeartbeats 400000 in
theorem impl_same (a b : ByteArray) (w : World) (ha : a.size ≤ 9223372036854775807) (_hb : b.size ≤ 9223372036854775807) :
    Calls Tryd.prog 23 #[.string a, .string b] w fun e w' => e = .returned (.bool (decide (a = b))) ∧ Below w.heap.size w w' := by
  by_cases hl : a.size = b.size
  · have hend := diffTo_end a b hl
    have q0 : (((a.size : Int)) != (b.size : Int)) = false := by simp [hl]
    have hl2 : b.size ≤ a.size := by omega
    have hl3 : a.size ≤ b.size := by omega
    clear hl
    have HE := Lib.hid hend
    clear hend
    have h0 : diffTo a b 0 = 0 := by unfold diffTo; rfl
    go_enter Tryd.func23, Tryd.ntmps23
    go_wp2_with (fail)
    go_loopw [5, 14] (fun d i wr => ∃ k n : Nat, k ≤ a.size ∧ i = .int .i64 k ∧ d = .int .u8 ((diffTo a b k).toNat : Int) ∧ wr = w.drewN n) (fun _ i _ => a.size - (intOf i).toNat)
    case atStart => exact ⟨0, 0, by omega, rfl, by rw [h0]; rfl, rfl⟩
    case round =>
      clear h0 q0
      obtain ⟨k, n, hk, rfl, rfl, rfl⟩ := hrel
      by_cases hlt : k < a.size
      · have hlt2 : k < b.size := by omega
        have q : (k : Int) < (a.size : Int) := by omega
        have e2 := bits_or_u8 (diffTo a b k) (a[k] ^^^ b[k])
        rw [← diffTo_succ a b k hlt hlt2] at e2
        have E2 := Lib.hid e2
        clear e2
        go_wp2_with (fail)
        go_quiet (fail)
        go_wp2_with (fail)
        go_roundw
        case rel => exact ⟨k + 1, _, by omega, by go_num, by rw [bits_xor_u8, E2.out], rfl⟩
        case measure => simp [intOf]; omega
      · obtain rfl : k = a.size := by omega
        have q : ¬ ((a.size : Int) < (a.size : Int)) := by omega
        by_cases he : a = b
        · have h0 := HE.out.2 he
          have e2 := Lib.hid (decide_eq_true he)
          rw [h0]
          go_wp2_with (fail)
          go_ret
          exact ⟨by first | rfl | (rw [e2.out]; rfl) | (rw [e2.out]; simp), below_drewN' (Below.refl _ _) n⟩
        · have h0 : ¬ diffTo a b a.size = 0 := fun h => he (HE.out.1 h)
          have e2 := Lib.hid (decide_eq_false he)
          have e3 : ¬ (diffTo a b a.size).toNat = 0 := fun h => h0 (UInt8.toNat_inj.1 h)
          have e4 : (((diffTo a b a.size).toNat : Int) == 0) = false := by simpa using e3
          clear h0 he
          generalize (diffTo a b a.size).toNat = d at e3 e4 ⊢
          go_wp2_with (fail)
          go_ret
          exact ⟨by first | rfl | (rw [e2.out]; rfl) | (rw [e2.out]; simp), below_drewN' (Below.refl _ _) n⟩
  · have q0 : (((a.size : Int)) != (b.size : Int)) = true := by simp; omega
    have e2 : decide (a = b) = false := decide_eq_false (fun h => hl (by rw [h]))
    rw [e2]
    clear e2
    go_enter Tryd.func23, Tryd.ntmps23
    go_wp2_with (fail)
    go_ret
    exact ⟨rfl, Below.refl _ _⟩
end Go.Proofs.YtlkhgamhhblmgaaDoor
