import Derived.Test.YtdajfnonehianaaRows
import Derived.WalkKit
import Derived.Below
import Derived.Deep.QuietTactic
import Derived.BigQuiet
import Derived.Laws.BitsAllLaws
import Derived.Lib.Hide
namespace Go.Proofs.Ytdajfnonehianaa
open Go.RowKit

theorem below_drewN' {B : Nat} {a w : World} (h : Below B a w) (n : Nat) : Below B a (w.drewN n) := ⟨h.os, h.tape, h.output, h.size, h.block⟩

theorem bits_xor_u8 (a m : UInt8) : bits .xor .u8 (a.toNat : Int) (m.toNat : Int) = ((a ^^^ m).toNat : Int) := by
  rw [u8_xor_nat _ _ a.toNat_lt m.toNat_lt, UInt8.toNat_xor]

theorem bits_or_u8 (a m : UInt8) : bits .or .u8 (a.toNat : Int) (m.toNat : Int) = ((a ||| m).toNat : Int) := by
  rw [u8_or_nat _ _ a.toNat_lt m.toNat_lt, UInt8.toNat_or]

/-- What the first k bytes of two texts differ by. -/
def diffTo (a b : ByteArray) : Nat → UInt8
  | 0 => 0
  | k + 1 => diffTo a b k ||| (a.data.getD k 0 ^^^ b.data.getD k 0)

theorem u8_or_zero (x y : UInt8) : x ||| y = 0 ↔ x = 0 ∧ y = 0 := by
  constructor
  · intro h
    have h' := congrArg UInt8.toNat h
    rw [UInt8.toNat_or] at h'
    have hx : x.toNat = 0 := by
      apply Nat.eq_of_testBit_eq; intro i
      have := congrArg (Nat.testBit · i) h'
      simp [Nat.testBit_or] at this
      simp [this]
    have hy : y.toNat = 0 := by
      apply Nat.eq_of_testBit_eq; intro i
      have := congrArg (Nat.testBit · i) h'
      simp [Nat.testBit_or] at this
      simp [this]
    exact ⟨UInt8.toNat_inj.1 hx, UInt8.toNat_inj.1 hy⟩
  · rintro ⟨rfl, rfl⟩; rfl

theorem u8_xor_zero (x y : UInt8) : x ^^^ y = 0 ↔ x = y := UInt8.xor_eq_zero_iff

theorem diffTo_zero (a b : ByteArray) (k : Nat) : diffTo a b k = 0 ↔ ∀ i, i < k → a.data.getD i 0 = b.data.getD i 0 := by
  induction k with
  | zero => simp [diffTo]
  | succ k ih =>
    rw [diffTo, u8_or_zero, ih, u8_xor_zero]
    constructor
    · rintro ⟨h1, h2⟩ i hi
      rcases Nat.lt_succ_iff_lt_or_eq.1 hi with h | rfl
      · exact h1 i h
      · exact h2
    · intro h
      exact ⟨fun i hi => h i (by omega), h k (by omega)⟩

theorem diffTo_end (a b : ByteArray) (h : a.size = b.size) : diffTo a b a.size = 0 ↔ a = b := by
  rw [diffTo_zero]
  constructor
  · intro hi
    apply ByteArray.ext
    apply Array.ext h
    intro i h1 h2
    have := hi i h1
    simp only [Array.getD, h1, h2, ↓reduceDIte] at this
    exact this
  · rintro rfl i _; rfl

theorem diffTo_succ (a b : ByteArray) (k : Nat) (h1 : k < a.size) (h2 : k < b.size) : diffTo a b (k + 1) = diffTo a b k ||| (a[k] ^^^ b[k]) := by
  have g1 : k < a.data.size := h1
  have g2 : k < b.data.size := h2
  rw [diffTo]
  simp only [Array.getD, g1, g2, ↓reduceDIte]
  rfl

attribute [irreducible] diffTo

end Go.Proofs.Ytdajfnonehianaa
