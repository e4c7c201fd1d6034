import Derived.Test.YtkpajakangaekabPart
import Derived.IntWalk
namespace Go.Proofs.Ytkpajakangaekab
open Go.RowKit

/-- The number that bytes are, the highest first. -/
def numOf (l : List UInt8) : Nat := l.foldl (fun n c => n * 256 + c.toNat) 0

theorem numOf_nil : numOf [] = 0 := rfl
theorem numOf_snoc (l : List UInt8) (c : UInt8) : numOf (l ++ [c]) = numOf l * 256 + c.toNat := by simp [numOf, List.foldl_append]

theorem foldl_lt (l : List UInt8) (n : Nat) : l.foldl (fun n c => n * 256 + c.toNat) n < (n + 1) * 256 ^ l.length := by
  induction l generalizing n with
  | nil => simp
  | cons c l ih =>
    have hc := c.toNat_lt
    have h := ih (n * 256 + c.toNat)
    rw [List.foldl_cons, List.length_cons, Nat.pow_succ]
    have h2 : (n * 256 + c.toNat + 1) * 256 ^ l.length ≤ ((n + 1) * 256) * 256 ^ l.length := Nat.mul_le_mul_right _ (by omega)
    calc _ < _ := h
      _ ≤ _ := h2
      _ = _ := by rw [Nat.mul_assoc, Nat.mul_comm 256]

theorem numOf_lt (l : List UInt8) : numOf l < 256 ^ l.length := by
  have h := foldl_lt l 0
  simpa [numOf] using h

theorem numOf_take_lt (s : ByteArray) (k : Nat) (hk : k < s.size) (h6 : s.size ≤ 6) : numOf (s.data.toList.take k) < 1099511627776 := by
  have h := numOf_lt (s.data.toList.take k)
  have hl : (s.data.toList.take k).length ≤ 5 := by rw [List.length_take]; omega
  have := Nat.pow_le_pow_right (n := 256) (by omega) hl
  omega

theorem take_snoc (s : ByteArray) (k : Nat) (h : k < s.size) : s.data.toList.take (k + 1) = s.data.toList.take k ++ [s[k]] := by
  rw [List.take_succ_eq_append_getElem (by simpa using h)]; rfl

theorem or_low (n : Nat) (c : UInt8) (hn : n < 1099511627776) : bits .or .i64 ((n : Int) * 256) (c.toNat : Int) = ((n * 256 + c.toNat : Nat) : Int) := by
  have hc := c.toNat_lt
  have e : ∀ n : Nat, n < 9223372036854775808 → (BitVec.ofInt 64 (n : Int)).toNat = n := fun n hn => by
    rw [BitVec.ofInt_natCast, BitVec.toNat_ofNat]; exact Nat.mod_eq_of_lt (by omega)
  rw [show ((n : Int) * 256) = ((n * 256 : Nat) : Int) by omega]
  show IntKind.i64.wrap ((BitVec.ofInt 64 ((n * 256 : Nat) : Int) ||| BitVec.ofInt 64 (c.toNat : Int)).toNat : Int) = _
  rw [BitVec.toNat_or, e _ (by omega), e _ (by omega)]
  have : n * 256 ||| c.toNat = n * 256 + c.toNat := by
    rw [show n * 256 = n <<< 8 by rw [Nat.shiftLeft_eq]]
    rw [Nat.shiftLeft_add_eq_or_of_lt (by omega)]
  rw [this]
  exact IntWalk.i64_in _ (by omega)

attribute [irreducible] numOf

/-- The number that stands at a, m bytes wide. -/
def natAt (s : ByteArray) (a m : Int) : Nat := numOf (s.extract a.toNat (a + m).toNat).data.toList

theorem part_size (s : ByteArray) (a m : Int) (h : Part s a m) : (s.extract a.toNat (a + m).toNat).size = m.toNat := by
  obtain ⟨h0, h1, h2⟩ := h
  simp only [ByteArray.size_extract]; omega

end Go.Proofs.Ytkpajakangaekab
