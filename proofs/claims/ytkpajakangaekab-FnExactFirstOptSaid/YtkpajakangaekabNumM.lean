import Derived.Test.YtkpajakangaekabBBlk
import Derived.Lib.Hide
namespace Go.Proofs.Ytkpajakangaekab
open Go.RowKit


theorem below_newN (w : World) (o : Obj) : Below w.heap.size w (w.alloc o) := (Below.refl _ _).alloc (Nat.le_refl _) o

/-- The bytes of a number, the highest first. -/
def numBytes (n w : Nat) : List UInt8 := (List.range w).map fun i => UInt8.ofNat (n / 256 ^ (w - 1 - i) % 256)

theorem numBytes_length (n w : Nat) : (numBytes n w).length = w := by simp [numBytes]
theorem numBytes_get (n w k : Nat) (h : k < w) : (((numBytes n w)[k]'(by rw [numBytes_length]; exact h)).toNat : Int) = (n : Int) / (256 ^ (w - 1 - k) : Nat) % 256 := by
  simp only [numBytes, List.getElem_map, List.getElem_range]
  rw [← Int.natCast_ediv]
  generalize n / 256 ^ (w - 1 - k) = q
  simp

/-- The first k bytes are written. -/
def numArr (n w k : Nat) : Array UInt8 := ((numBytes n w).take k ++ List.replicate (w - k) 0).toArray

theorem numArr_size (n w k : Nat) (h : k ≤ w) : (numArr n w k).size = w := by
  unfold numArr
  rw [List.size_toArray, List.length_append, List.length_take, List.length_replicate, numBytes_length]
  omega

theorem numArr_zero (n w : Nat) : numArr n w 0 = Array.replicate w 0 := by unfold numArr; simp
theorem numArr_end (n w : Nat) : numArr n w w = (numBytes n w).toArray := by
  unfold numArr
  rw [List.take_of_length_le (by rw [numBytes_length]; omega)]
  simp

theorem numArr_succ (n w k : Nat) (h : k < w) : numArr n w (k + 1) = (numArr n w k).setIfInBounds k ((numBytes n w)[k]'(by rw [numBytes_length]; exact h)) := by
  unfold numArr
  apply Array.toList_inj.1
  have hl : ((numBytes n w).take k).length = k := by rw [List.length_take, numBytes_length]; omega
  have e : w - k = (w - (k + 1)) + 1 := by omega
  simp only [Array.toList_setIfInBounds]
  rw [List.take_succ_eq_append_getElem (by rw [numBytes_length]; exact h), e, List.replicate_succ, List.set_append_right _ _ (by omega), hl, Nat.sub_self, List.set_cons_zero, List.append_assoc]
  rfl

attribute [irreducible] numBytes numArr

end Go.Proofs.Ytkpajakangaekab
