import Derived.Test.YtjnobggefofjcacDoorBBlk
import Derived.Test.YtjnobggefofjcacDoorTabs
import Derived.Test.YtjnobggefofjcacDoorDig
namespace Go.Proofs.YtjnobggefofjcacDoor
open Go.RowKit

/-- The 32 bytes with those of the first k words written. -/
def outArr (d : Array (BitVec 32)) : Nat → Array UInt8
  | 0 => Array.replicate 32 0
  | k + 1 => ((((outArr d k).setIfInBounds (4 * k) (wbyte d[k]! 24)).setIfInBounds (4 * k + 1) (wbyte d[k]! 16)).setIfInBounds (4 * k + 2) (wbyte d[k]! 8)).setIfInBounds (4 * k + 3) (wbyte d[k]! 0)

theorem outArr_size (d : Array (BitVec 32)) (k : Nat) : (outArr d k).size = 32 := by
  induction k with
  | zero => simp [outArr]
  | succ k ih => simp [outArr, ih]

theorem set_four (l r : List UInt8) (n : Nat) (h : l.length = n) (a b c e x0 x1 x2 x3 : UInt8) :
    ((((l ++ (x0 :: x1 :: x2 :: x3 :: r)).set n a).set (n + 1) b).set (n + 2) c).set (n + 3) e = l ++ [a, b, c, e] ++ r := by
  subst h
  simp

theorem outArr_list (d : Array (BitVec 32)) (k : Nat) (hk : k ≤ 8) : (outArr d k).toList = stText d k ++ List.replicate (32 - 4 * k) 0 := by
  induction k with
  | zero => simp [outArr, stText]
  | succ k ih =>
    have ih := ih (by omega)
    have e : 32 - 4 * k = (32 - 4 * (k + 1)) + 4 := by omega
    rw [e] at ih
    simp only [outArr, Array.toList_setIfInBounds, ih]
    rw [List.replicate_succ, List.replicate_succ, List.replicate_succ, List.replicate_succ]
    rw [set_four _ _ _ (stText_length d k), stText_succ]
    rfl

theorem outArr_end (d : Array (BitVec 32)) : (outArr d 8).toList = stText d 8 := by
  rw [outArr_list d 8 (by omega)]; simp

theorem outArr_zero (d : Array (BitVec 32)) : outArr d 0 = Array.replicate 32 0 := by rw [outArr]
theorem outArr_succ (d : Array (BitVec 32)) (k : Nat) : outArr d (k + 1) = ((((outArr d k).setIfInBounds (4 * k) (wbyte d[k]! 24)).setIfInBounds (4 * k + 1) (wbyte d[k]! 16)).setIfInBounds (4 * k + 2) (wbyte d[k]! 8)).setIfInBounds (4 * k + 3) (wbyte d[k]! 0) := by rw [outArr]

attribute [irreducible] outArr

end Go.Proofs.YtjnobggefofjcacDoor
