import Derived.Test.YtlkhgamhhblmgaaDoorTabs
import Derived.Test.YtlkhgamhhblmgaaDoorDig
namespace Go.Proofs.YtlkhgamhhblmgaaDoor
open Go.RowKit

/-- The 32 bytes with those of the first k words written. -/
def outArr (d : Array (BitVec 32)) : Nat → Array UInt8
  | 0 => Array.replicate 32 0
  | k + 1 => ((((outArr d k).setIfInBounds (4 * k) (wbyte d[k]! 24)).setIfInBounds (4 * k + 1) (wbyte d[k]! 16)).setIfInBounds (4 * k + 2) (wbyte d[k]! 8)).setIfInBounds (4 * k + 3) (wbyte d[k]! 0)

theorem outArr_size (d : Array (BitVec 32)) (k : Nat) : (outArr d k).size = 32 := by
  induction k with
  | zero => simp [outArr]
  | succ k ih => simp [outArr, ih]

theorem set_four (l r : List UInt8) (n : Nat) (h : l.length = n) (a b c e x0 x1 x2 x3 : UInt8) :
    ((((l ++ (x0 :: x1 :: x2 :: x3 :: r)).set n a).set (n + 1) b).set (n + 2) c).set (n + 3) e = l ++ [a, b, c, e] ++ r := by
  subst h
  simp

theorem outArr_list (d : Array (BitVec 32)) (k : Nat) (hk : k ≤ 8) : (outArr d k).toList = stText d k ++ List.replicate (32 - 4 * k) 0 := by
  induction k with
  | zero => simp [outArr, stText]
  | succ k ih =>
    have ih := ih (by omega)
    have e : 32 - 4 * k = (32 - 4 * (k + 1)) + 4 := by omega
    rw [e] at ih
    simp only [outArr, Array.toList_setIfInBounds, ih]
    rw [List.replicate_succ, List.replicate_succ, List.replicate_succ, List.replicate_succ]
    rw [set_four _ _ _ (stText_length d k), stText_succ]
    rfl

theorem outArr_end (d : Array (BitVec 32)) : (outArr d 8).toList = stText d 8 := by
  rw [outArr_list d 8 (by omega)]; simp

theorem outArr_zero (d : Array (BitVec 32)) : outArr d 0 = Array.replicate 32 0 := by rw [outArr]
theorem outArr_succ (d : Array (BitVec 32)) (k : Nat) : outArr d (k + 1) = ((((outArr d k).setIfInBounds (4 * k) (wbyte d[k]! 24)).setIfInBounds (4 * k + 1) (wbyte d[k]! 16)).setIfInBounds (4 * k + 2) (wbyte d[k]! 8)).setIfInBounds (4 * k + 3) (wbyte d[k]! 0) := by rw [outArr]

attribute [irreducible] outArr

/-- Block g is a row of bytes, whole. -/
def BBlk (W : World) (g : Nat) (d : Array UInt8) : Prop := W.heap[g]? = some (.cells (d.map cb) 5 (0, 0))

theorem BBlk.lt {W : World} {g : Nat} {d : Array UInt8} (h : BBlk W g d) : g < W.heap.size := (Array.getElem?_eq_some_iff.1 h).1

theorem BBlk.cell {W : World} {g : Nat} {d : Array UInt8} (h : BBlk W g d) (i : Nat) (hi : i < d.size) : ∃ v, W.cell? ⟨g, i, none⟩ = some v := by
  rw [cell_of_row _ _ _ _ _ _ h]
  exact ⟨_, Array.getElem?_eq_getElem (by simpa using hi)⟩

theorem BBlk.frozen {W : World} {g : Nat} {d : Array UInt8} (h : BBlk W g d) (i : Nat) : W.frozen? ⟨g, i, none⟩ = false := by
  have h' : W.heap[g]? = _ := h
  simp [World.frozen?, h']

theorem BBlk.other {W : World} {g : Nat} {d : Array UInt8} (h : BBlk W g d) (a : Addr) (v : Value) (ha : g ≠ a.block) : BBlk (W.setCell a v) g d := by
  show (W.setCell a v).heap[g]? = _
  rw [Below.heap_setCell _ _ _ _ ha]; exact h

theorem BBlk.set {W : World} {g : Nat} {d : Array UInt8} (h : BBlk W g d) (i : Nat) (x : UInt8) : BBlk (W.setCell ⟨g, i, none⟩ (cb x)) g (d.setIfInBounds i x) := by
  have h' : W.heap[g]? = _ := h
  show (W.heap.modify g _)[g]? = _
  rw [Array.getElem?_modify, if_pos rfl, h']
  simp only [Option.map_some, Option.isSome_none, Bool.false_eq_true, ↓reduceIte, Option.some.injEq, Obj.cells.injEq, and_true]
  rw [Array.map_setIfInBounds]

theorem BBlk.conv {W : World} {g : Nat} {d : Array UInt8} (h : BBlk W g d) (n : Nat) (hn : d.size = n) : (convert 22 9 (.slice (some ⟨g, 0, none⟩) n n)).run Tryd.prog W = .ok (.string ⟨d⟩) W := by
  have hl : d.toList.length = n := by simpa using hn
  have h2 := run_convert_bytes_back (P := Tryd.prog) W 22 9 5 ⟨g, 0, none⟩ n d.toList Tryd.underlying22 Tryd.underlying5 Tryd.underlying9 fun j hj => by
    have hadd : (⟨g, 0, none⟩ : Addr).add j = ⟨g, j, none⟩ := by unfold Addr.add; split <;> simp_all
    rw [hadd, cell_of_row _ _ _ _ _ _ h]
    have hj' : j < d.size := by simpa using hj
    rw [Array.getElem?_map, Array.getElem?_eq_getElem hj']
    simp [cb]
  rw [hl, Array.toArray_toList] at h2
  exact h2

end Go.Proofs.YtlkhgamhhblmgaaDoor
