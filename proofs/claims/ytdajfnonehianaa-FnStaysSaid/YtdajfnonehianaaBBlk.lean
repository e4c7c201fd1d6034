import Derived.Test.YtdajfnonehianaaBytes
import Derived.Laws.IdiomStrings
import Derived.Laws.MakeOwn
namespace Go.Proofs.Ytdajfnonehianaa
open Go.RowKit

/-- Block g is a row of bytes, whole. -/
def BBlk (W : World) (g : Nat) (d : Array UInt8) : Prop := W.heap[g]? = some (.cells (d.map cb) 5 (0, 0))

theorem BBlk.lt {W : World} {g : Nat} {d : Array UInt8} (h : BBlk W g d) : g < W.heap.size := (Array.getElem?_eq_some_iff.1 h).1

theorem BBlk.cell {W : World} {g : Nat} {d : Array UInt8} (h : BBlk W g d) (i : Nat) (hi : i < d.size) : ∃ v, W.cell? ⟨g, i, none⟩ = some v := by
  rw [cell_of_row _ _ _ _ _ _ h]
  exact ⟨_, Array.getElem?_eq_getElem (by simpa using hi)⟩

theorem BBlk.frozen {W : World} {g : Nat} {d : Array UInt8} (h : BBlk W g d) (i : Nat) : W.frozen? ⟨g, i, none⟩ = false := by
  have h' : W.heap[g]? = _ := h
  simp [World.frozen?, h']

theorem BBlk.other {W : World} {g : Nat} {d : Array UInt8} (h : BBlk W g d) (a : Addr) (v : Value) (ha : g ≠ a.block) : BBlk (W.setCell a v) g d := by
  show (W.setCell a v).heap[g]? = _
  rw [Below.heap_setCell _ _ _ _ ha]; exact h

theorem BBlk.set {W : World} {g : Nat} {d : Array UInt8} (h : BBlk W g d) (i : Nat) (x : UInt8) : BBlk (W.setCell ⟨g, i, none⟩ (cb x)) g (d.setIfInBounds i x) := by
  have h' : W.heap[g]? = _ := h
  show (W.heap.modify g _)[g]? = _
  rw [Array.getElem?_modify, if_pos rfl, h']
  simp only [Option.map_some, Option.isSome_none, Bool.false_eq_true, ↓reduceIte, Option.some.injEq, Obj.cells.injEq, and_true]
  rw [Array.map_setIfInBounds]

theorem BBlk.conv {W : World} {g : Nat} {d : Array UInt8} (h : BBlk W g d) (n : Nat) (hn : d.size = n) : (convert 22 9 (.slice (some ⟨g, 0, none⟩) n n)).run Try.prog W = .ok (.string ⟨d⟩) W := by
  have hl : d.toList.length = n := by simpa using hn
  have h2 := run_convert_bytes_back (P := Try.prog) W 22 9 5 ⟨g, 0, none⟩ n d.toList Try.underlying22 Try.underlying5 Try.underlying9 fun j hj => by
    have hadd : (⟨g, 0, none⟩ : Addr).add j = ⟨g, j, none⟩ := by unfold Addr.add; split <;> simp_all
    rw [hadd, cell_of_row _ _ _ _ _ _ h]
    have hj' : j < d.size := by simpa using hj
    rw [Array.getElem?_map, Array.getElem?_eq_getElem hj']
    simp [cb]
  rw [hl, Array.toArray_toList] at h2
  exact h2

theorem makeRow (n : Nat) (hn : n ≤ 1000000) (W : World) :
    (Instr.makeSlice 22 (.int .i64 (n : Int)) (.int .i64 (n : Int))).run Try.prog W = .ok (.slice (some ⟨W.heap.size, 0, none⟩) n n) (W.alloc (.cells ((Array.replicate n (0 : UInt8)).map cb) 5)) := by
  obtain ⟨i0, hi, hz0, hz1, hz2⟩ := info_parts info5
  have h := run_makeSlice (P := Try.prog) W 22 5 i0 _ Try.underlying22 hi hz0 .i64 .i64 (n : Int) (n : Int) (by omega) (by omega) (by rw [hz1]; simp; omega) (by rw [hz2]; omega) (by omega)
  rw [h, hz1]
  have e : madeCells (Value.int .u8 0).cells ((n : Int).toNat * 1) = (Array.replicate n (0 : UInt8)).map cb := by
    apply Array.ext
    · simp [madeCells, Value.cells]
    · intro i h1 h2
      simp [madeCells, Value.cells, cb, Nat.mod_one]
  rw [e]
  rfl

end Go.Proofs.Ytdajfnonehianaa
