import Derived.Test.YtoeflkmhofkiaaaRows
import Derived.WalkKit
import Derived.Below
import Derived.OwnWalk
import Derived.IntWalk
import Derived.Laws.OwnMore
import Derived.Deep.AppendLies
import Derived.Deep.QuietTactic
import Derived.BigRegion
namespace Go.Proofs.Ytoeflkmhofkiaaa
open Go.RowKit
set_option maxRecDepth 100000

/-- v reads as the integers zs. -/
def Rd (W : World) (v : Value) (zs : List Int) : Prop :=
  ∃ a c, v = .slice a zs.length c ∧ (0 < zs.length → ∃ b off, a = some ⟨b, off, none⟩ ∧ ∀ j (h : j < zs.length), W.cell? ⟨b, off + j, none⟩ = some (.int .i64 zs[j]))

/-- v reads as the integers zs, in a row of its own from block B on and below block C. -/
def IRow (W : World) (B C : Nat) (v : Value) (zs : List Int) : Prop :=
  W.ownsRow B 3 1 v zs.length (zs.map (Value.int .i64)) ∧ ∀ g, v.ownBlock = some g → g < C

theorem IRow.keep {W W' : World} {B C D : Nat} {v : Value} {zs : List Int} (h : IRow W B C v zs) (hb : Below D W W') (hC : C ≤ D) : IRow W' B C v zs := by
  obtain ⟨⟨h1, h2⟩, h3⟩ := h
  refine ⟨⟨h1, ?_⟩, h3⟩
  rcases h2 with h2 | ⟨g, cap, cur, hv, hg, hh, r⟩
  · exact .inl h2
  · refine .inr ⟨g, cap, cur, hv, hg, ?_, r⟩
    rw [hb.block g (Nat.lt_of_lt_of_le (h3 g (by rw [hv]; rfl)) hC)]
    exact hh

theorem IRow.rd {W : World} {B C : Nat} {v : Value} {zs : List Int} (h : IRow W B C v zs) : Rd W v zs := by
  obtain ⟨⟨h1, h2⟩, h3⟩ := h
  rcases h2 with ⟨rfl, h2⟩ | ⟨g, cap, cur, rfl, hg, hh, r1, r2, r3, r4⟩
  · exact ⟨none, 0, by rw [h2], fun h => by omega⟩
  · refine ⟨some ⟨g, 0, none⟩, cap, rfl, fun _ => ⟨g, 0, rfl, fun j hj => ?_⟩⟩
    rw [Nat.zero_add, cell_of_row _ _ _ _ _ _ hh]
    have h5 := congrArg (fun x => x[j]?) r4
    rw [Nat.mul_one] at h5
    simp only [List.getElem?_take, hj, ↓reduceIte, List.getElem?_map] at h5
    rw [List.getElem?_eq_getElem hj] at h5
    simpa using h5

theorem Rd.below {W W' : World} {v : Value} {zs : List Int} (h : Rd W v zs) (hb : Below W.heap.size W W') : Rd W' v zs := by
  obtain ⟨a, c, rfl, h⟩ := h
  refine ⟨a, c, rfl, fun h0 => ?_⟩
  obtain ⟨b, off, rfl, hc⟩ := h h0
  refine ⟨b, off, rfl, fun j hj => ?_⟩
  have := hc j hj
  have hlt := World.block_lt_of_cell? _ _ this
  rw [hb.cell hlt]
  exact this

/-- Block g is a row of integers, whole. -/
def IBlk (W : World) (g : Nat) (d : Array Int) : Prop := W.heap[g]? = some (.cells (d.map (Value.int .i64)) 3 (0, 0))

theorem IBlk.lt {W : World} {g : Nat} {d : Array Int} (h : IBlk W g d) : g < W.heap.size := (Array.getElem?_eq_some_iff.1 h).1

theorem IBlk.cell {W : World} {g : Nat} {d : Array Int} (h : IBlk W g d) (i : Nat) (hi : i < d.size) : W.cell? ⟨g, i, none⟩ = some (.int .i64 d[i]!) := by
  rw [cell_of_row _ _ _ _ _ _ h, Array.getElem?_map, Array.getElem?_eq_getElem hi, getElem!_pos d i hi]
  rfl

theorem IBlk.frozen {W : World} {g : Nat} {d : Array Int} (h : IBlk W g d) (i : Nat) : W.frozen? ⟨g, i, none⟩ = false := by
  have h' : W.heap[g]? = _ := h
  simp [World.frozen?, h']

theorem IBlk.other {W : World} {g : Nat} {d : Array Int} (h : IBlk W g d) (a : Addr) (v : Value) (ha : g ≠ a.block) : IBlk (W.setCell a v) g d := by
  show (W.setCell a v).heap[g]? = _
  rw [Below.heap_setCell _ _ _ _ ha]; exact h

theorem IBlk.set {W : World} {g : Nat} {d : Array Int} (h : IBlk W g d) (i : Nat) (x : Int) : IBlk (W.setCell ⟨g, i, none⟩ (.int .i64 x)) g (d.setIfInBounds i x) := by
  have h' : W.heap[g]? = _ := h
  show (W.heap.modify g _)[g]? = _
  rw [Array.getElem?_modify, if_pos rfl, h']
  simp only [Option.map_some, Option.isSome_none, Bool.false_eq_true, ↓reduceIte, Option.some.injEq, Obj.cells.injEq, and_true]
  rw [Array.map_setIfInBounds]

theorem IBlk.row {W : World} {g : Nat} {d : Array Int} (h : IBlk W g d) {B C : Nat} (hB : B ≤ g) (hC : g < C) (hm : d.size ≤ maxLen) : IRow W B C (.slice (some ⟨g, 0, none⟩) d.size d.size) d.toList := by
  refine ⟨⟨by simp, .inr ⟨g, d.size, d.map (Value.int .i64), by simp, hB, h, by simp, hm, by simp, ?_⟩⟩, ?_⟩
  · rw [Array.toList_map, List.take_of_length_le (by simp)]
  · intro g' hg'
    simp [Value.ownBlock] at hg'
    omega

theorem infoI : (Try.prog.info? 3).map (fun i => (i.zero, i.size, i.bytes)) = some (some (.int .i64 0), 1, 8) := by kernel_rfl

theorem make_ints (n : Nat) (hn : n ≤ 1048576) (W : World) :
    (Instr.makeSlice 84 (.int .i64 (n : Int)) (.int .i64 (n : Int))).run Try.prog W = .ok (.slice (some ⟨W.heap.size, 0, none⟩) n n) (W.alloc (.cells ((Array.replicate n (0 : Int)).map (Value.int .i64)) 3)) := by
  obtain ⟨i0, hi, hz0, hz1, hz2⟩ := info_parts infoI
  have h := run_makeSlice (P := Try.prog) W 84 3 i0 _ Try.underlying84 hi hz0 .i64 .i64 (n : Int) (n : Int) (by omega) (by omega) (by rw [hz1]; omega) (by rw [hz2]; omega) (by omega)
  rw [h, hz1]
  have e : madeCells (Value.int .i64 0).cells (Int.toNat (n : Int) * 1) = (Array.replicate n (0 : Int)).map (Value.int .i64) := by
    apply Array.ext
    · simp [madeCells]
    · intro i h1 h2
      simp [madeCells, Value.cells, Nat.mod_one]
  rw [e]
  simp

theorem alloc_iblk (W : World) (d : Array Int) : IBlk (W.alloc (.cells (d.map (Value.int .i64)) 3)) W.heap.size d := by
  show (W.heap.push _)[W.heap.size]? = _
  simp

theorem IRow.cell {W : World} {B C : Nat} {g n cap : Nat} {zs : List Int} (h : IRow W B C (.slice (some ⟨g, 0, none⟩) n cap) zs) (j : Nat) (hj : j < zs.length) :
    W.cell? ⟨g, j, none⟩ = some (.int .i64 zs[j]) ∧ W.frozen? ⟨g, j, none⟩ = false := by
  obtain ⟨⟨h1, h2⟩, h3⟩ := h
  rcases h2 with ⟨h2, _⟩ | ⟨g', cap', cur, hv, hg, hh, r1, r2, r3, r4⟩
  · cases h2
  · injection hv with e1 e2 e3
    injection e1 with e1
    injection e1 with e1
    subst e1
    constructor
    · rw [cell_of_row _ _ _ _ _ _ hh]
      have h5 := congrArg (fun x => x[j]?) r4
      rw [Nat.mul_one] at h5
      simp only [List.getElem?_take, hj, ↓reduceIte, List.getElem?_map] at h5
      rw [List.getElem?_eq_getElem hj] at h5
      simpa using h5
    · simp [World.frozen?, hh]

theorem IRow.set {W : World} {B C : Nat} {g n cap : Nat} {zs : List Int} (h : IRow W B C (.slice (some ⟨g, 0, none⟩) n cap) zs) (j : Nat) (x : Int) :
    IRow (W.setCell ⟨g, j, none⟩ (.int .i64 x)) B C (.slice (some ⟨g, 0, none⟩) n cap) (zs.set j x) := by
  obtain ⟨⟨h1, h2⟩, h3⟩ := h
  rcases h2 with ⟨h2, _⟩ | ⟨g', cap', cur, hv, hg, hh, r1, r2, r3, r4⟩
  · cases h2
  · injection hv with e1 e2 e3
    injection e1 with e1
    injection e1 with e1
    subst e1 e2 e3
    refine ⟨⟨by simp, .inr ⟨g, cap, cur.setIfInBounds j (.int .i64 x), by simp, hg, ?_, by simpa using r1, r2, by simpa using r3, ?_⟩⟩, h3⟩
    · show (W.heap.modify g _)[g]? = _
      rw [Array.getElem?_modify, if_pos rfl, hh]
      simp
    · rw [Array.toList_setIfInBounds, List.length_set, List.map_set, ← r4, Nat.mul_one, List.take_set]

end Go.Proofs.Ytoeflkmhofkiaaa
