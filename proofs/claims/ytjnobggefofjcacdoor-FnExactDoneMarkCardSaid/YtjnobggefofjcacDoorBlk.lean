import Derived.Test.YtjnobggefofjcacDoorU32
import Derived.Below
import Derived.Laws.Tables
namespace Go.Proofs.YtjnobggefofjcacDoor
open Go.RowKit

theorem below_drewN {B : Nat} {a w : World} (h : Below B a w) (n : Nat) : Below B a (w.drewN n) := ⟨h.os, h.tape, h.output, h.size, h.block⟩

/-- Block g is an array of words, whole. -/
def Blk (W : World) (g : Nat) (t : TypeId) (d : Array (BitVec 32)) : Prop := W.heap[g]? = some (.cells (d.map u) t (0, 0))

theorem Blk.lt {W : World} {g : Nat} {t : TypeId} {d : Array (BitVec 32)} (h : Blk W g t d) : g < W.heap.size := (Array.getElem?_eq_some_iff.1 h).1

theorem Blk.cell {W : World} {g : Nat} {t : TypeId} {d : Array (BitVec 32)} (h : Blk W g t d) (i : Nat) (hi : i < d.size) : W.cell? ⟨g, i, none⟩ = some (u d[i]!) := by
  rw [cell_of_row _ _ _ _ _ _ h, Array.getElem?_map, Array.getElem?_eq_getElem hi, getElem!_pos d i hi]
  rfl

theorem Blk.frozen {W : World} {g : Nat} {t : TypeId} {d : Array (BitVec 32)} (h : Blk W g t d) (i : Nat) : W.frozen? ⟨g, i, none⟩ = false := by
  have h' : W.heap[g]? = _ := h
  simp [World.frozen?, h']

theorem Blk.new (W : World) (t : TypeId) (d : Array (BitVec 32)) : Blk (W.alloc (.cells (d.map u) t)) W.heap.size t d := by
  show (W.heap.push _)[W.heap.size]? = _
  simp

theorem Blk.alloc {W : World} {g : Nat} {t : TypeId} {d : Array (BitVec 32)} (h : Blk W g t d) (o : Obj) : Blk (W.alloc o) g t d := by
  show (W.alloc o).heap[g]? = _
  rw [Below.heap_alloc _ _ _ h.lt]; exact h

theorem Blk.drewN {W : World} {g : Nat} {t : TypeId} {d : Array (BitVec 32)} (h : Blk W g t d) (n : Nat) : Blk (W.drewN n) g t d := h

theorem Blk.other {W : World} {g : Nat} {t : TypeId} {d : Array (BitVec 32)} (h : Blk W g t d) (a : Addr) (v : Value) (ha : g ≠ a.block) : Blk (W.setCell a v) g t d := by
  show (W.setCell a v).heap[g]? = _
  rw [Below.heap_setCell _ _ _ _ ha]; exact h

theorem Blk.set {W : World} {g : Nat} {t : TypeId} {d : Array (BitVec 32)} (h : Blk W g t d) (i : Nat) (x : BitVec 32) : Blk (W.setCell ⟨g, i, none⟩ (u x)) g t (d.setIfInBounds i x) := by
  have h' : W.heap[g]? = _ := h
  show (W.heap.modify g _)[g]? = _
  rw [Array.getElem?_modify, if_pos rfl, h']
  simp only [Option.map_some, Option.isSome_none, Bool.false_eq_true, ↓reduceIte, Option.some.injEq, Obj.cells.injEq, and_true]
  rw [Array.map_setIfInBounds]

theorem Blk.below {W W' : World} {g : Nat} {t : TypeId} {d : Array (BitVec 32)} (h : Blk W g t d) {B : Nat} (hb : Below B W W') (hg : g < B) : Blk W' g t d := by
  show W'.heap[g]? = _
  rw [hb.block g hg]; exact h

theorem Blk.load {W : World} {g : Nat} {t : TypeId} {d : Array (BitVec 32)} (h : Blk W g t d) {P : Program} (ty : TypeId) (n : Nat) (e : TypeId) (hu : P.underlying ty = some (.array n e))
    (hi : (P.info? ty).map (·.size) = some d.size) :
    (Instr.loadAt ty (.pointer (some ⟨g, 0, none⟩))).run P W = .ok (.agg (d.map u)) W := by
  simp only [Instr.loadAt, Instr.sureAddr, Sem.run_bind, Sem.run_pure, Result.andThen]
  exact run_loadVar_row _ _ t ty _ (0, 0) _ h hu rfl (by simpa using hi)

theorem all_one (d : Array (BitVec 32)) : (d.map u).all (·.oneCell') = true := by
  rw [Array.all_map, Array.all_eq_true]
  intro i hi
  rfl

theorem Blk.store {W : World} {g : Nat} {t : TypeId} {d : Array (BitVec 32)} (h : Blk W g t d) {P : Program} (ty : TypeId) (d' : Array (BitVec 32)) (hs : d'.size = d.size)
    (hi : (P.info? ty).map (·.size) = some d.size) :
    (Instr.storeAt ty (.pointer (some ⟨g, 0, none⟩)) (.agg (d'.map u))).run P W = .ok () (W.setRow g (d'.map u)) := by
  simp only [Instr.storeAt, Instr.sureAddr, Sem.run_bind, Sem.run_pure, Result.andThen]
  exact run_storeVar_row _ _ t ty _ _ h (by simpa [hs] using hi) (by simp [hs]) (all_one _)

theorem Blk.loadFrom {W : World} {g : Nat} {t : TypeId} {d : Array (BitVec 32)} (h : Blk W g t d) {P : Program} (n : Nat) (hn : d.size = n) :
    (loadCellsFrom ⟨g, 0, none⟩ 0 n #[]).run P W = .ok (d.map u) W := by
  subst hn
  have := run_loadCells_list (P := P) W ⟨g, 0, none⟩ (d.map u).toList (fun j v hv => by
    have hadd : (⟨g, 0, none⟩ : Addr).add j = ⟨g, j, none⟩ := by unfold Addr.add; split <;> simp_all
    rw [hadd, cell_of_row _ _ j (d.map u) t (0, 0) h]
    simpa using hv)
  rw [Array.toArray_toList] at this
  simpa only [loadCells, Array.length_toList, Array.size_map] using this

theorem Blk.storeFrom {W : World} {g : Nat} {t : TypeId} {d : Array (BitVec 32)} (h : Blk W g t d) {P : Program} (ty : TypeId) (d' : Array (BitVec 32)) (hs : d'.size = d.size)
    (hi : (P.info? ty).map (·.size) = some d.size) :
    (storeCells ⟨g, 0, none⟩ (d'.map u).toList 0).run P W = .ok () (W.setRow g (d'.map u)) := by
  have := run_storeVar_row (P := P) W g t ty _ (d'.map u) h (by simpa [hs] using hi) (by simp [hs]) (all_one _)
  cases hq : P.info? ty with
  | none => simp [hq] at hi
  | some i =>
    have hs : d'.size = i.size := by simp [hq] at hi; omega
    simpa [storeVar, sizeOf, typeInfo, hq, Value.cells, hs] using this

theorem Blk.setRow {W : World} {g : Nat} {t : TypeId} {d : Array (BitVec 32)} (h : Blk W g t d) (d' : Array (BitVec 32)) : Blk (W.setRow g (d'.map u)) g t d' := setRow_heap _ _ _ _ _ _ h

theorem heap_setRow (W : World) (g : Nat) (cs : Array Value) (k : Nat) (hk : k ≠ g) : (W.setRow g cs).heap[k]? = W.heap[k]? := by
  show (W.heap.modify g _)[k]? = _
  rw [Array.getElem?_modify, if_neg (Ne.symm hk)]

theorem Blk.otherRow {W : World} {g g' : Nat} {t : TypeId} {d : Array (BitVec 32)} (h : Blk W g t d) (cs : Array Value) (hg : g ≠ g') : Blk (W.setRow g' cs) g t d := by
  show (W.setRow g' cs).heap[g]? = _
  rw [heap_setRow _ _ _ _ hg]; exact h

theorem below_setRow {B : Nat} {a w : World} (h : Below B a w) (g : Nat) (hg : B ≤ g) (cs : Array Value) : Below B a (w.setRow g cs) :=
  ⟨h.os, h.tape, h.output, by rw [show (w.setRow g cs).heap.size = w.heap.size from by simp [World.setRow]]; exact h.size, fun k hk => by rw [heap_setRow _ _ _ _ (by omega)]; exact h.block k hk⟩

end Go.Proofs.YtjnobggefofjcacDoor
