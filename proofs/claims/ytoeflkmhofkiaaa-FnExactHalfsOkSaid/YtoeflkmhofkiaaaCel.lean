import Derived.Test.YtoeflkmhofkiaaaRows
import Derived.WalkKit
import Derived.Below
import Derived.OwnWalk
import Derived.Laws.Rows
import Derived.Laws.Tables
import Derived.Laws.MakeOwn
import Derived.Lib.Hide
import Derived.Deep.Draws
namespace Go.Proofs.Ytoeflkmhofkiaaa
open Go.RowKit
set_option maxRecDepth 100000

/-- Block g of a world is just these cells, none of them frozen. -/
def Cel (W : World) (g : Nat) (t : TypeId) (cs : Array Value) : Prop := W.heap[g]? = some (.cells cs t (0, 0))

namespace Cel
variable {W W' : World} {g : Nat} {t : TypeId} {cs : Array Value}

theorem lt (h : Cel W g t cs) : g < W.heap.size := (Array.getElem?_eq_some_iff.1 h).1
theorem cell (h : Cel W g t cs) (i : Nat) : W.cell? ⟨g, i, none⟩ = cs[i]? := cell_of_row _ _ i _ _ _ h
theorem frozen (h : Cel W g t cs) (i : Nat) : W.frozen? ⟨g, i, none⟩ = false := by
  have h' : W.heap[g]? = _ := h
  simp [World.frozen?, h']
theorem new (W : World) (t : TypeId) (cs : Array Value) : Cel (W.alloc (.cells cs t)) W.heap.size t cs := by
  show (W.heap.push _)[W.heap.size]? = _
  simp
theorem drewN (h : Cel W g t cs) (n : Nat) : Cel (W.drewN n) g t cs := h
theorem drew (h : Cel W g t cs) : Cel W.drew g t cs := h
theorem alloc (h : Cel W g t cs) (o : Obj) : Cel (W.alloc o) g t cs := by
  show (W.alloc o).heap[g]? = _
  rw [Below.heap_alloc _ _ _ h.lt]; exact h
theorem other (h : Cel W g t cs) (a : Addr) (v : Value) (ha : g ≠ a.block) : Cel (W.setCell a v) g t cs := by
  show (W.setCell a v).heap[g]? = _
  rw [Below.heap_setCell _ _ _ _ ha]; exact h
theorem set (h : Cel W g t cs) (i : Nat) (v : Value) : Cel (W.setCell ⟨g, i, none⟩ v) g t (cs.setIfInBounds i v) := by
  have h' : W.heap[g]? = _ := h
  show (W.heap.modify g _)[g]? = _
  rw [Array.getElem?_modify, if_pos rfl, h']
  simp
theorem below {B : Nat} (h : Cel W g t cs) (hb : Below B W W') (hg : g < B) : Cel W' g t cs := by
  show W'.heap[g]? = _
  rw [hb.block g hg]; exact h
theorem kept (h : Cel W g t cs) (hb : Below W.heap.size W W') : Cel W' g t cs := h.below hb h.lt
theorem grown {row : Option Nat} (h : Cel W g t cs) (hb : W.grownBy W' row) (hr : some g ≠ row) : Cel W' g t cs := by
  show W'.heap[g]? = _
  rw [hb.block g h.lt hr]; exact h
theorem row (h : Cel W g t cs) (ds : Array Value) : Cel (W.setRow g ds) g t ds := setRow_heap _ _ _ _ _ _ h
/-- A struct or array result that lies in a block of its own. -/
theorem result {P : Program} (h : Cel W g t cs) {fn : Func} {p : Tmp} {ty : TypeId} {d : TypeDesc} (hr : fn.results = #[.cell p ty]) (tmps : Array Value) (hp : tmps.getD p undef = .pointer (some ⟨g, 0, none⟩))
    (hu : P.underlying ty = some d) (hd : (match d with | .struct _ | .array _ _ => true | _ => false) = true) (hi : (P.info? ty).map (·.size) = some cs.size) : (results fn tmps).run P W = .ok (.agg cs) W :=
  results_cell_row hr tmps W g t cs (0, 0) d hp h hu hd hi
end Cel

theorem below_new (w : World) (o : Obj) : Below w.heap.size w (w.alloc o) := (Below.refl _ _).alloc (Nat.le_refl _) o
theorem Below.then_ {a b c : World} (h : Below a.heap.size a b) (k : Below b.heap.size b c) : Below a.heap.size a c := h.trans (k.mono h.size)
end Go.Proofs.Ytoeflkmhofkiaaa
