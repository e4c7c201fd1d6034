import Derived.Test.YtkpajakangaekaaPdc
import Derived.Test.YtkpajakangaekaaPpu
import Derived.Test.YtkpajakangaekaaPtk
import Derived.Test.YtkpajakangaekaaPva
import Derived.Test.YtkpajakangaekaaPok
import Derived.Test.YtkpajakangaekaaBig
namespace Go.Proofs.Ytkpajakangaekaa
open Go.RowKit

/-- The law's two streams, in the blocks gp and gp + 1, and the pieces below them. -/
structure Wy (w W : World) (gp : Nat) (xv : Value) (xs : List Pc) (r : Int) (t : ByteArray) (up : Value) (ms : List Pc) (r' : Int) (t' : ByteArray) (uq : Value) (ms' : List Pc) : Prop where
  xr : OwnP W w.heap.size gp xv xs
  p : Cel W gp 28 #[.int .i64 r, .string t, up]
  pr : LieE pcK W (gp + 2) W.heap.size up ms
  q : Cel W (gp + 1) 28 #[.int .i64 r', .string t', uq]
  qr : LieE pcK W (gp + 2) W.heap.size uq ms'
  b : Below w.heap.size w W
  lo : w.heap.size ≤ gp

section
variable {w W W' : World} {gp : Nat} {xv up uq u2 : Value} {xs ms ms' m2 : List Pc} {r r' r2 : Int} {t t' t2 : ByteArray}

theorem Wy.kept (h : Wy w W gp xv xs r t up ms r' t' uq ms') (hb : Below W.heap.size W W') : Wy w W' gp xv xs r t up ms r' t' uq ms' :=
  ⟨h.xr.keep hb (Nat.le_of_lt h.p.lt), h.p.kept hb, (h.pr.keep hb (Nat.le_refl _)).mono (Nat.le_refl _) hb.size, h.q.kept hb, (h.qr.keep hb (Nat.le_refl _)).mono (Nat.le_refl _) hb.size, Below.then_ h.b hb, h.lo⟩

theorem Wy.drew (h : Wy w W gp xv xs r t up ms r' t' uq ms') : Wy w W.drew gp xv xs r t up ms r' t' uq ms' := ⟨h.xr, h.p, h.pr, h.q, h.qr, h.b.drew, h.lo⟩

theorem three_heap (W : World) (g k : Nat) (x y z : Value) (h : k ≠ g) : (((W.setCell ⟨g, 0, none⟩ x).setCell ⟨g, 1, none⟩ y).setCell ⟨g, 2, none⟩ z).heap[k]? = W.heap[k]? := by
  rw [Below.heap_setCell _ _ _ _ (by simpa using h), Below.heap_setCell _ _ _ _ (by simpa using h), Below.heap_setCell _ _ _ _ (by simpa using h)]
theorem three_size (W : World) (g : Nat) (x y z : Value) : (((W.setCell ⟨g, 0, none⟩ x).setCell ⟨g, 1, none⟩ y).setCell ⟨g, 2, none⟩ z).heap.size = W.heap.size := by simp
theorem three_cel {g : Nat} {ty : TypeId} {x0 x1 x2 x y z : Value} (h : Cel W g ty #[x0, x1, x2]) : Cel (((W.setCell ⟨g, 0, none⟩ x).setCell ⟨g, 1, none⟩ y).setCell ⟨g, 2, none⟩ z) g ty #[x, y, z] := by
  have := ((h.set 0 x).set 1 y).set 2 z
  simpa using this
theorem three_other {g k : Nat} {ty : TypeId} {cs : Array Value} {x y z : Value} (h : Cel W k ty cs) (hk : k ≠ g) : Cel (((W.setCell ⟨g, 0, none⟩ x).setCell ⟨g, 1, none⟩ y).setCell ⟨g, 2, none⟩ z) k ty cs :=
  ((h.other ⟨g, 0, none⟩ x hk).other ⟨g, 1, none⟩ y hk).other ⟨g, 2, none⟩ z hk
theorem three_below {B g : Nat} (h : Below B w W) (hg : B ≤ g) (x y z : Value) : Below B w (((W.setCell ⟨g, 0, none⟩ x).setCell ⟨g, 1, none⟩ y).setCell ⟨g, 2, none⟩ z) :=
  ((h.setCell (p := ⟨g, 0, none⟩) hg x).setCell (p := ⟨g, 1, none⟩) hg y).setCell (p := ⟨g, 2, none⟩) hg z

theorem Wy.putp (h : Wy w W gp xv xs r t up ms r' t' uq ms') (hu : LieE pcK W (gp + 2) W.heap.size u2 m2) :
    Wy w (((W.setCell ⟨gp, 0, none⟩ (.int .i64 r2)).setCell ⟨gp, 1, none⟩ (.string t2)).setCell ⟨gp, 2, none⟩ u2) gp xv xs r2 t2 u2 m2 r' t' uq ms' := by
  refine ⟨h.xr.keepAt (fun k hk => three_heap _ _ _ _ _ _ (by have := (OwnE.block h.xr k hk).2; omega)), three_cel h.p, ?_, three_other h.q (by omega), ?_, three_below h.b h.lo _ _ _, h.lo⟩
  · rw [three_size]; exact hu.keepAt fun b hb _ => three_heap _ _ _ _ _ _ (by omega)
  · rw [three_size]; exact h.qr.keepAt fun b hb _ => three_heap _ _ _ _ _ _ (by omega)

theorem Wy.putq (h : Wy w W gp xv xs r t up ms r' t' uq ms') (hu : LieE pcK W (gp + 2) W.heap.size u2 m2) :
    Wy w (((W.setCell ⟨gp + 1, 0, none⟩ (.int .i64 r2)).setCell ⟨gp + 1, 1, none⟩ (.string t2)).setCell ⟨gp + 1, 2, none⟩ u2) gp xv xs r t up ms r2 t2 u2 m2 := by
  refine ⟨h.xr.keepAt (fun k hk => three_heap _ _ _ _ _ _ (by have := (OwnE.block h.xr k hk).2; omega)), three_other h.p (by omega), ?_, three_cel h.q, ?_, three_below h.b (by have := h.lo; omega) _ _ _, h.lo⟩
  · rw [three_size]; exact h.pr.keepAt fun b hb _ => three_heap _ _ _ _ _ _ (by omega)
  · rw [three_size]; exact hu.keepAt fun b hb _ => three_heap _ _ _ _ _ _ (by omega)

theorem Wy.own {W0 : World} (h : Wy w W0 gp xv xs r t up ms r' t' uq ms') (hu : OwnP W W0.heap.size W.heap.size u2 m2) : LieE pcK W (gp + 2) W.heap.size u2 m2 :=
  hu.lie.mono (by have := h.q.lt; omega) (Nat.le_refl _)

/-- A piece's two cells. -/
theorem Wy.el {b xc : Nat} (h : Wy w W gp (.slice (some ⟨b, 0, none⟩) xs.length xc) xs r t up ms r' t' uq ms') (i : Nat) (hi : i < xs.length) :
    W.cell? ⟨b, i * 2, none⟩ = some (.int .i64 xs[i].pos) ∧ W.cell? ⟨b, i * 2 + 1, none⟩ = some (.string xs[i].text) := by
  obtain ⟨h1, h2, -⟩ := pc_own h.xr i hi
  exact ⟨h1, h2⟩
end
end Go.Proofs.Ytkpajakangaekaa
