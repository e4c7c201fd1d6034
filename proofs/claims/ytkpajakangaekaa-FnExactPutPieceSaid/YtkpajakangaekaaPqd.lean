import Derived.Test.YtkpajakangaekaaPlw
import Derived.Test.YtkpajakangaekaaEk2
namespace Go.Proofs.Ytkpajakangaekaa
open Go.RowKit

/-- What a law that asks for a stream has laid: the argument's block; the model's answer; the stream that was handed in; the program's answer. -/
structure Qm (w W : World) (ga gm bm : Nat) (r r' : Int) (t t' : ByteArray) (v mv : Value) (os : List Pc) : Prop where
  a : Cel W ga 41 #[.int .i64 r, .string t, v]
  m : Cel W gm 28 #[.int .i64 r', .string t', mv]
  mr : LieE pcK W bm gm mv os
  b : Below w.heap.size w W
  o1 : w.heap.size = ga
  o2 : ga < bm
structure Qx (w W : World) (ga gm gx bm bx : Nat) (r r' : Int) (t t' : ByteArray) (v mv xv : Value) (os xs : List Pc) : Prop extends Qm w W ga gm bm r r' t t' v mv os where
  x : Cel W gx 28 #[.int .i64 r, .string t, xv]
  xr : OwnP W bx gx xv xs
  o3 : gm < bx
structure Qd (w W : World) (ga gm gx gg bm bx bg : Nat) (r r' : Int) (t t' : ByteArray) (v mv xv gv : Value) (os xs gs : List Pc) : Prop extends Qx w W ga gm gx bm bx r r' t t' v mv xv os xs where
  g : Cel W gg 28 #[.int .i64 r', .string t', gv]
  gr : OwnP W bg gg gv gs
  o4 : gx < bg
  o5 : bm ≤ gm
  o6 : bx ≤ gx
  o7 : bg ≤ gg
section
variable {w W W' : World} {ga gm gx gg bm bx bg : Nat} {r r' : Int} {t t' : ByteArray} {v mv xv gv : Value} {ms os xs gs : List Pc}
theorem Qm.kept (h : Qm w W ga gm bm r r' t t' v mv os) (hb : Below W.heap.size W W') : Qm w W' ga gm bm r r' t t' v mv os := ⟨h.a.kept hb, h.m.kept hb, h.mr.keep hb (Nat.le_of_lt h.m.lt), Below.then_ h.b hb, h.o1, h.o2⟩
theorem Qx.kept (h : Qx w W ga gm gx bm bx r r' t t' v mv xv os xs) (hb : Below W.heap.size W W') : Qx w W' ga gm gx bm bx r r' t t' v mv xv os xs := ⟨h.toQm.kept hb, h.x.kept hb, h.xr.keep hb (Nat.le_of_lt h.x.lt), h.o3⟩
theorem Qd.kept (h : Qd w W ga gm gx gg bm bx bg r r' t t' v mv xv gv os xs gs) (hb : Below W.heap.size W W') : Qd w W' ga gm gx gg bm bx bg r r' t t' v mv xv gv os xs gs := ⟨h.toQx.kept hb, h.g.kept hb, h.gr.keep hb (Nat.le_of_lt h.g.lt), h.o4, h.o5, h.o6, h.o7⟩
theorem Qd.drew (h : Qd w W ga gm gx gg bm bx bg r r' t t' v mv xv gv os xs gs) : Qd w W.drew ga gm gx gg bm bx bg r r' t t' v mv xv gv os xs gs := ⟨⟨⟨h.a, h.m, h.mr, h.b.drew, h.o1, h.o2⟩, h.x, h.xr, h.o3⟩, h.g, h.gr, h.o4, h.o5, h.o6, h.o7⟩
theorem Qm.cells (h : Qm w W ga gm bm r r' t t' v mv os) : (W.cell? ⟨ga, 0, none⟩ = some (.int .i64 r) ∧ W.cell? ⟨ga, 1, none⟩ = some (.string t) ∧ W.cell? ⟨ga, 2, none⟩ = some (v)) := cel3' h.a
theorem Qx.cells (h : Qx w W ga gm gx bm bx r r' t t' v mv xv os xs) : (W.cell? ⟨gx, 0, none⟩ = some (.int .i64 r) ∧ W.cell? ⟨gx, 1, none⟩ = some (.string t) ∧ W.cell? ⟨gx, 2, none⟩ = some (xv)) := cel3' h.x
theorem Qd.cells (h : Qd w W ga gm gx gg bm bx bg r r' t t' v mv xv gv os xs gs) : (W.cell? ⟨ga, 0, none⟩ = some (.int .i64 r) ∧ W.cell? ⟨ga, 1, none⟩ = some (.string t) ∧ W.cell? ⟨ga, 2, none⟩ = some (v)) ∧ (W.cell? ⟨gm, 0, none⟩ = some (.int .i64 r') ∧ W.cell? ⟨gm, 1, none⟩ = some (.string t') ∧ W.cell? ⟨gm, 2, none⟩ = some (mv)) ∧ (W.cell? ⟨gx, 0, none⟩ = some (.int .i64 r) ∧ W.cell? ⟨gx, 1, none⟩ = some (.string t) ∧ W.cell? ⟨gx, 2, none⟩ = some (xv)) ∧ (W.cell? ⟨gg, 0, none⟩ = some (.int .i64 r') ∧ W.cell? ⟨gg, 1, none⟩ = some (.string t') ∧ W.cell? ⟨gg, 2, none⟩ = some (gv)) :=
  ⟨cel3' h.a, cel3' h.m, cel3' h.x, cel3' h.g⟩
theorem Qd.markX (h : Qd w W ga gm gx gg bm bx bg r r' t t' v mv xv gv os xs gs) {xs2 : List Pc} (h1 : OwnP W' bx gx xv xs2) (h2 : Below bx W W') (h3 : W.grownBy W' xv.ownBlock) : Qd w W' ga gm gx gg bm bx bg r r' t t' v mv xv gv os xs2 gs := by
  have hb : ∀ k, xv.ownBlock = some k → bx ≤ k ∧ k < gx := fun k hk => h1.block k hk
  have p1 := h.o1
  have p2 := h.o2
  have p3 := h.o3
  have p4 := h.o4
  have p5 := h.o5
  have p6 := h.o6
  have hgb := h.gr.block
  refine ⟨⟨⟨h.a.below h2 (by omega), h.m.below h2 (by omega), h.mr.keep h2 (by omega), h.b.trans (h2.mono (by omega)), p1, p2⟩, h.x.grown h3 (fun e => by have := hb _ e.symm; omega), h1, p3⟩, h.g.grown h3 (fun e => ?_), h.gr.grown h3 (Nat.le_of_lt h.g.lt) (fun k hk e => ?_), p4, p5, p6, h.o7⟩
  · have k1 := hb _ e.symm
    have := h.o7
    omega
  · have k1 := hb _ e.symm
    have k2 := hgb k hk
    omega
theorem Qd.markG (h : Qd w W ga gm gx gg bm bx bg r r' t t' v mv xv gv os xs gs) {gs2 : List Pc} (h1 : OwnP W' bg gg gv gs2) (h2 : Below bg W W') (h3 : W.grownBy W' gv.ownBlock) : Qd w W' ga gm gx gg bm bx bg r r' t t' v mv xv gv os xs gs2 := by
  have hb : ∀ k, gv.ownBlock = some k → bg ≤ k ∧ k < gg := fun k hk => h1.block k hk
  have p1 := h.o1
  have p2 := h.o2
  have p3 := h.o3
  have p4 := h.o4
  have p5 := h.o5
  have p6 := h.o6
  exact ⟨⟨⟨h.a.below h2 (by omega), h.m.below h2 (by omega), h.mr.keep h2 (by omega), h.b.trans (h2.mono (by omega)), p1, p2⟩, h.x.below h2 (by omega), h.xr.keep h2 (by omega), p3⟩, h.g.grown h3 (fun e => by have := hb _ e.symm; omega), h1, p4, p5, p6, h.o7⟩
end
end Go.Proofs.Ytkpajakangaekaa
