import Derived.Test.YtnlbeoifmdfbjaaDoorOto
import Derived.Test.YtnlbeoifmdfbjaaDoorOeq
import Derived.Lib.Hide
import Derived.Deep.RegionHeld3
import Derived.Deep.Cut
namespace Go.Proofs.YtnlbeoifmdfbjaaDoor
open Go.RowKit

theorem Cel.loadRow {W : World} {g : Nat} {t : TypeId} {cs : Array Value} (h : Cel W g t cs) {P : Program} (n : Nat) (hn : cs.size = n) :
    (loadCells ⟨g, 0, none⟩ n).run P W = .ok cs W := by
  subst hn
  have := run_loadCells_list (P := P) W ⟨g, 0, none⟩ cs.toList (fun j v hv => by
    have hadd : (⟨g, 0, none⟩ : Addr).add j = ⟨g, j, none⟩ := by unfold Addr.add; split <;> simp_all
    rw [hadd, cell_of_row _ _ j cs t (0, 0) h]
    simpa using hv)
  rw [Array.toArray_toList] at this
  simpa only [Array.length_toList] using this

attribute [-go_sem] loadCells loadCellsFrom

theorem szOv_in (o : Ov) (l : Int) (h : ¬ szOv o l < 0) : 0 ≤ szOv o l ∧ szOv o l ≤ l ∧ (o.ids.length : Int) ≤ l ∧ (o.key.size : Int) ≤ l ∧ (o.mark.size : Int) ≤ l := by
  unfold szOv at *
  split at h
  · rename_i hx
    rw [if_pos hx]
    omega
  · omega

/-- A new variable, and what is stored in it. -/
theorem new_row (W : World) (t : TypeId) (old cs : Array Value) : Cel ((W.alloc (.cells old t)).setRow W.heap.size cs) W.heap.size t cs ∧ Below W.heap.size W ((W.alloc (.cells old t)).setRow W.heap.size cs) := by
  refine ⟨(Cel.new W t old).row cs, ?_⟩
  have hB := (Below.refl W.heap.size W).alloc (Nat.le_refl _) (.cells old t)
  exact ⟨hB.os, hB.tape, hB.output, by rw [show ∀ (W : World) g cs, (W.setRow g cs).heap.size = W.heap.size from fun W g cs => by simp [World.setRow]]; exact hB.size, fun k hk => by
    show ((World.heap _).modify _ _)[k]? = _
    rw [Array.getElem?_modify, if_neg (by omega)]
    exact hB.block k hk⟩

theorem zeroOpt (W : World) : (W.alloc (.cells #[.int .i64 0, .int .i64 0, .int .i64 0, .int .i64 0, .int .i64 0, .int .i64 0, .int .i64 0, .int .i64 0, .int .i64 0, .int .i64 0, .bool false, .string ⟨#[]⟩, .string ⟨#[]⟩, .slice none 0 0] 39)).heap[W.heap.size]? = some (.cells #[.int .i64 0, .int .i64 0, .int .i64 0, .int .i64 0, .int .i64 0, .int .i64 0, .int .i64 0, .int .i64 0, .int .i64 0, .int .i64 0, .bool false, .string ⟨#[]⟩, .string ⟨#[]⟩, .slice none 0 0] 39 (0, 0)) := Cel.new _ _ _

theorem sizeArg (o : Ov) (v : Value) : (Tryd.prog.info? 48).map (·.size) = some (o.cells v).size := by rw [Ov.cells_size]; kernel_rfl

/-- What stays while a law goes on: the options that came in, as they lie in their blocks. -/
structure Two (W : World) (g0 g1 : Nat) (a b : Ov) (v u : Value) : Prop where
  c0 : W.heap[g0]? = some (.cells (a.cells v) 48 (0, 0))
  c1 : W.heap[g1]? = some (.cells (b.cells u) 48 (0, 0))
  r0 : Rd W v a.ids
  r1 : Rd W u b.ids

theorem Two.kept {W W' : World} {g0 g1 : Nat} {a b : Ov} {v u : Value} (h : Two W g0 g1 a b v u) (hb : Below W.heap.size W W') : Two W' g0 g1 a b v u :=
  ⟨Cel.kept (show Cel W g0 _ _ from h.c0) hb, Cel.kept (show Cel W g1 _ _ from h.c1) hb, h.r0.below hb, h.r1.below hb⟩

theorem to_one (o : Ov) (v : Value) (w : World) (hv : Rd w v o.ids) (hn : o.ids.length ≤ 1048576) :
    Calls Tryd.prog 23 #[.agg (o.cells v)] w fun e w' => ∃ (a : Option Addr) (c : Nat), e = .returned (.agg (o.cells (.slice a o.ids.length c))) ∧ IRow w' w.heap.size w'.heap.size (.slice a o.ids.length c) o.ids ∧ Below w.heap.size w w' :=
  (to_opt o v w hv hn).mono fun e w' ⟨v', he, hi, hb⟩ => by
    obtain ⟨a, c, rfl, -⟩ := hi.rd
    exact ⟨a, c, he, hi, hb⟩

theorem two_all {w W : World} {g0 g1 : Nat} {a b : Ov} {v u : Value} (h : Two W g0 g1 a b v u) (hb : Below w.heap.size w W) :
    Two W g0 g1 a b v u ∧ (loadCells ⟨g0, 0, none⟩ 14).run Tryd.prog W = .ok (a.cells v) W ∧ (loadCells ⟨g1, 0, none⟩ 14).run Tryd.prog W = .ok (b.cells u) W ∧ Below w.heap.size w W :=
  ⟨h, Cel.loadRow (show Cel W g0 _ _ from h.c0) 14 (Ov.cells_size _ _), Cel.loadRow (show Cel W g1 _ _ from h.c1) 14 (Ov.cells_size _ _), hb⟩

theorem two_keep3 {w W : World} {g0 g1 : Nat} {a b : Ov} {v u : Value} (h : Two W g0 g1 a b v u ∧ Below w.heap.size w W) :
    Two W.drew g0 g1 a b v u ∧ (loadCells ⟨g0, 0, none⟩ 14).run Tryd.prog W.drew = .ok (a.cells v) W.drew ∧ (loadCells ⟨g1, 0, none⟩ 14).run Tryd.prog W.drew = .ok (b.cells u) W.drew ∧ Below w.heap.size w W.drew :=
  two_all ⟨h.1.c0, h.1.c1, h.1.r0, h.1.r1⟩ h.2.drew

theorem two_keep {w W W' : World} {g0 g1 : Nat} {a b : Ov} {v u : Value} (h : Two W g0 g1 a b v u ∧ (loadCells ⟨g0, 0, none⟩ 14).run Tryd.prog W = .ok (a.cells v) W ∧ (loadCells ⟨g1, 0, none⟩ 14).run Tryd.prog W = .ok (b.cells u) W ∧ Below w.heap.size w W) (hb : Below W.heap.size W W') :
    Two W' g0 g1 a b v u ∧ (loadCells ⟨g0, 0, none⟩ 14).run Tryd.prog W' = .ok (a.cells v) W' ∧ (loadCells ⟨g1, 0, none⟩ 14).run Tryd.prog W' = .ok (b.cells u) W' ∧ Below w.heap.size w W' :=
  two_all (h.1.kept hb) (Below.then_ h.2.2.2 hb)

/-- An option of the call's own. -/
structure Own (W : World) (g : Nat) (o : Ov) (x : Value) : Prop where
  c : W.heap[g]? = some (.cells (o.cells x) 39 (0, 0))
  r : Rd W x o.ids

theorem Own.kept {W W' : World} {g : Nat} {o : Ov} {x : Value} (h : Own W g o x) (hb : Below W.heap.size W W') : Own W' g o x :=
  ⟨Cel.kept (show Cel W g _ _ from h.c) hb, h.r.below hb⟩

theorem own_new {W w : World} {o : Ov} {x : Value} {old : Array Value} (hx : IRow W w.heap.size W.heap.size x o.ids) : Own ((W.alloc (.cells old 39)).setRow W.heap.size (o.cells x)) W.heap.size o x :=
  ⟨(new_row W _ old _).1, (hx.keep (new_row W 39 old (o.cells x)).2 (Nat.le_refl _)).rd⟩

theorem eight_all {w W : World} {g0 g1 g2 g3 : Nat} {a b : Ov} {v u x y : Value} (h : Two W g0 g1 a b v u) (hb : Below w.heap.size w W) (hx : Own W g2 a x) (hy : Own W g3 b y) :
    Two W g0 g1 a b v u ∧ (loadCells ⟨g0, 0, none⟩ 14).run Tryd.prog W = .ok (a.cells v) W ∧ (loadCells ⟨g1, 0, none⟩ 14).run Tryd.prog W = .ok (b.cells u) W ∧ Below w.heap.size w W ∧ Own W g2 a x ∧ Own W g3 b y ∧
      (loadCells ⟨g2, 0, none⟩ 14).run Tryd.prog W = .ok (a.cells x) W ∧ (loadCells ⟨g3, 0, none⟩ 14).run Tryd.prog W = .ok (b.cells y) W :=
  ⟨h, Cel.loadRow (show Cel W g0 _ _ from h.c0) 14 (Ov.cells_size _ _), Cel.loadRow (show Cel W g1 _ _ from h.c1) 14 (Ov.cells_size _ _), hb, hx, hy, Cel.loadRow (show Cel W g2 _ _ from hx.c) 14 (Ov.cells_size _ _), Cel.loadRow (show Cel W g3 _ _ from hy.c) 14 (Ov.cells_size _ _)⟩

theorem eight_keep {w W W' : World} {g0 g1 g2 g3 : Nat} {a b : Ov} {v u x y : Value}
    (h : Two W g0 g1 a b v u ∧ (loadCells ⟨g0, 0, none⟩ 14).run Tryd.prog W = .ok (a.cells v) W ∧ (loadCells ⟨g1, 0, none⟩ 14).run Tryd.prog W = .ok (b.cells u) W ∧ Below w.heap.size w W ∧ Own W g2 a x ∧ Own W g3 b y ∧
      (loadCells ⟨g2, 0, none⟩ 14).run Tryd.prog W = .ok (a.cells x) W ∧ (loadCells ⟨g3, 0, none⟩ 14).run Tryd.prog W = .ok (b.cells y) W) (hb : Below W.heap.size W W') :
    Two W' g0 g1 a b v u ∧ (loadCells ⟨g0, 0, none⟩ 14).run Tryd.prog W' = .ok (a.cells v) W' ∧ (loadCells ⟨g1, 0, none⟩ 14).run Tryd.prog W' = .ok (b.cells u) W' ∧ Below w.heap.size w W' ∧ Own W' g2 a x ∧ Own W' g3 b y ∧
      (loadCells ⟨g2, 0, none⟩ 14).run Tryd.prog W' = .ok (a.cells x) W' ∧ (loadCells ⟨g3, 0, none⟩ 14).run Tryd.prog W' = .ok (b.cells y) W' :=
  eight_all (h.1.kept hb) (Below.then_ h.2.2.2.1 hb) (h.2.2.2.2.1.kept hb) (h.2.2.2.2.2.1.kept hb)

theorem eight_drew {w W : World} {g0 g1 g2 g3 : Nat} {a b : Ov} {v u x y : Value}
    (h : Two W g0 g1 a b v u ∧ (loadCells ⟨g0, 0, none⟩ 14).run Tryd.prog W = .ok (a.cells v) W ∧ (loadCells ⟨g1, 0, none⟩ 14).run Tryd.prog W = .ok (b.cells u) W ∧ Below w.heap.size w W ∧ Own W g2 a x ∧ Own W g3 b y ∧
      (loadCells ⟨g2, 0, none⟩ 14).run Tryd.prog W = .ok (a.cells x) W ∧ (loadCells ⟨g3, 0, none⟩ 14).run Tryd.prog W = .ok (b.cells y) W) :
    Two W.drew g0 g1 a b v u ∧ (loadCells ⟨g0, 0, none⟩ 14).run Tryd.prog W.drew = .ok (a.cells v) W.drew ∧ (loadCells ⟨g1, 0, none⟩ 14).run Tryd.prog W.drew = .ok (b.cells u) W.drew ∧ Below w.heap.size w W.drew ∧ Own W.drew g2 a x ∧ Own W.drew g3 b y ∧
      (loadCells ⟨g2, 0, none⟩ 14).run Tryd.prog W.drew = .ok (a.cells x) W.drew ∧ (loadCells ⟨g3, 0, none⟩ 14).run Tryd.prog W.drew = .ok (b.cells y) W.drew :=
  eight_all ⟨h.1.c0, h.1.c1, h.1.r0, h.1.r1⟩ h.2.2.2.1.drew ⟨h.2.2.2.2.1.c, h.2.2.2.2.1.r⟩ ⟨h.2.2.2.2.2.1.c, h.2.2.2.2.2.1.r⟩
end Go.Proofs.YtnlbeoifmdfbjaaDoor
