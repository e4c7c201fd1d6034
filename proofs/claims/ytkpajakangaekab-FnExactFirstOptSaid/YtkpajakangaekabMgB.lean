import Derived.Test.YtkpajakangaekabMgG
import Derived.Deep.RegionHeld3
import Derived.Deep.Cut
import Derived.Test.YtkpajakangaekabMgF
namespace Go.Proofs.Ytkpajakangaekab
open Go.RowKit
attribute [-go_sem] loadCells loadCellsFrom

/-- A segment that came in, as it lies in its block. -/
structure ArgS (W : World) (g0 : Nat) (x : Sv) (v : Value) : Prop where
  c0 : W.heap[g0]? = some (.cells (x.cells v) 44 (0, 0))
  r0 : RdO W v x.opts
theorem ArgS.kept {W W' : World} {g0 : Nat} {x : Sv} {v : Value} (h : ArgS W g0 x v) (hb : Below W.heap.size W W') : ArgS W' g0 x v :=
  ⟨Cel.kept (show Cel W g0 _ _ from h.c0) hb, h.r0.below hb⟩
theorem args_load {W : World} {g0 : Nat} {x : Sv} {v : Value} (h : ArgS W g0 x v) : (loadCells ⟨g0, 0, none⟩ 9).run Try.prog W = .ok (x.cells v) W :=
  Cel.loadRow (show Cel W g0 _ _ from h.c0) 9 (Sv.cells_size _ _)
/-- One that the law has made. -/
structure OwnS (W : World) (g : Nat) (x : Sv) (v : Value) : Prop where
  c : Cel W g 36 (x.cells v)
  r : RdO W v x.opts
theorem OwnS.kept {W W' : World} {g : Nat} {x : Sv} {v : Value} (h : OwnS W g x v) (hb : Below W.heap.size W W') : OwnS W' g x v := ⟨h.c.kept hb, h.r.below hb⟩
theorem owns_load {W : World} {g : Nat} {x : Sv} {v : Value} (h : OwnS W g x v) : (loadCells ⟨g, 0, none⟩ 9).run Try.prog W = .ok (x.cells v) W :=
  Cel.loadRow h.c 9 (Sv.cells_size _ _)

theorem fives_all {w W : World} {g0 g2 : Nat} {a b : Sv} {v x : Value} (h : ArgS W g0 a v) (hb : Below w.heap.size w W) (hx : OwnS W g2 b x) :
    ArgS W g0 a v ∧ (loadCells ⟨g0, 0, none⟩ 9).run Try.prog W = .ok (a.cells v) W ∧ Below w.heap.size w W ∧ OwnS W g2 b x ∧ (loadCells ⟨g2, 0, none⟩ 9).run Try.prog W = .ok (b.cells x) W :=
  ⟨h, args_load h, hb, hx, owns_load hx⟩
theorem fives_keep {w W W' : World} {g0 g2 : Nat} {a b : Sv} {v x : Value}
    (h : ArgS W g0 a v ∧ (loadCells ⟨g0, 0, none⟩ 9).run Try.prog W = .ok (a.cells v) W ∧ Below w.heap.size w W ∧ OwnS W g2 b x ∧ (loadCells ⟨g2, 0, none⟩ 9).run Try.prog W = .ok (b.cells x) W) (hb : Below W.heap.size W W') :
    ArgS W' g0 a v ∧ (loadCells ⟨g0, 0, none⟩ 9).run Try.prog W' = .ok (a.cells v) W' ∧ Below w.heap.size w W' ∧ OwnS W' g2 b x ∧ (loadCells ⟨g2, 0, none⟩ 9).run Try.prog W' = .ok (b.cells x) W' :=
  fives_all (h.1.kept hb) (Below.then_ h.2.2.1 hb) (h.2.2.2.1.kept hb)
theorem fives_drew {w W : World} {g0 g2 : Nat} {a b : Sv} {v x : Value} (h : ArgS W g0 a v) (hb : Below w.heap.size w W) (hx : OwnS W g2 b x) :
    ArgS W.drew g0 a v ∧ (loadCells ⟨g0, 0, none⟩ 9).run Try.prog W.drew = .ok (a.cells v) W.drew ∧ Below w.heap.size w W.drew ∧ OwnS W.drew g2 b x ∧ (loadCells ⟨g2, 0, none⟩ 9).run Try.prog W.drew = .ok (b.cells x) W.drew :=
  fives_all ⟨h.c0, h.r0⟩ hb.drew ⟨hx.c, hx.r⟩

theorem zeroSeg (W : World) : (W.alloc (.cells #[.int .i64 0, .int .i64 0, .int .i64 0, .int .i64 0, .int .i64 0, .int .i64 0, .int .i64 0, .slice none 0 0, .string ⟨#[]⟩] 36)).heap[W.heap.size]? = some (.cells #[.int .i64 0, .int .i64 0, .int .i64 0, .int .i64 0, .int .i64 0, .int .i64 0, .int .i64 0, .slice none 0 0, .string ⟨#[]⟩] 36 (0, 0)) := Cel.new W 36 _

theorem to_seg1 (x : Sv) (v : Value) (w : World) (hv : RdO w v x.opts) (hn : x.opts.length ≤ 1048576) (hbig : ∀ o ∈ x.opts, o.ids.length ≤ 1048576) :
    Calls Try.prog 22 #[.agg (x.cells v)] w fun e w' => ∃ g, e = .returned (.agg (x.cells (.slice (some ⟨g, 0, none⟩) x.opts.length x.opts.length))) ∧ RdO w' (.slice (some ⟨g, 0, none⟩) x.opts.length x.opts.length) x.opts ∧ Below w.heap.size w w' :=
  (to_seg x v w hv hn hbig).mono fun _ _ ⟨g, he, ⟨_, hU⟩, hb⟩ => ⟨g, he, hU.rd _, hb⟩

theorem new_seg {W : World} {x : Sv} {v : Value} (h : RdO W v x.opts) : OwnS ((W.alloc (.cells #[.int .i64 0, .int .i64 0, .int .i64 0, .int .i64 0, .int .i64 0, .int .i64 0, .int .i64 0, .slice none 0 0, .string ⟨#[]⟩] 36)).setRow W.heap.size (x.cells v)) W.heap.size x v ∧ Below W.heap.size W ((W.alloc (.cells #[.int .i64 0, .int .i64 0, .int .i64 0, .int .i64 0, .int .i64 0, .int .i64 0, .int .i64 0, .slice none 0 0, .string ⟨#[]⟩] 36)).setRow W.heap.size (x.cells v)) :=
  have hn := new_row W 36 #[.int .i64 0, .int .i64 0, .int .i64 0, .int .i64 0, .int .i64 0, .int .i64 0, .int .i64 0, .slice none 0 0, .string ⟨#[]⟩] (x.cells v)
  ⟨⟨hn.1, h.below hn.2⟩, hn.2⟩

def Fit (x : Sv) : Prop := x.opts.length ≤ 9223372036854775807 ∧ x.data.size ≤ 9223372036854775807 ∧ Big x.opts
end Go.Proofs.Ytkpajakangaekab

namespace Go.Proofs.Ytkpajakangaekab
open Go.RowKit
attribute [-go_sem] loadCells loadCellsFrom

end Go.Proofs.Ytkpajakangaekab

