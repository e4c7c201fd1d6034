import Derived.Test.YtnlbeoifmdfbjaaSlw
import Derived.Test.YtnlbeoifmdfbjaaSse
namespace Go.Proofs.Ytnlbeoifmdfbjaa
open Go.RowKit
attribute [-go_sem] loadCells loadCellsFrom

/-- What stays while a law goes on: the options that came in, as they lie in their blocks. -/
structure TwoS (W : World) (g0 g1 : Nat) (a b : Sv) (v u : Value) : Prop where
  c0 : W.heap[g0]? = some (.cells (a.cells v) 46 (0, 0))
  c1 : W.heap[g1]? = some (.cells (b.cells u) 46 (0, 0))
  r0 : RdO W v a.opts
  r1 : RdO W u b.opts

theorem TwoS.kept {W W' : World} {g0 g1 : Nat} {a b : Sv} {v u : Value} (h : TwoS W g0 g1 a b v u) (hb : Below W.heap.size W W') : TwoS W' g0 g1 a b v u :=
  ⟨Cel.kept (show Cel W g0 _ _ from h.c0) hb, Cel.kept (show Cel W g1 _ _ from h.c1) hb, h.r0.below hb, h.r1.below hb⟩

theorem twos_all {w W : World} {g0 g1 : Nat} {a b : Sv} {v u : Value} (h : TwoS W g0 g1 a b v u) (hb : Below w.heap.size w W) :
    TwoS W g0 g1 a b v u ∧ (loadCells ⟨g0, 0, none⟩ 9).run Try.prog W = .ok (a.cells v) W ∧ (loadCells ⟨g1, 0, none⟩ 9).run Try.prog W = .ok (b.cells u) W ∧ Below w.heap.size w W :=
  ⟨h, Cel.loadRow (show Cel W g0 _ _ from h.c0) 9 (Sv.cells_size _ _), Cel.loadRow (show Cel W g1 _ _ from h.c1) 9 (Sv.cells_size _ _), hb⟩

theorem twos_keep3 {w W : World} {g0 g1 : Nat} {a b : Sv} {v u : Value} (h : TwoS W g0 g1 a b v u ∧ Below w.heap.size w W) :
    TwoS W.drew g0 g1 a b v u ∧ (loadCells ⟨g0, 0, none⟩ 9).run Try.prog W.drew = .ok (a.cells v) W.drew ∧ (loadCells ⟨g1, 0, none⟩ 9).run Try.prog W.drew = .ok (b.cells u) W.drew ∧ Below w.heap.size w W.drew :=
  twos_all ⟨h.1.c0, h.1.c1, h.1.r0, h.1.r1⟩ h.2.drew

theorem twos_keep {w W W' : World} {g0 g1 : Nat} {a b : Sv} {v u : Value} (h : TwoS W g0 g1 a b v u ∧ (loadCells ⟨g0, 0, none⟩ 9).run Try.prog W = .ok (a.cells v) W ∧ (loadCells ⟨g1, 0, none⟩ 9).run Try.prog W = .ok (b.cells u) W ∧ Below w.heap.size w W) (hb : Below W.heap.size W W') :
    TwoS W' g0 g1 a b v u ∧ (loadCells ⟨g0, 0, none⟩ 9).run Try.prog W' = .ok (a.cells v) W' ∧ (loadCells ⟨g1, 0, none⟩ 9).run Try.prog W' = .ok (b.cells u) W' ∧ Below w.heap.size w W' :=
  twos_all (h.1.kept hb) (Below.then_ h.2.2.2 hb)

theorem eights_all {w W : World} {g0 g1 g2 g3 : Nat} {a b : Sv} {v u x y : Value} (h : TwoS W g0 g1 a b v u) (hb : Below w.heap.size w W) (hx : OwnS W g2 a x) (hy : OwnS W g3 b y) :
    TwoS W g0 g1 a b v u ∧ (loadCells ⟨g0, 0, none⟩ 9).run Try.prog W = .ok (a.cells v) W ∧ (loadCells ⟨g1, 0, none⟩ 9).run Try.prog W = .ok (b.cells u) W ∧ Below w.heap.size w W ∧ OwnS W g2 a x ∧ OwnS W g3 b y ∧
      (loadCells ⟨g2, 0, none⟩ 9).run Try.prog W = .ok (a.cells x) W ∧ (loadCells ⟨g3, 0, none⟩ 9).run Try.prog W = .ok (b.cells y) W :=
  ⟨h, Cel.loadRow (show Cel W g0 _ _ from h.c0) 9 (Sv.cells_size _ _), Cel.loadRow (show Cel W g1 _ _ from h.c1) 9 (Sv.cells_size _ _), hb, hx, hy, Cel.loadRow (show Cel W g2 _ _ from hx.c) 9 (Sv.cells_size _ _), Cel.loadRow (show Cel W g3 _ _ from hy.c) 9 (Sv.cells_size _ _)⟩

theorem eights_keep {w W W' : World} {g0 g1 g2 g3 : Nat} {a b : Sv} {v u x y : Value}
    (h : TwoS W g0 g1 a b v u ∧ (loadCells ⟨g0, 0, none⟩ 9).run Try.prog W = .ok (a.cells v) W ∧ (loadCells ⟨g1, 0, none⟩ 9).run Try.prog W = .ok (b.cells u) W ∧ Below w.heap.size w W ∧ OwnS W g2 a x ∧ OwnS W g3 b y ∧
      (loadCells ⟨g2, 0, none⟩ 9).run Try.prog W = .ok (a.cells x) W ∧ (loadCells ⟨g3, 0, none⟩ 9).run Try.prog W = .ok (b.cells y) W) (hb : Below W.heap.size W W') :
    TwoS W' g0 g1 a b v u ∧ (loadCells ⟨g0, 0, none⟩ 9).run Try.prog W' = .ok (a.cells v) W' ∧ (loadCells ⟨g1, 0, none⟩ 9).run Try.prog W' = .ok (b.cells u) W' ∧ Below w.heap.size w W' ∧ OwnS W' g2 a x ∧ OwnS W' g3 b y ∧
      (loadCells ⟨g2, 0, none⟩ 9).run Try.prog W' = .ok (a.cells x) W' ∧ (loadCells ⟨g3, 0, none⟩ 9).run Try.prog W' = .ok (b.cells y) W' :=
  eights_all (h.1.kept hb) (Below.then_ h.2.2.2.1 hb) (h.2.2.2.2.1.kept hb) (h.2.2.2.2.2.1.kept hb)

theorem eights_drew {w W : World} {g0 g1 g2 g3 : Nat} {a b : Sv} {v u x y : Value}
    (h : TwoS W g0 g1 a b v u ∧ (loadCells ⟨g0, 0, none⟩ 9).run Try.prog W = .ok (a.cells v) W ∧ (loadCells ⟨g1, 0, none⟩ 9).run Try.prog W = .ok (b.cells u) W ∧ Below w.heap.size w W ∧ OwnS W g2 a x ∧ OwnS W g3 b y ∧
      (loadCells ⟨g2, 0, none⟩ 9).run Try.prog W = .ok (a.cells x) W ∧ (loadCells ⟨g3, 0, none⟩ 9).run Try.prog W = .ok (b.cells y) W) :
    TwoS W.drew g0 g1 a b v u ∧ (loadCells ⟨g0, 0, none⟩ 9).run Try.prog W.drew = .ok (a.cells v) W.drew ∧ (loadCells ⟨g1, 0, none⟩ 9).run Try.prog W.drew = .ok (b.cells u) W.drew ∧ Below w.heap.size w W.drew ∧ OwnS W.drew g2 a x ∧ OwnS W.drew g3 b y ∧
      (loadCells ⟨g2, 0, none⟩ 9).run Try.prog W.drew = .ok (a.cells x) W.drew ∧ (loadCells ⟨g3, 0, none⟩ 9).run Try.prog W.drew = .ok (b.cells y) W.drew :=
  eights_all ⟨h.1.c0, h.1.c1, h.1.r0, h.1.r1⟩ h.2.2.2.1.drew ⟨h.2.2.2.2.1.c, h.2.2.2.2.1.r⟩ ⟨h.2.2.2.2.2.1.c, h.2.2.2.2.2.1.r⟩


theorem to_seg2 (x : Sv) (v : Value) (w : World) (hv : RdO w v x.opts) (hn : x.opts.length ≤ 1048576) (hbig : ∀ o ∈ x.opts, o.ids.length ≤ 1048576) :
    Calls Try.prog 30 #[.agg (x.cells v)] w fun e w' => ∃ (a : Option Addr) (c : Nat), e = .returned (.agg (x.cells (.slice a x.opts.length c))) ∧ RdO w' (.slice a x.opts.length c) x.opts ∧ Below w.heap.size w w' :=
  (to_seg1 x v w hv hn hbig).mono fun _ _ ⟨g, he, hU, hb⟩ => ⟨some ⟨g, 0, none⟩, x.opts.length, he, hU, hb⟩

set_option maxRecDepth 100000 in
set_option maxHeartbeats 4000000 in
theorem sameseg_core (a : Sv) (v : Value) (b : Sv) (u : Value) (w : World) (hv : RdO w v a.opts) (hf : Fit a) (hu : RdO w u b.opts) (hf2 : Fit b) :
    Calls Try.prog 6 #[.agg (a.cells v), .agg (b.cells u)] w fun e w' => e = .returned (.bool true) ∧ Below w.heap.size w w' := by
  obtain ⟨hfn, hfd, hfb⟩ := hf
  obtain ⟨hfn', hfd', hfb'⟩ := hf2
  have hB1 : Below w.heap.size w ((w.alloc (.cells (a.cells v) 46)).alloc (.cells (b.cells u) 46)) := ((Below.refl _ _).alloc (Nat.le_refl _) _).alloc (by simp) _
  have S1 : TwoS ((w.alloc (.cells (a.cells v) 46)).alloc (.cells (b.cells u) 46)) w.heap.size (w.heap.size + 1) a b v u :=
    ⟨(Cel.new w _ _).alloc _, by have := Cel.new (w.alloc (.cells (a.cells v) 46)) 46 (b.cells u); rw [World.size_alloc] at this; exact this, hv.below hB1, hu.below hB1⟩
  obtain ⟨va, vc, rfl⟩ : ∃ x c, v = .slice x a.opts.length c := by obtain ⟨x, c, h, -⟩ := hv; exact ⟨x, c, h⟩
  obtain ⟨ua, uc, rfl⟩ : ∃ x c, u = .slice x b.opts.length c := by obtain ⟨x, c, h, -⟩ := hu; exact ⟨x, c, h⟩
  clear hv hu
  have l0 := (twos_all (w := w) S1 hB1).2.1
  have z1 := sz_seg a (.slice va a.opts.length vc) 1048576 _ S1.r0 (by omega) (by omega) hfn hfd hfb
  by_cases h1 : szSv a 1048576 < 0
  · generalize szSv a 1048576 = s1 at z1 h1
    go_enter Try.func6, Try.ntmps6
    go_wp2_with (fail)
    with_reducible refine z1.mono ?_
    rintro e w2 ⟨rfl, hb2⟩
    clear l0 z1
    go_wp2_with (fail)
    go_ret
    exact ⟨rfl, hB1.trans (hb2.mono (by simp; omega))⟩
  · obtain ⟨s0, s2, s3, -, sx⟩ := szSv_in a 1048576 h1
    have hal : a.opts.length ≤ 1048576 := by omega
    have hai : ∀ o ∈ a.opts, o.ids.length ≤ 1048576 := fun o ho => by have := sx o ho; omega
    clear sx
    generalize szSv a 1048576 = s1 at z1 h1 s0 s2
    have z2 := fun W r0 => sz_seg b (.slice ua b.opts.length uc) s1 W r0 s0 s2 hfn' hfd' hfb'
    have z3 := szSv_in b s1
    generalize szSv b s1 = s4 at z2 z3
    go_enter Try.func6, Try.ntmps6
    go_wp2_with (fail)
    with_reducible refine z1.mono ?_
    rintro e w2 ⟨rfl, hb2⟩
    have S2 := S1.kept hb2
    have hB2 := hB1.trans (hb2.mono (by simp; omega))
    clear l0 z1 hb2 S1 hB1
    have l1 := (twos_all (w := w) S2 hB2).2.2.1
    generalize w.heap.size = g0 at S2 l1 ⊢
    generalize g0 + 1 = g1 at S2 l1 ⊢
    go_wp2_with (fail)
    with_reducible refine (z2 _ S2.r1).mono ?_
    rintro e w3 ⟨rfl, hb3⟩
    have S3 := S2.kept hb3
    have hB3 := hB2.trans (hb3.mono hB2.size)
    clear l1 z2 hb3 S2 hB2
    by_cases h4 : s4 < 0
    · clear z3
      go_wp2_with (fail)
      go_ret
      exact ⟨rfl, hB3⟩
    obtain ⟨-, -, s5, s6, s7⟩ := z3 (by omega)
    have hbl : b.opts.length ≤ 1048576 := by omega
    have hbi : ∀ o ∈ b.opts, o.ids.length ≤ 1048576 := fun o ho => by have := s7 o ho; omega
    clear s7
    have cA := fun W (h : TwoS W g0 g1 a b (.slice va a.opts.length vc) (.slice ua b.opts.length uc)) => to_seg2 a (.slice va a.opts.length vc) W h.r0 hal hai
    have cB := fun W (h : TwoS W g0 g1 a b (.slice va a.opts.length vc) (.slice ua b.opts.length uc)) => to_seg2 b (.slice ua b.opts.length uc) W h.r1 hbl hbi
    have cS := fun v u W h1 h2 => spec_sameSeg a b v u W h1 h2 hal hbl hai hbi
    have hS := twos_keep3 ⟨S3, hB3⟩
    clear z3
    go_wp2_with (fail)
    go_region_held3 (fun W => TwoS W g0 g1 a b (.slice va a.opts.length vc) (.slice ua b.opts.length uc) ∧ (loadCells ⟨g0, 0, none⟩ 9).run Try.prog W = .ok (a.cells (.slice va a.opts.length vc)) W ∧ (loadCells ⟨g1, 0, none⟩ 9).run Try.prog W = .ok (b.cells (.slice ua b.opts.length uc)) W ∧ Below w.heap.size w W)
      (first | exact hS | exact twos_keep (by assumption) (by assumption) | go_keep)
      (first
        | (go_at_call 30; (with_reducible refine (cA _ ?_).mono ?_); (simp only [*]); rintro e w4 ⟨xa, xc, rfl, hx, hb4⟩)
        | (go_at_call 30; (with_reducible refine (cB _ ?_).mono ?_); (simp only [*]); rintro e w5 ⟨ya, yc, rfl, hy, hb5⟩)
        | (go_at_call 29; (with_reducible refine (cS _ _ _ ?_ ?_).mono ?_); (exact hx.below hb5); (exact hy); rintro e w6 ⟨rfl, hb6⟩))
    clear hS S3 hB3
    have S6 : TwoS w6 g0 g1 a b (.slice va a.opts.length vc) (.slice ua b.opts.length uc) ∧ (loadCells ⟨g0, 0, none⟩ 9).run Try.prog w6 = .ok (a.cells (.slice va a.opts.length vc)) w6 ∧ (loadCells ⟨g1, 0, none⟩ 9).run Try.prog w6 = .ok (b.cells (.slice ua b.opts.length uc)) w6 ∧ Below w.heap.size w w6 := by assumption
    obtain ⟨T6, f0, f1, B6⟩ := S6
    clear hx hy hb4 hb5 hb6
    go_wp2_with (fail)
    clear f0 f1
    with_reducible refine (cA _ T6).mono ?_
    rintro e w7 ⟨xa, xc, rfl, hx, hb⟩
    have own8 := (new_seg hx).1
    have hbn := (new_row w7 36 #[.int .i64 0, .int .i64 0, .int .i64 0, .int .i64 0, .int .i64 0, .int .i64 0, .int .i64 0, .slice none 0 0, .string ⟨#[]⟩] (a.cells (.slice xa a.opts.length xc))).2
    have T8 := (T6.kept hb).kept hbn
    have B8 := Below.then_ (Below.then_ B6 hb) hbn
    have one := a.cells_one xa a.opts.length xc
    have hz := zeroSeg w7
    have hss : (#[.int .i64 0, .int .i64 0, .int .i64 0, .int .i64 0, .int .i64 0, .int .i64 0, .int .i64 0, .slice none 0 0, .string ⟨#[]⟩] : Array Value).size = (a.cells (.slice xa a.opts.length xc)).size := by rw [Sv.cells_size]; rfl
    clear T6 B6 hb hbn hx
    go_upto_region 10 with (with_reducible refine wpList_store_row rfl 36 _ _ rfl _ rfl _ rfl 36 _ hz (sizeSeg' _ _) hss one ?_)
    clear hz one hss
    generalize (w7.alloc (.cells #[.int .i64 0, .int .i64 0, .int .i64 0, .int .i64 0, .int .i64 0, .int .i64 0, .int .i64 0, .slice none 0 0, .string ⟨#[]⟩] 36)).setRow w7.heap.size (a.cells (.slice xa a.opts.length xc)) = W8 at *
    generalize w7.heap.size = h8 at own8 ⊢
    have f1 := Cel.loadRow (P := Try.prog) (show Cel W8 g1 _ _ from T8.c1) 9 (Sv.cells_size _ _)
    go_wp2_with (fail)
    clear f1
    with_reducible refine (cB _ T8).mono ?_
    rintro e w9 ⟨ya, yc, rfl, hx, hb⟩
    have own10 := (new_seg hx).1
    have hbn := (new_row w9 36 #[.int .i64 0, .int .i64 0, .int .i64 0, .int .i64 0, .int .i64 0, .int .i64 0, .int .i64 0, .slice none 0 0, .string ⟨#[]⟩] (b.cells (.slice ya b.opts.length yc))).2
    have T10 := (T8.kept hb).kept hbn
    have B10 := Below.then_ (Below.then_ B8 hb) hbn
    have own8 := (own8.kept hb).kept hbn
    have one := b.cells_one ya b.opts.length yc
    have hz := zeroSeg w9
    have hss : (#[.int .i64 0, .int .i64 0, .int .i64 0, .int .i64 0, .int .i64 0, .int .i64 0, .int .i64 0, .slice none 0 0, .string ⟨#[]⟩] : Array Value).size = (b.cells (.slice ya b.opts.length yc)).size := by rw [Sv.cells_size]; rfl
    clear T8 B8 hb hbn hx
    go_upto_region 11 with (with_reducible refine wpList_store_row rfl 36 _ _ rfl _ rfl _ rfl 36 _ hz (sizeSeg' _ _) hss one ?_)
    clear hz one hss
    generalize (w9.alloc (.cells #[.int .i64 0, .int .i64 0, .int .i64 0, .int .i64 0, .int .i64 0, .int .i64 0, .int .i64 0, .slice none 0 0, .string ⟨#[]⟩] 36)).setRow w9.heap.size (b.cells (.slice ya b.opts.length yc)) = W10 at *
    generalize w9.heap.size = h10 at own10 ⊢
    obtain ⟨-, f0, f1, -, -, -, f2, f3⟩ := eights_all (w := w) T10 B10 own8 own10
    have cI := fun v u W h1 h2 => impl_sameSeg a b v u W h1 h2 hal hbl hai hbi
    go_wp2_with (fail)
    with_reducible refine (cI _ _ _ own8.r own10.r).mono ?_
    rintro e w11 ⟨rfl, hb11⟩
    have S11 := eights_all (w := w) (T10.kept hb11) (Below.then_ B10 hb11) (own8.kept hb11) (own10.kept hb11)
    have eA := fun u W (h1 : OwnS W h8 a (.slice xa a.opts.length xc)) h2 => eq_seg a (.slice xa a.opts.length xc) u W h1.r h2 hal hai
    have eB := fun u W (h1 : OwnS W h10 b (.slice ya b.opts.length yc)) h2 => eq_seg b (.slice ya b.opts.length yc) u W h1.r h2 hbl hbi
    clear f0 f1 f2 f3 T10 B10 own8 own10 hb11 cI cS
    generalize sameSv a b = sb
    go_wp2_with (fail)
    have S12 : TwoS w11.drew g0 g1 a b (.slice va a.opts.length vc) (.slice ua b.opts.length uc) ∧ (loadCells ⟨g0, 0, none⟩ 9).run Try.prog w11.drew = .ok (a.cells (.slice va a.opts.length vc)) w11.drew ∧ (loadCells ⟨g1, 0, none⟩ 9).run Try.prog w11.drew = .ok (b.cells (.slice ua b.opts.length uc)) w11.drew ∧ Below w.heap.size w w11.drew ∧ OwnS w11.drew h8 a (.slice xa a.opts.length xc) ∧ OwnS w11.drew h10 b (.slice ya b.opts.length yc) ∧ (loadCells ⟨h8, 0, none⟩ 9).run Try.prog w11.drew = .ok (a.cells (.slice xa a.opts.length xc)) w11.drew ∧ (loadCells ⟨h10, 0, none⟩ 9).run Try.prog w11.drew = .ok (b.cells (.slice ya b.opts.length yc)) w11.drew := eights_drew S11
    clear S11
    go_region_held3 (fun W => TwoS W g0 g1 a b (.slice va a.opts.length vc) (.slice ua b.opts.length uc) ∧ (loadCells ⟨g0, 0, none⟩ 9).run Try.prog W = .ok (a.cells (.slice va a.opts.length vc)) W ∧ (loadCells ⟨g1, 0, none⟩ 9).run Try.prog W = .ok (b.cells (.slice ua b.opts.length uc)) W ∧ Below w.heap.size w W ∧ OwnS W h8 a (.slice xa a.opts.length xc) ∧ OwnS W h10 b (.slice ya b.opts.length yc) ∧ (loadCells ⟨h8, 0, none⟩ 9).run Try.prog W = .ok (a.cells (.slice xa a.opts.length xc)) W ∧ (loadCells ⟨h10, 0, none⟩ 9).run Try.prog W = .ok (b.cells (.slice ya b.opts.length yc)) W)
      (first | exact S12 | exact eights_keep (by assumption) (by assumption) | go_keep)
      (first
        | (go_at_call 30; (with_reducible refine (cA _ ?_).mono ?_); (simp only [*]); rintro e w12 ⟨pa, pc, rfl, hp, hb12⟩)
        | (go_at_call 32; (with_reducible refine (eA _ _ ?_ ?_).mono ?_); (simp only [*]); (exact hp); rintro e w13 ⟨rfl, hb13⟩))
    have S13 : TwoS w13 g0 g1 a b (.slice va a.opts.length vc) (.slice ua b.opts.length uc) ∧ (loadCells ⟨g0, 0, none⟩ 9).run Try.prog w13 = .ok (a.cells (.slice va a.opts.length vc)) w13 ∧ (loadCells ⟨g1, 0, none⟩ 9).run Try.prog w13 = .ok (b.cells (.slice ua b.opts.length uc)) w13 ∧ Below w.heap.size w w13 ∧ OwnS w13 h8 a (.slice xa a.opts.length xc) ∧ OwnS w13 h10 b (.slice ya b.opts.length yc) ∧ (loadCells ⟨h8, 0, none⟩ 9).run Try.prog w13 = .ok (a.cells (.slice xa a.opts.length xc)) w13 ∧ (loadCells ⟨h10, 0, none⟩ 9).run Try.prog w13 = .ok (b.cells (.slice ya b.opts.length yc)) w13 := by assumption
    clear S12 hp hb12 hb13
    go_wp2_with (fail)
    have S14 : TwoS w13.drew g0 g1 a b (.slice va a.opts.length vc) (.slice ua b.opts.length uc) ∧ (loadCells ⟨g0, 0, none⟩ 9).run Try.prog w13.drew = .ok (a.cells (.slice va a.opts.length vc)) w13.drew ∧ (loadCells ⟨g1, 0, none⟩ 9).run Try.prog w13.drew = .ok (b.cells (.slice ua b.opts.length uc)) w13.drew ∧ Below w.heap.size w w13.drew ∧ OwnS w13.drew h8 a (.slice xa a.opts.length xc) ∧ OwnS w13.drew h10 b (.slice ya b.opts.length yc) ∧ (loadCells ⟨h8, 0, none⟩ 9).run Try.prog w13.drew = .ok (a.cells (.slice xa a.opts.length xc)) w13.drew ∧ (loadCells ⟨h10, 0, none⟩ 9).run Try.prog w13.drew = .ok (b.cells (.slice ya b.opts.length yc)) w13.drew := eights_drew S13
    clear S13
    go_region_held3 (fun W => TwoS W g0 g1 a b (.slice va a.opts.length vc) (.slice ua b.opts.length uc) ∧ (loadCells ⟨g0, 0, none⟩ 9).run Try.prog W = .ok (a.cells (.slice va a.opts.length vc)) W ∧ (loadCells ⟨g1, 0, none⟩ 9).run Try.prog W = .ok (b.cells (.slice ua b.opts.length uc)) W ∧ Below w.heap.size w W ∧ OwnS W h8 a (.slice xa a.opts.length xc) ∧ OwnS W h10 b (.slice ya b.opts.length yc) ∧ (loadCells ⟨h8, 0, none⟩ 9).run Try.prog W = .ok (a.cells (.slice xa a.opts.length xc)) W ∧ (loadCells ⟨h10, 0, none⟩ 9).run Try.prog W = .ok (b.cells (.slice ya b.opts.length yc)) W)
      (first | exact S14 | exact eights_keep (by assumption) (by assumption) | go_keep)
      (first
        | (go_at_call 30; (with_reducible refine (cB _ ?_).mono ?_); (simp only [*]); rintro e w14 ⟨pa, pc, rfl, hp, hb14⟩)
        | (go_at_call 32; (with_reducible refine (eB _ _ ?_ ?_).mono ?_); (simp only [*]); (exact hp); rintro e w15 ⟨rfl, hb15⟩))
    have S15 : TwoS w15 g0 g1 a b (.slice va a.opts.length vc) (.slice ua b.opts.length uc) ∧ (loadCells ⟨g0, 0, none⟩ 9).run Try.prog w15 = .ok (a.cells (.slice va a.opts.length vc)) w15 ∧ (loadCells ⟨g1, 0, none⟩ 9).run Try.prog w15 = .ok (b.cells (.slice ua b.opts.length uc)) w15 ∧ Below w.heap.size w w15 ∧ OwnS w15 h8 a (.slice xa a.opts.length xc) ∧ OwnS w15 h10 b (.slice ya b.opts.length yc) ∧ (loadCells ⟨h8, 0, none⟩ 9).run Try.prog w15 = .ok (a.cells (.slice xa a.opts.length xc)) w15 ∧ (loadCells ⟨h10, 0, none⟩ 9).run Try.prog w15 = .ok (b.cells (.slice ya b.opts.length yc)) w15 := by assumption
    have hBf := S15.2.2.2.1
    clear S14 hp hb14 hb15 S15
    go_wp2_with (fail)
    go_ret
    exact ⟨rfl, hBf⟩

end Go.Proofs.Ytnlbeoifmdfbjaa
