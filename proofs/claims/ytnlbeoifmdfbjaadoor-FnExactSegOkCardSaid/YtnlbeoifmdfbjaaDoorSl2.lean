import Derived.Test.YtnlbeoifmdfbjaaDoorSlw
import Derived.Test.YtnlbeoifmdfbjaaDoorSgk
import Derived.Test.YtnlbeoifmdfbjaaDoorSio
namespace Go.Proofs.YtnlbeoifmdfbjaaDoor
open Go.RowKit
attribute [-go_sem] loadCells loadCellsFrom

set_option maxRecDepth 100000 in
set_option maxHeartbeats 2000000 in
theorem segok_core (x : Sv) (v : Value) (w : World) (hv : RdO w v x.opts) (hE : ErrT w) (hf : Fit x) :
    Calls Tryd.prog 3 #[.agg (x.cells v)] w fun e w' => e = .returned (.bool true) ∧ Below w.heap.size w w' := by
  obtain ⟨hfn, hfd, hfb⟩ := hf
  have hE0 := Lib.hid hE
  clear hE
  have hB1 := below_new w (.cells (x.cells v) 24)
  have S1 : ArgS (w.alloc (.cells (x.cells v) 24)) w.heap.size x v := ⟨Cel.new w _ _, hv.below hB1⟩
  obtain ⟨va, vc, rfl⟩ : ∃ a c, v = .slice a x.opts.length c := by obtain ⟨a, c, h, -⟩ := hv; exact ⟨a, c, h⟩
  clear hv
  have l0 := args_load S1
  have z1 := sz_seg x (.slice va x.opts.length vc) 1048576 _ S1.r0 (by omega) (by omega) hfn hfd hfb
  by_cases h1 : szSv x 1048576 < 0
  · generalize szSv x 1048576 = s1 at z1 h1
    go_enter Tryd.func3, Tryd.ntmps3
    go_wp2_with (fail)
    with_reducible refine z1.mono ?_
    rintro e w2 ⟨rfl, hb2⟩
    clear l0 z1
    go_wp2_with (fail)
    go_ret
    exact ⟨rfl, hB1.trans (hb2.mono (by simp))⟩
  · obtain ⟨s0, s2, s3, s4, s5⟩ := szSv_in x 1048576 h1
    have hid : ∀ o ∈ x.opts, o.ids.length ≤ 1048576 := fun o ho => by have := s5 o ho; omega
    have hol : x.opts.length ≤ 1048576 := by omega
    have hdl : x.data.size ≤ 1048576 := by omega
    generalize szSv x 1048576 = s1 at z1 h1 s0 s2
    go_enter Tryd.func3, Tryd.ntmps3
    go_wp2_with (fail)
    with_reducible refine z1.mono ?_
    rintro e w2 ⟨rfl, hb2⟩
    have T2 := S1.kept hb2
    have B2 := Below.then_ hB1 hb2
    have f2 := args_load T2
    clear l0 z1 hb2 S1 hB1 s5 hfb
    obtain ⟨g0, hg0⟩ : ∃ g0, w.heap.size = g0 := ⟨_, rfl⟩
    rw [hg0] at T2 f2 ⊢
    clear hg0
    have cA := fun W (h : ArgS W g0 x (.slice va x.opts.length vc)) => to_seg1 x (.slice va x.opts.length vc) W h.r0 hol hid
    have cS := fun v W h1 => spec_segOk x v W h1 hol hdl hid
    have cI := fun v W h1 hE => impl_segOk x v W h1 hE hol hdl hid
    have eA := fun v u W h0 h2 => eq_seg x v u W h0 h2 hol hid
    generalize segB x = tt at *
    clear hid
    go_wp2_with (fail)
    with_reducible refine (cA _ T2).mono ?_
    rintro e w3 ⟨q3, rfl, hp, hb3⟩
    have T3 := T2.kept hb3
    have B3 := Below.then_ B2 hb3
    clear T2 B2 f2 hb3
    go_wp2_with (fail)
    with_reducible refine (cS _ _ hp).mono ?_
    rintro e w4 ⟨rfl, hb4⟩
    have T4 := T3.kept hb4
    have B4 := Below.then_ B3 hb4
    have f4 := args_load T4
    clear T3 B3 hb4 hp
    go_wp2_with (fail)
    with_reducible refine (cA _ T4).mono ?_
    rintro e w7 ⟨q8, rfl, hx, hb⟩
    have hns := new_seg hx
    have own8 := hns.1
    have T8 := (T4.kept hb).kept hns.2
    have B8 := Below.then_ (Below.then_ B4 hb) hns.2
    have one := x.cells_one (some ⟨q8, 0, none⟩) x.opts.length x.opts.length
    have hz := zeroSeg w7
    have hss : (#[.int .i64 0, .int .i64 0, .int .i64 0, .int .i64 0, .int .i64 0, .int .i64 0, .int .i64 0, .slice none 0 0, .string ⟨#[]⟩] : Array Value).size = (x.cells (.slice (some ⟨q8, 0, none⟩) x.opts.length x.opts.length)).size := by rw [Sv.cells_size]; rfl
    clear T4 B4 f4 hb hns hx
    go_upto_region 7 with (with_reducible refine wpList_store_row rfl 29 _ _ rfl _ rfl _ rfl 29 _ hz (sizeSeg' _ _) hss one ?_)
    clear hz one hss
    generalize (w7.alloc (.cells #[.int .i64 0, .int .i64 0, .int .i64 0, .int .i64 0, .int .i64 0, .int .i64 0, .int .i64 0, .slice none 0 0, .string ⟨#[]⟩] 29)).setRow w7.heap.size (x.cells (.slice (some ⟨q8, 0, none⟩) x.opts.length x.opts.length)) = W8 at *
    generalize w7.heap.size = h8 at own8 ⊢
    have f8 := owns_load own8
    go_wp2_with (fail)
    with_reducible refine (cI _ _ own8.r (hE0.out.below B8 hE0.out.lt)).mono ?_
    rintro e w11 ⟨rfl, hb11⟩
    have S12 := fives_drew (w := w) (T8.kept hb11) (Below.then_ B8 hb11) (own8.kept hb11)
    have eB := fun u W (h1 : OwnS W h8 x (.slice (some ⟨q8, 0, none⟩) x.opts.length x.opts.length)) h2 => eA (.slice (some ⟨q8, 0, none⟩) x.opts.length x.opts.length) u W h1.r h2
    clear f8 T8 B8 own8 hb11 cI cS eA
    go_wp2_with (fail)
    go_region_held3 (fun W => ArgS W g0 x (.slice va x.opts.length vc) ∧ (loadCells ⟨g0, 0, none⟩ 9).run Tryd.prog W = .ok (x.cells (.slice va x.opts.length vc)) W ∧ Below w.heap.size w W ∧ OwnS W h8 x (.slice (some ⟨q8, 0, none⟩) x.opts.length x.opts.length) ∧ (loadCells ⟨h8, 0, none⟩ 9).run Tryd.prog W = .ok (x.cells (.slice (some ⟨q8, 0, none⟩) x.opts.length x.opts.length)) W)
      (first | exact S12 | exact fives_keep (by assumption) (by assumption) | go_keep)
      (first
        | (go_at_call 6; (with_reducible refine (cA _ ?_).mono ?_); (simp only [*]); rintro e w12 ⟨q12, rfl, hp, hb12⟩)
        | (go_at_call 8; (with_reducible refine (eB _ _ ?_ ?_).mono ?_); (simp only [*]); (exact hp); rintro e w13 ⟨rfl, hb13⟩))
    have S13 : ArgS w13 g0 x (.slice va x.opts.length vc) ∧ (loadCells ⟨g0, 0, none⟩ 9).run Tryd.prog w13 = .ok (x.cells (.slice va x.opts.length vc)) w13 ∧ Below w.heap.size w w13 ∧ OwnS w13 h8 x (.slice (some ⟨q8, 0, none⟩) x.opts.length x.opts.length) ∧ (loadCells ⟨h8, 0, none⟩ 9).run Tryd.prog w13 = .ok (x.cells (.slice (some ⟨q8, 0, none⟩) x.opts.length x.opts.length)) w13 := by assumption
    have hBf := S13.2.2.1
    clear S12 hp hb12 hb13 S13
    go_wp2_with (fail)
    go_ret
    exact ⟨rfl, hBf⟩
end Go.Proofs.YtnlbeoifmdfbjaaDoor
