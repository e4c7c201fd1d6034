import Derived.Test.YtigmldponhobhaaOlw
import Derived.Test.YtigmldponhobhaaOty
import Derived.Test.YtigmldponhobhaaSoe
namespace Go.Proofs.Ytigmldponhobhaa
open Go.RowKit
attribute [-go_sem] loadCells loadCellsFrom

/-- What stays while a law goes on: the option that came in, as it lies in its block. -/
structure Arg (W : World) (g0 : Nat) (a : Ov) (v : Value) : Prop where
  c0 : W.heap[g0]? = some (.cells (a.cells v) 34 (0, 0))
  r0 : Rd W v a.ids

theorem Arg.kept {W W' : World} {g0 : Nat} {a : Ov} {v : Value} (h : Arg W g0 a v) (hb : Below W.heap.size W W') : Arg W' g0 a v :=
  ⟨Cel.kept (show Cel W g0 _ _ from h.c0) hb, h.r0.below hb⟩

theorem arg_load {W : World} {g0 : Nat} {a : Ov} {v : Value} (h : Arg W g0 a v) : (loadCells ⟨g0, 0, none⟩ 14).run Try.prog W = .ok (a.cells v) W :=
  Cel.loadRow (show Cel W g0 _ _ from h.c0) 14 (Ov.cells_size _ _)

theorem five_all {w W : World} {g0 g2 : Nat} {a : Ov} {v x : Value} (h : Arg W g0 a v) (hb : Below w.heap.size w W) (hx : Own W g2 a x) :
    Arg W g0 a v ∧ (loadCells ⟨g0, 0, none⟩ 14).run Try.prog W = .ok (a.cells v) W ∧ Below w.heap.size w W ∧ Own W g2 a x ∧ (loadCells ⟨g2, 0, none⟩ 14).run Try.prog W = .ok (a.cells x) W :=
  ⟨h, arg_load h, hb, hx, Cel.loadRow (show Cel W g2 _ _ from hx.c) 14 (Ov.cells_size _ _)⟩

theorem five_keep {w W W' : World} {g0 g2 : Nat} {a : Ov} {v x : Value}
    (h : Arg W g0 a v ∧ (loadCells ⟨g0, 0, none⟩ 14).run Try.prog W = .ok (a.cells v) W ∧ Below w.heap.size w W ∧ Own W g2 a x ∧ (loadCells ⟨g2, 0, none⟩ 14).run Try.prog W = .ok (a.cells x) W) (hb : Below W.heap.size W W') :
    Arg W' g0 a v ∧ (loadCells ⟨g0, 0, none⟩ 14).run Try.prog W' = .ok (a.cells v) W' ∧ Below w.heap.size w W' ∧ Own W' g2 a x ∧ (loadCells ⟨g2, 0, none⟩ 14).run Try.prog W' = .ok (a.cells x) W' :=
  five_all (h.1.kept hb) (Below.then_ h.2.2.1 hb) (h.2.2.2.1.kept hb)

theorem five_drew {w W : World} {g0 g2 : Nat} {a : Ov} {v x : Value} (h : Arg W g0 a v) (hb : Below w.heap.size w W) (hx : Own W g2 a x) :
    Arg W.drew g0 a v ∧ (loadCells ⟨g0, 0, none⟩ 14).run Try.prog W.drew = .ok (a.cells v) W.drew ∧ Below w.heap.size w W.drew ∧ Own W.drew g2 a x ∧ (loadCells ⟨g2, 0, none⟩ 14).run Try.prog W.drew = .ok (a.cells x) W.drew :=
  five_all ⟨h.c0, h.r0⟩ hb.drew ⟨hx.c, hx.r⟩

set_option maxRecDepth 100000 in
set_option maxHeartbeats 1000000 in
theorem optOk_core (a : Ov) (v : Value) (w : World) (hv : Rd w v a.ids) (hk : a.key.size ≤ 9223372036854775807) (hm : a.mark.size ≤ 9223372036854775807) (hn : a.ids.length ≤ 9223372036854775807) :
    Calls Try.prog 4 #[.agg (a.cells v)] w fun e w' => e = .returned (.bool true) ∧ Below w.heap.size w w' := by
  have hB1 := below_new w (.cells (a.cells v) 34)
  have S1 : Arg (w.alloc (.cells (a.cells v) 34)) w.heap.size a v := ⟨Cel.new w _ _, hv.below hB1⟩
  obtain ⟨va, vc, rfl⟩ : ∃ x c, v = .slice x a.ids.length c := by obtain ⟨x, c, h, -⟩ := hv; exact ⟨x, c, h⟩
  clear hv
  have l0 := arg_load S1
  have z1 := sz_opt a (.slice va a.ids.length vc) 1048576 _ S1.r0 (by omega) (by omega) hk hm hn
  by_cases h1 : szOv a 1048576 < 0
  · generalize szOv a 1048576 = s1 at z1 h1
    go_enter Try.func4, Try.ntmps4
    go_wp2_with (fail)
    with_reducible refine z1.mono ?_
    rintro e w2 ⟨rfl, hb2⟩
    clear l0 z1
    go_wp2_with (fail)
    go_ret
    exact ⟨rfl, hB1.trans (hb2.mono (by simp))⟩
  · obtain ⟨s0, s2, s3, -, -⟩ := szOv_in a 1048576 h1
    generalize szOv a 1048576 = s1 at z1 h1 s0 s2
    go_enter Try.func4, Try.ntmps4
    go_wp2_with (fail)
    with_reducible refine z1.mono ?_
    rintro e w2 ⟨rfl, hb2⟩
    have T2 := S1.kept hb2
    have B2 := Below.then_ hB1 hb2
    have f2 := arg_load T2
    clear l0 z1 hb2 S1 hB1
    generalize w.heap.size = g0 at T2 f2 ⊢
    have cA := fun W (h : Arg W g0 a (.slice va a.ids.length vc)) => to_one a (.slice va a.ids.length vc) W h.r0 (by omega)
    have cS := fun v W h1 => spec_optOk a v W h1 (by omega)
    have cI := fun v W h1 => impl_optOk a v W h1 (by omega)
    have eA := fun x u W h0 h2 => eq_opt a x u W h0 h2 (by omega)
    generalize (!decide (optTx a = ⟨#[]⟩)) = tt at *
    go_wp2_with (fail)
    with_reducible refine (cA _ T2).mono ?_
    rintro e w3 ⟨pa, pc, rfl, hp, hb3⟩
    have T3 := T2.kept hb3
    have B3 := Below.then_ B2 hb3
    clear T2 B2 f2 hb3
    go_wp2_with (fail)
    with_reducible refine (cS _ _ hp.rd).mono ?_
    rintro e w4 ⟨rfl, hb4⟩
    have T4 := T3.kept hb4
    have B4 := Below.then_ B3 hb4
    have f4 := arg_load T4
    clear T3 B3 hb4 hp
    go_wp2_with (fail)
    with_reducible refine (cA _ T4).mono ?_
    rintro e w7 ⟨xa, xc, rfl, hx, hb⟩
    have own8 := own_new (old := #[.int .i64 0, .int .i64 0, .int .i64 0, .int .i64 0, .int .i64 0, .int .i64 0, .int .i64 0, .int .i64 0, .int .i64 0, .int .i64 0, .bool false, .string ⟨#[]⟩, .string ⟨#[]⟩, .slice none 0 0]) hx
    have hbn := (new_row w7 26 #[.int .i64 0, .int .i64 0, .int .i64 0, .int .i64 0, .int .i64 0, .int .i64 0, .int .i64 0, .int .i64 0, .int .i64 0, .int .i64 0, .bool false, .string ⟨#[]⟩, .string ⟨#[]⟩, .slice none 0 0] (a.cells (.slice xa a.ids.length xc))).2
    have T8 := (T4.kept hb).kept hbn
    have B8 := Below.then_ (Below.then_ B4 hb) hbn
    have one := a.cells_one xa a.ids.length xc
    have hz := zeroOpt w7
    have hss : (#[.int .i64 0, .int .i64 0, .int .i64 0, .int .i64 0, .int .i64 0, .int .i64 0, .int .i64 0, .int .i64 0, .int .i64 0, .int .i64 0, .bool false, .string ⟨#[]⟩, .string ⟨#[]⟩, .slice none 0 0] : Array Value).size = (a.cells (.slice xa a.ids.length xc)).size := by rw [Ov.cells_size]; rfl
    clear T4 B4 f4 hb hbn hx
    go_upto_region 7 with (with_reducible refine wpList_store_row rfl 26 _ _ rfl _ rfl _ rfl 26 _ hz (sizeOpt' _ _) hss one ?_)
    clear hz one hss
    generalize (w7.alloc (.cells #[.int .i64 0, .int .i64 0, .int .i64 0, .int .i64 0, .int .i64 0, .int .i64 0, .int .i64 0, .int .i64 0, .int .i64 0, .int .i64 0, .bool false, .string ⟨#[]⟩, .string ⟨#[]⟩, .slice none 0 0] 26)).setRow w7.heap.size (a.cells (.slice xa a.ids.length xc)) = W8 at *
    generalize w7.heap.size = h8 at own8 ⊢
    obtain ⟨-, -, -, -, f8⟩ := five_all (w := w) T8 B8 own8
    go_wp2_with (fail)
    with_reducible refine (cI _ _ own8.r).mono ?_
    rintro e w11 ⟨rfl, hb11⟩
    have S12 := five_drew (w := w) (T8.kept hb11) (Below.then_ B8 hb11) (own8.kept hb11)
    have eB := fun u W (h1 : Own W h8 a (.slice xa a.ids.length xc)) h2 => eA (.slice xa a.ids.length xc) u W h1.r h2
    clear f8 T8 B8 own8 hb11 cI cS eA
    go_wp2_with (fail)
    go_region_held3 (fun W => Arg W g0 a (.slice va a.ids.length vc) ∧ (loadCells ⟨g0, 0, none⟩ 14).run Try.prog W = .ok (a.cells (.slice va a.ids.length vc)) W ∧ Below w.heap.size w W ∧ Own W h8 a (.slice xa a.ids.length xc) ∧ (loadCells ⟨h8, 0, none⟩ 14).run Try.prog W = .ok (a.cells (.slice xa a.ids.length xc)) W)
      (first | exact S12 | exact five_keep (by assumption) (by assumption) | go_keep)
      (first
        | (go_at_call 20; (with_reducible refine (cA _ ?_).mono ?_); (simp only [*]); rintro e w12 ⟨pa, pc, rfl, hp, hb12⟩)
        | (go_at_call 21; (with_reducible refine (eB _ _ ?_ ?_).mono ?_); (simp only [*]); (exact hp.rd); rintro e w13 ⟨rfl, hb13⟩))
    have S13 : Arg w13 g0 a (.slice va a.ids.length vc) ∧ (loadCells ⟨g0, 0, none⟩ 14).run Try.prog w13 = .ok (a.cells (.slice va a.ids.length vc)) w13 ∧ Below w.heap.size w w13 ∧ Own w13 h8 a (.slice xa a.ids.length xc) ∧ (loadCells ⟨h8, 0, none⟩ 14).run Try.prog w13 = .ok (a.cells (.slice xa a.ids.length xc)) w13 := by assumption
    have hBf := S13.2.2.1
    clear S12 hp hb12 hb13 S13
    go_wp2_with (fail)
    go_ret
    exact ⟨rfl, hBf⟩

set_option maxRecDepth 100000 in
set_option maxHeartbeats 1000000 in
theorem optText_core (a : Ov) (v : Value) (w : World) (hv : Rd w v a.ids) (hk : a.key.size ≤ 9223372036854775807) (hm : a.mark.size ≤ 9223372036854775807) (hn : a.ids.length ≤ 9223372036854775807) :
    Calls Try.prog 6 #[.agg (a.cells v)] w fun e w' => e = .returned (.bool true) ∧ Below w.heap.size w w' := by
  have hB1 := below_new w (.cells (a.cells v) 34)
  have S1 : Arg (w.alloc (.cells (a.cells v) 34)) w.heap.size a v := ⟨Cel.new w _ _, hv.below hB1⟩
  obtain ⟨va, vc, rfl⟩ : ∃ x c, v = .slice x a.ids.length c := by obtain ⟨x, c, h, -⟩ := hv; exact ⟨x, c, h⟩
  clear hv
  have l0 := arg_load S1
  have z1 := sz_opt a (.slice va a.ids.length vc) 1048576 _ S1.r0 (by omega) (by omega) hk hm hn
  by_cases h1 : szOv a 1048576 < 0
  · generalize szOv a 1048576 = s1 at z1 h1
    go_enter Try.func6, Try.ntmps6
    go_wp2_with (fail)
    with_reducible refine z1.mono ?_
    rintro e w2 ⟨rfl, hb2⟩
    clear l0 z1
    go_wp2_with (fail)
    go_ret
    exact ⟨rfl, hB1.trans (hb2.mono (by simp))⟩
  · obtain ⟨s0, s2, s3, -, -⟩ := szOv_in a 1048576 h1
    generalize szOv a 1048576 = s1 at z1 h1 s0 s2
    go_enter Try.func6, Try.ntmps6
    go_wp2_with (fail)
    with_reducible refine z1.mono ?_
    rintro e w2 ⟨rfl, hb2⟩
    have T2 := S1.kept hb2
    have B2 := Below.then_ hB1 hb2
    have f2 := arg_load T2
    clear l0 z1 hb2 S1 hB1
    generalize w.heap.size = g0 at T2 f2 ⊢
    have cA := fun W (h : Arg W g0 a (.slice va a.ids.length vc)) => to_one a (.slice va a.ids.length vc) W h.r0 (by omega)
    have cS := fun v W h1 => spec_optText a v W h1 (by omega)
    have cI := fun v W h1 => impl_optText a v W h1 (by omega)
    have eA := fun x u W h0 h2 => eq_opt a x u W h0 h2 (by omega)
    generalize optTx a = tt at *
    go_wp2_with (fail)
    with_reducible refine (cA _ T2).mono ?_
    rintro e w3 ⟨pa, pc, rfl, hp, hb3⟩
    have T3 := T2.kept hb3
    have B3 := Below.then_ B2 hb3
    clear T2 B2 f2 hb3
    go_wp2_with (fail)
    with_reducible refine (cS _ _ hp.rd).mono ?_
    rintro e w4 ⟨rfl, hb4⟩
    have T4 := T3.kept hb4
    have B4 := Below.then_ B3 hb4
    have f4 := arg_load T4
    clear T3 B3 hb4 hp
    go_wp2_with (fail)
    with_reducible refine (cA _ T4).mono ?_
    rintro e w7 ⟨xa, xc, rfl, hx, hb⟩
    have own8 := own_new (old := #[.int .i64 0, .int .i64 0, .int .i64 0, .int .i64 0, .int .i64 0, .int .i64 0, .int .i64 0, .int .i64 0, .int .i64 0, .int .i64 0, .bool false, .string ⟨#[]⟩, .string ⟨#[]⟩, .slice none 0 0]) hx
    have hbn := (new_row w7 26 #[.int .i64 0, .int .i64 0, .int .i64 0, .int .i64 0, .int .i64 0, .int .i64 0, .int .i64 0, .int .i64 0, .int .i64 0, .int .i64 0, .bool false, .string ⟨#[]⟩, .string ⟨#[]⟩, .slice none 0 0] (a.cells (.slice xa a.ids.length xc))).2
    have T8 := (T4.kept hb).kept hbn
    have B8 := Below.then_ (Below.then_ B4 hb) hbn
    have one := a.cells_one xa a.ids.length xc
    have hz := zeroOpt w7
    have hss : (#[.int .i64 0, .int .i64 0, .int .i64 0, .int .i64 0, .int .i64 0, .int .i64 0, .int .i64 0, .int .i64 0, .int .i64 0, .int .i64 0, .bool false, .string ⟨#[]⟩, .string ⟨#[]⟩, .slice none 0 0] : Array Value).size = (a.cells (.slice xa a.ids.length xc)).size := by rw [Ov.cells_size]; rfl
    clear T4 B4 f4 hb hbn hx
    go_upto_region 7 with (with_reducible refine wpList_store_row rfl 26 _ _ rfl _ rfl _ rfl 26 _ hz (sizeOpt' _ _) hss one ?_)
    clear hz one hss
    generalize (w7.alloc (.cells #[.int .i64 0, .int .i64 0, .int .i64 0, .int .i64 0, .int .i64 0, .int .i64 0, .int .i64 0, .int .i64 0, .int .i64 0, .int .i64 0, .bool false, .string ⟨#[]⟩, .string ⟨#[]⟩, .slice none 0 0] 26)).setRow w7.heap.size (a.cells (.slice xa a.ids.length xc)) = W8 at *
    generalize w7.heap.size = h8 at own8 ⊢
    obtain ⟨-, -, -, -, f8⟩ := five_all (w := w) T8 B8 own8
    go_wp2_with (fail)
    with_reducible refine (cI _ _ own8.r).mono ?_
    rintro e w11 ⟨rfl, hb11⟩
    have S12 := five_drew (w := w) (T8.kept hb11) (Below.then_ B8 hb11) (own8.kept hb11)
    have eB := fun u W (h1 : Own W h8 a (.slice xa a.ids.length xc)) h2 => eA (.slice xa a.ids.length xc) u W h1.r h2
    clear f8 T8 B8 own8 hb11 cI cS eA
    go_wp2_with (fail)
    go_region_held3 (fun W => Arg W g0 a (.slice va a.ids.length vc) ∧ (loadCells ⟨g0, 0, none⟩ 14).run Try.prog W = .ok (a.cells (.slice va a.ids.length vc)) W ∧ Below w.heap.size w W ∧ Own W h8 a (.slice xa a.ids.length xc) ∧ (loadCells ⟨h8, 0, none⟩ 14).run Try.prog W = .ok (a.cells (.slice xa a.ids.length xc)) W)
      (first | exact S12 | exact five_keep (by assumption) (by assumption) | go_keep)
      (first
        | (go_at_call 20; (with_reducible refine (cA _ ?_).mono ?_); (simp only [*]); rintro e w12 ⟨pa, pc, rfl, hp, hb12⟩)
        | (go_at_call 21; (with_reducible refine (eB _ _ ?_ ?_).mono ?_); (simp only [*]); (exact hp.rd); rintro e w13 ⟨rfl, hb13⟩))
    have S13 : Arg w13 g0 a (.slice va a.ids.length vc) ∧ (loadCells ⟨g0, 0, none⟩ 14).run Try.prog w13 = .ok (a.cells (.slice va a.ids.length vc)) w13 ∧ Below w.heap.size w w13 ∧ Own w13 h8 a (.slice xa a.ids.length xc) ∧ (loadCells ⟨h8, 0, none⟩ 14).run Try.prog w13 = .ok (a.cells (.slice xa a.ids.length xc)) w13 := by assumption
    have hBf := S13.2.2.1
    clear S12 hp hb12 hb13 S13
    go_wp2_with (fail)
    go_ret
    exact ⟨rfl, hBf⟩

set_option maxRecDepth 100000 in
set_option maxHeartbeats 1000000 in
theorem optSize_core (a : Ov) (v : Value) (w : World) (hv : Rd w v a.ids) (hk : a.key.size ≤ 9223372036854775807) (hm : a.mark.size ≤ 9223372036854775807) (hn : a.ids.length ≤ 9223372036854775807) :
    Calls Try.prog 8 #[.agg (a.cells v)] w fun e w' => e = .returned (.bool true) ∧ Below w.heap.size w w' := by
  have hB1 := below_new w (.cells (a.cells v) 34)
  have S1 : Arg (w.alloc (.cells (a.cells v) 34)) w.heap.size a v := ⟨Cel.new w _ _, hv.below hB1⟩
  obtain ⟨va, vc, rfl⟩ : ∃ x c, v = .slice x a.ids.length c := by obtain ⟨x, c, h, -⟩ := hv; exact ⟨x, c, h⟩
  clear hv
  have l0 := arg_load S1
  have z1 := sz_opt a (.slice va a.ids.length vc) 1048576 _ S1.r0 (by omega) (by omega) hk hm hn
  by_cases h1 : szOv a 1048576 < 0
  · generalize szOv a 1048576 = s1 at z1 h1
    go_enter Try.func8, Try.ntmps8
    go_wp2_with (fail)
    with_reducible refine z1.mono ?_
    rintro e w2 ⟨rfl, hb2⟩
    clear l0 z1
    go_wp2_with (fail)
    go_ret
    exact ⟨rfl, hB1.trans (hb2.mono (by simp))⟩
  · obtain ⟨s0, s2, s3, -, -⟩ := szOv_in a 1048576 h1
    generalize szOv a 1048576 = s1 at z1 h1 s0 s2
    go_enter Try.func8, Try.ntmps8
    go_wp2_with (fail)
    with_reducible refine z1.mono ?_
    rintro e w2 ⟨rfl, hb2⟩
    have T2 := S1.kept hb2
    have B2 := Below.then_ hB1 hb2
    have f2 := arg_load T2
    clear l0 z1 hb2 S1 hB1
    generalize w.heap.size = g0 at T2 f2 ⊢
    have cA := fun W (h : Arg W g0 a (.slice va a.ids.length vc)) => to_one a (.slice va a.ids.length vc) W h.r0 (by omega)
    have cS := fun v W h1 => spec_optSize a v W h1 (by omega)
    have cI := fun v W h1 => impl_optSize a v W h1 (by omega)
    have eA := fun x u W h0 h2 => eq_opt a x u W h0 h2 (by omega)
    generalize ((optTx a).size : Int) = tt at *
    go_wp2_with (fail)
    with_reducible refine (cA _ T2).mono ?_
    rintro e w3 ⟨pa, pc, rfl, hp, hb3⟩
    have T3 := T2.kept hb3
    have B3 := Below.then_ B2 hb3
    clear T2 B2 f2 hb3
    go_wp2_with (fail)
    with_reducible refine (cS _ _ hp.rd).mono ?_
    rintro e w4 ⟨rfl, hb4⟩
    have T4 := T3.kept hb4
    have B4 := Below.then_ B3 hb4
    have f4 := arg_load T4
    clear T3 B3 hb4 hp
    go_wp2_with (fail)
    with_reducible refine (cA _ T4).mono ?_
    rintro e w7 ⟨xa, xc, rfl, hx, hb⟩
    have own8 := own_new (old := #[.int .i64 0, .int .i64 0, .int .i64 0, .int .i64 0, .int .i64 0, .int .i64 0, .int .i64 0, .int .i64 0, .int .i64 0, .int .i64 0, .bool false, .string ⟨#[]⟩, .string ⟨#[]⟩, .slice none 0 0]) hx
    have hbn := (new_row w7 26 #[.int .i64 0, .int .i64 0, .int .i64 0, .int .i64 0, .int .i64 0, .int .i64 0, .int .i64 0, .int .i64 0, .int .i64 0, .int .i64 0, .bool false, .string ⟨#[]⟩, .string ⟨#[]⟩, .slice none 0 0] (a.cells (.slice xa a.ids.length xc))).2
    have T8 := (T4.kept hb).kept hbn
    have B8 := Below.then_ (Below.then_ B4 hb) hbn
    have one := a.cells_one xa a.ids.length xc
    have hz := zeroOpt w7
    have hss : (#[.int .i64 0, .int .i64 0, .int .i64 0, .int .i64 0, .int .i64 0, .int .i64 0, .int .i64 0, .int .i64 0, .int .i64 0, .int .i64 0, .bool false, .string ⟨#[]⟩, .string ⟨#[]⟩, .slice none 0 0] : Array Value).size = (a.cells (.slice xa a.ids.length xc)).size := by rw [Ov.cells_size]; rfl
    clear T4 B4 f4 hb hbn hx
    go_upto_region 7 with (with_reducible refine wpList_store_row rfl 26 _ _ rfl _ rfl _ rfl 26 _ hz (sizeOpt' _ _) hss one ?_)
    clear hz one hss
    generalize (w7.alloc (.cells #[.int .i64 0, .int .i64 0, .int .i64 0, .int .i64 0, .int .i64 0, .int .i64 0, .int .i64 0, .int .i64 0, .int .i64 0, .int .i64 0, .bool false, .string ⟨#[]⟩, .string ⟨#[]⟩, .slice none 0 0] 26)).setRow w7.heap.size (a.cells (.slice xa a.ids.length xc)) = W8 at *
    generalize w7.heap.size = h8 at own8 ⊢
    obtain ⟨-, -, -, -, f8⟩ := five_all (w := w) T8 B8 own8
    go_wp2_with (fail)
    with_reducible refine (cI _ _ own8.r).mono ?_
    rintro e w11 ⟨rfl, hb11⟩
    have S12 := five_drew (w := w) (T8.kept hb11) (Below.then_ B8 hb11) (own8.kept hb11)
    have eB := fun u W (h1 : Own W h8 a (.slice xa a.ids.length xc)) h2 => eA (.slice xa a.ids.length xc) u W h1.r h2
    clear f8 T8 B8 own8 hb11 cI cS eA
    go_wp2_with (fail)
    go_region_held3 (fun W => Arg W g0 a (.slice va a.ids.length vc) ∧ (loadCells ⟨g0, 0, none⟩ 14).run Try.prog W = .ok (a.cells (.slice va a.ids.length vc)) W ∧ Below w.heap.size w W ∧ Own W h8 a (.slice xa a.ids.length xc) ∧ (loadCells ⟨h8, 0, none⟩ 14).run Try.prog W = .ok (a.cells (.slice xa a.ids.length xc)) W)
      (first | exact S12 | exact five_keep (by assumption) (by assumption) | go_keep)
      (first
        | (go_at_call 20; (with_reducible refine (cA _ ?_).mono ?_); (simp only [*]); rintro e w12 ⟨pa, pc, rfl, hp, hb12⟩)
        | (go_at_call 21; (with_reducible refine (eB _ _ ?_ ?_).mono ?_); (simp only [*]); (exact hp.rd); rintro e w13 ⟨rfl, hb13⟩))
    have S13 : Arg w13 g0 a (.slice va a.ids.length vc) ∧ (loadCells ⟨g0, 0, none⟩ 14).run Try.prog w13 = .ok (a.cells (.slice va a.ids.length vc)) w13 ∧ Below w.heap.size w w13 ∧ Own w13 h8 a (.slice xa a.ids.length xc) ∧ (loadCells ⟨h8, 0, none⟩ 14).run Try.prog w13 = .ok (a.cells (.slice xa a.ids.length xc)) w13 := by assumption
    have hBf := S13.2.2.1
    clear S12 hp hb12 hb13 S13
    go_wp2_with (fail)
    go_ret
    exact ⟨rfl, hBf⟩

end Go.Proofs.Ytigmldponhobhaa
