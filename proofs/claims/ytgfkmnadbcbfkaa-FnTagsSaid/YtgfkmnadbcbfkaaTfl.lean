import Derived.Test.YtgfkmnadbcbfkaaTft
import Derived.Test.YtgfkmnadbcbfkaaTsk
import Derived.Test.YtgfkmnadbcbfkaaTil
import Derived.Test.YtgfkmnadbcbfkaaTtg
import Derived.Test.YtgfkmnadbcbfkaaTif
import Derived.Test.YtgfkmnadbcbfkaaPlaces
import Derived.Test.YtgfkmnadbcbfkaaCode
namespace Go.Proofs.Ytgfkmnadbcbfkaa
open Go.RowKit

set_option linter.unusedSimpArgs false in
set_option maxRecDepth 100000 in
set_option maxHeartbeats 16000000 in
theorem tags_law (v : Value) (w : World) (n : Nat) (hr : RdB w v n) :
    Calls Try.prog 3 #[v] w fun e w' => e = .returned (.bool true) ∧ Below w.heap.size w w' := by
  have cb := big_call v n w hr
  by_cases hn : 1048576 < n
  · rw [decide_eq_true hn] at cb
    clear hn hr
    go_enter Try.func3, Try.ntmps3
    go_wp2_with (fail)
    with_reducible refine cb.mono ?_
    rintro e w1 ⟨rfl, rfl⟩
    go_wp2_with (fail)
    go_ret
    exact ⟨rfl, Below.refl _ _⟩
  · rw [decide_eq_false hn] at cb
    have cd := draw_learn v n w hr (by omega)
    have hn' : n ≤ 1048576 := by omega
    have HR := Lib.hid hr
    clear hn hr
    go_enter Try.func3, Try.ntmps3
    go_wp2_with (fail)
    with_reducible refine cb.mono ?_
    rintro e w0 ⟨rfl, rfl⟩
    clear cb
    go_wp2_with (fail)
    with_reducible refine cd.mono ?_
    rintro e w1 ⟨ka, kc, ta, tc, ks, ts, t, rfl, hR⟩
    obtain ⟨hO, hl1, hl2, hwf, htw, hb1⟩ := hR
    have hC3 := (Cel.new w1 27 #[.slice ka ks.length kc, .slice ta ts.length tc]).kept (below_tv (w1.alloc (.cells #[.slice ka ks.length kc, .slice ta ts.length tc] 27)) t)
    have hC4 := Cel.new (w1.alloc (.cells #[.slice ka ks.length kc, .slice ta ts.length tc] 27)) 29 #[.int .i64 t.kind, .int .i64 t.one, .int .i64 t.two, .int .i64 t.a, .int .i64 t.b]
    rw [World.size_alloc] at hC4
    have hb2 := Below.then_ (below_new w1 (.cells #[.slice ka ks.length kc, .slice ta ts.length tc] 27)) (below_tv (w1.alloc (.cells #[.slice ka ks.length kc, .slice ta ts.length tc] 27)) t)
    have hR2 := hO.rd.below hb2
    have hB2 := Below.then_ hb1 hb2
    have hle := learn_len ks ts t
    have hcm : canMk ks (learnTs ks ts t) t = true := learn_makes ks ts t (by omega)
    have hwo := learn_wf hwf htw
    have cLi := fun u1 u2 W (h : KnR W u1 u2 ks ts) => impl_learn u1 u2 ks ts t W h (by omega) (by omega) hwf htw
    have cLs := fun u1 u2 W (h : KnR W u1 u2 ks ts) => spec_learn u1 u2 ks ts t W h (by omega) (by omega)
    have cM := fun u1 u2 W (h : KnR W u1 u2 ks (learnTs ks ts t)) => impl_canMake u1 u2 ks (learnTs ks ts t) t W h (by omega) (by omega) hwo htw
    rw [hcm] at cM
    have cS := fun u1 u2 u3 u4 W (h : KnR W u1 u2 ks (learnTs ks ts t)) (h' : KnR W u3 u4 ks (learnTs ks ts t)) => same_known u1 u2 u3 u4 ks (learnTs ks ts t) W h h' (by omega) (by omega)
    have cP := fun W h => draw_places v n W h hn'
    clear hcm hwo hwf htw
    generalize learnTs ks ts t = os at *
    go_upto_region 4 with (fail)
    generalize (w1.alloc (.cells #[.slice ka ks.length kc, .slice ta ts.length tc] 27)).alloc (.cells #[.int .i64 t.kind, .int .i64 t.one, .int .i64 t.two, .int .i64 t.a, .int .i64 t.b] 29) = w2 at *
    generalize w1.heap.size = b3 at *
    clear hb1 hb2 hO cd
    have HD2 := Lib.hid (show ∀ W, Below w2.heap.size w2 W → Below w.heap.size w W ∧ Cel W b3 27 #[.slice ka ks.length kc, .slice ta ts.length tc] ∧ Cel W (b3 + 1) 29 #[.int .i64 t.kind, .int .i64 t.one, .int .i64 t.two, .int .i64 t.a, .int .i64 t.b] ∧ KnR W (.slice ka ks.length kc) (.slice ta ts.length tc) ks ts from fun W h => ⟨Below.then_ hB2 h, hC3.kept h, hC4.kept h, hR2.below h⟩)
    obtain ⟨c0, c1⟩ := cel2k hC3
    obtain ⟨t0, t1, t2, t3, t4⟩ := cel5tv hC4
    have HR2 := Lib.hid hR2
    clear hC3 hC4 hB2 hR2
    go_wp2_with (fail)
    with_reducible refine (cLi _ _ _ HR2.out).mono ?_
    rintro e w3 ⟨p1, d1, p2, d2, rfl, oL, bL⟩
    have hbx := below_new w3 (.cells #[.slice p1 ks.length d1, .slice p2 os.length d2] 27)
    have HX := Lib.hid (And.intro (Below.then_ bL hbx) (And.intro (Cel.new w3 27 #[.slice p1 ks.length d1, .slice p2 os.length d2]) (oL.rd.below hbx)))
    clear oL bL hbx HR2 c0 c1 t0 t1 t2 t3 t4 cLi
    go_upto_region 5 with (fail)
    generalize w3.alloc (.cells #[.slice p1 ks.length d1, .slice p2 os.length d2] 27) = w4 at *
    generalize w3.heap.size = b5 at *
    have HR4 := Lib.hid (HR.out.below (HD2.out _ HX.out.1).1 HR.out.lt)
    clear HR
    go_wp2_with (fail)
    with_reducible refine (cP _ HR4.out).mono ?_
    rintro e w5 ⟨pg, pc, zs, rfl, hzl, hzb, hown, bp⟩
    have hx : ∀ j, j < 12 → ∃ x : Nat, x < 10000 ∧ w5.cell? ⟨pg, j, none⟩ = some (.int .i64 (x : Int)) := by
      intro j hj
      have h := hown.cells (g := pg) rfl j (.int .i64 (zs[j]'(by omega))) (by rw [List.getElem?_map, List.getElem?_eq_getElem (by omega)]; rfl)
      have hb := hzb (zs[j]'(by omega)) (List.getElem_mem _)
      have hadd : (⟨pg, 0, none⟩ : Addr).add j = ⟨pg, j, none⟩ := by unfold Addr.add; split <;> simp_all
      rw [hadd] at h
      exact ⟨(zs[j]'(by omega)).toNat, by omega, by rw [h, Int.toNat_of_nonneg hb.1]⟩
    obtain ⟨x0, l0, g0⟩ := hx 0 (by omega)
    obtain ⟨x1, l1, g1⟩ := hx 1 (by omega)
    obtain ⟨x2, l2, g2⟩ := hx 2 (by omega)
    obtain ⟨x3, l3, g3⟩ := hx 3 (by omega)
    have HD := Lib.hid (show ∀ W, Below w5.heap.size w5 W → Below w4.heap.size w4 W ∧ (Below w.heap.size w W ∧ Cel W b3 27 #[.slice ka ks.length kc, .slice ta ts.length tc] ∧ Cel W (b3 + 1) 29 #[.int .i64 t.kind, .int .i64 t.one, .int .i64 t.two, .int .i64 t.a, .int .i64 t.b] ∧ KnR W (.slice ka ks.length kc) (.slice ta ts.length tc) ks ts) ∧ (Cel W b5 27 #[.slice p1 ks.length d1, .slice p2 os.length d2] ∧ KnR W (.slice p1 ks.length d1) (.slice p2 os.length d2) ks os) ∧ (W.cell? ⟨pg, 0, none⟩ = some (.int .i64 (x0 : Int)) ∧ W.cell? ⟨pg, 1, none⟩ = some (.int .i64 (x1 : Int)) ∧ W.cell? ⟨pg, 2, none⟩ = some (.int .i64 (x2 : Int)) ∧ W.cell? ⟨pg, 3, none⟩ = some (.int .i64 (x3 : Int))) from fun W h => by
      have hb := Below.then_ bp h
      exact ⟨hb, HD2.out W (Below.then_ HX.out.1 hb), ⟨HX.out.2.1.kept hb, HX.out.2.2.below hb⟩, keepc' g0 h, keepc' g1 h, keepc' g2 h, keepc' g3 h⟩)
    clear hx hzl hzb hown bp g0 g1 g2 g3 HX HD2 HR4 cP
    obtain ⟨m0, hm0⟩ : ∃ m0 : Int, (x0 : Int).tmod 9 = m0 := ⟨_, rfl⟩
    obtain ⟨m1, hm1⟩ : ∃ m1 : Int, (x1 : Int).tmod 9 = m1 := ⟨_, rfl⟩
    have q0 : 0 ≤ m0 ∧ m0 ≤ 8 := by rw [← hm0, Int.tmod_eq_emod_of_nonneg (by omega)]; omega
    have q1 : 0 ≤ m1 ∧ m1 ≤ 8 := by rw [← hm1, Int.tmod_eq_emod_of_nonneg (by omega)]; omega
    obtain ⟨X, hX⟩ : ∃ X : Int, 1 + m0 = X := ⟨_, rfl⟩
    obtain ⟨Y, hY⟩ : ∃ Y : Int, 20 + m1 = Y := ⟨_, rfl⟩
    have eX : IntKind.i64.wrap (1 + m0) = X := by rw [IntWalk.i64_in _ (by omega)]; exact hX
    have eY : IntKind.i64.wrap (20 + m1) = Y := by rw [IntWalk.i64_in _ (by omega)]; exact hY
    have hXY : 1 ≤ X ∧ X ≤ 9 ∧ 20 ≤ Y ∧ Y ≤ 28 := by omega
    clear hX hY
    have HXY := Lib.hid (And.intro hXY (And.intro l2 l3))
    clear hXY l0 l1 l2 l3 q0 q1
    have hS : Below w5.heap.size w5 w5.drew := (Below.refl _ _).drew
    go_upto_region 6 with (fail)
    rename_i QQ6 KK6 hKK6
    have REST6 : ∀ (b7 : Nat) (y6 : World), Below w5.heap.size w5 y6 ∧ Cel y6 b7 29 #[.int .i64 1, .int .i64 X, .int .i64 Y, .int .i64 (x2 : Int), .int .i64 (x3 : Int)] → KK6 { tmps := #[v, undef, .bool false, .pointer (some ⟨b3, 0, none⟩), .pointer (some ⟨b3 + 1, 0, none⟩), .pointer (some ⟨b5, 0, none⟩), .slice (some ⟨pg, 0, none⟩) 12 pc, .pointer (some ⟨b7, 0, none⟩), undef, undef, undef, undef, v, .bool false, .tuple #[.agg #[.slice ka ks.length kc, .slice ta ts.length tc], .agg #[.int .i64 t.kind, .int .i64 t.one, .int .i64 t.two, .int .i64 t.a, .int .i64 t.b]], v, .tuple #[.agg #[.slice ka ks.length kc, .slice ta ts.length tc], .agg #[.int .i64 t.kind, .int .i64 t.one, .int .i64 t.two, .int .i64 t.a, .int .i64 t.b]], .agg #[.slice ka ks.length kc, .slice ta ts.length tc], .agg #[.int .i64 t.kind, .int .i64 t.one, .int .i64 t.two, .int .i64 t.a, .int .i64 t.b], .agg #[.slice ka ks.length kc, .slice ta ts.length tc], .agg #[.int .i64 t.kind, .int .i64 t.one, .int .i64 t.two, .int .i64 t.a, .int .i64 t.b], .agg #[.slice p1 ks.length d1, .slice p2 os.length d2], v, .slice (some ⟨pg, 0, none⟩) 12 pc, .slice (some ⟨pg, 0, none⟩) 12 pc, .pointer (some ⟨pg, 0, none⟩), .int .i64 (x0 : Int), .int .i64 m0, .int .i64 X, .slice (some ⟨pg, 0, none⟩) 12 pc, .pointer (some ⟨pg, 1, none⟩), .int .i64 (x1 : Int), .int .i64 m1, .int .i64 Y, .slice (some ⟨pg, 0, none⟩) 12 pc, .pointer (some ⟨pg, 2, none⟩), .int .i64 (x2 : Int), .slice (some ⟨pg, 0, none⟩) 12 pc, .pointer (some ⟨pg, 3, none⟩), .int .i64 (x3 : Int), .agg #[.int .i64 1, .int .i64 X, .int .i64 Y, .int .i64 (x2 : Int), .int .i64 (x3 : Int)], undef, undef, undef, undef, undef, undef, undef, undef, undef, undef, undef, undef, undef, undef, undef, undef, undef, undef, undef, undef, undef, undef, undef, undef, undef, undef, undef, undef, undef, undef, undef, undef, undef, undef, undef, undef, undef, undef, undef, undef, undef, undef, undef, undef, undef, undef, undef, undef, undef, undef, undef, undef, undef, undef, undef, undef, undef, undef, undef, undef, undef, undef, undef, undef, undef, undef, undef, undef, undef, undef, undef, undef, undef, undef, undef, undef, undef, undef, undef, undef, undef, undef, undef, undef, undef, undef, undef, undef, undef, undef, undef, undef, undef, undef, undef, undef, undef, undef, undef, undef, undef], defers := [] } y6 := by
      clear hS
      intro b7 y6 hF
      refine hKK6 _ _ ?_
      have HZ7 := Lib.hid (show ∀ V, Below y6.heap.size y6 V → Below w5.heap.size w5 V ∧ Cel V b7 29 #[.int .i64 1, .int .i64 X, .int .i64 Y, .int .i64 (x2 : Int), .int .i64 (x3 : Int)] from fun V hb => ⟨Below.then_ hF.1 hb, hF.2.kept hb⟩)
      clear hF
      go_upto_region 7 with (fail)
      rename_i KK7 hKK7
      have REST7 : ∀ (b8 : Nat) (y7 : World), Below w5.heap.size w5 y7 ∧ Cel y7 b7 29 #[.int .i64 1, .int .i64 X, .int .i64 Y, .int .i64 (x2 : Int), .int .i64 (x3 : Int)] ∧ Cel y7 b8 29 #[.int .i64 2, .int .i64 X, .int .i64 Y, .int .i64 (x2 : Int), .int .i64 (x3 : Int)] → KK7 { tmps := #[v, undef, .bool false, .pointer (some ⟨b3, 0, none⟩), .pointer (some ⟨b3 + 1, 0, none⟩), .pointer (some ⟨b5, 0, none⟩), .slice (some ⟨pg, 0, none⟩) 12 pc, .pointer (some ⟨b7, 0, none⟩), .pointer (some ⟨b8, 0, none⟩), undef, undef, undef, v, .bool false, .tuple #[.agg #[.slice ka ks.length kc, .slice ta ts.length tc], .agg #[.int .i64 t.kind, .int .i64 t.one, .int .i64 t.two, .int .i64 t.a, .int .i64 t.b]], v, .tuple #[.agg #[.slice ka ks.length kc, .slice ta ts.length tc], .agg #[.int .i64 t.kind, .int .i64 t.one, .int .i64 t.two, .int .i64 t.a, .int .i64 t.b]], .agg #[.slice ka ks.length kc, .slice ta ts.length tc], .agg #[.int .i64 t.kind, .int .i64 t.one, .int .i64 t.two, .int .i64 t.a, .int .i64 t.b], .agg #[.slice ka ks.length kc, .slice ta ts.length tc], .agg #[.int .i64 t.kind, .int .i64 t.one, .int .i64 t.two, .int .i64 t.a, .int .i64 t.b], .agg #[.slice p1 ks.length d1, .slice p2 os.length d2], v, .slice (some ⟨pg, 0, none⟩) 12 pc, .slice (some ⟨pg, 0, none⟩) 12 pc, .pointer (some ⟨pg, 0, none⟩), .int .i64 (x0 : Int), .int .i64 m0, .int .i64 X, .slice (some ⟨pg, 0, none⟩) 12 pc, .pointer (some ⟨pg, 1, none⟩), .int .i64 (x1 : Int), .int .i64 m1, .int .i64 Y, .slice (some ⟨pg, 0, none⟩) 12 pc, .pointer (some ⟨pg, 2, none⟩), .int .i64 (x2 : Int), .slice (some ⟨pg, 0, none⟩) 12 pc, .pointer (some ⟨pg, 3, none⟩), .int .i64 (x3 : Int), .agg #[.int .i64 1, .int .i64 X, .int .i64 Y, .int .i64 (x2 : Int), .int .i64 (x3 : Int)], .slice (some ⟨pg, 0, none⟩) 12 pc, .pointer (some ⟨pg, 0, none⟩), .int .i64 (x0 : Int), .int .i64 m0, .int .i64 X, .slice (some ⟨pg, 0, none⟩) 12 pc, .pointer (some ⟨pg, 1, none⟩), .int .i64 (x1 : Int), .int .i64 m1, .int .i64 Y, .slice (some ⟨pg, 0, none⟩) 12 pc, .pointer (some ⟨pg, 2, none⟩), .int .i64 (x2 : Int), .slice (some ⟨pg, 0, none⟩) 12 pc, .pointer (some ⟨pg, 3, none⟩), .int .i64 (x3 : Int), .agg #[.int .i64 2, .int .i64 X, .int .i64 Y, .int .i64 (x2 : Int), .int .i64 (x3 : Int)], undef, undef, undef, undef, undef, undef, undef, undef, undef, undef, undef, undef, undef, undef, undef, undef, undef, undef, undef, undef, undef, undef, undef, undef, undef, undef, undef, undef, undef, undef, undef, undef, undef, undef, undef, undef, undef, undef, undef, undef, undef, undef, undef, undef, undef, undef, undef, undef, undef, undef, undef, undef, undef, undef, undef, undef, undef, undef, undef, undef, undef, undef, undef, undef, undef, undef, undef, undef, undef, undef, undef, undef, undef, undef, undef, undef, undef, undef, undef, undef, undef, undef, undef, undef], defers := [] } y7 := by
        clear HZ7
        intro b8 y7 hF
        refine hKK7 _ _ ?_
        have HZ8 := Lib.hid (show ∀ V, Below y7.heap.size y7 V → Below w5.heap.size w5 V ∧ Cel V b7 29 #[.int .i64 1, .int .i64 X, .int .i64 Y, .int .i64 (x2 : Int), .int .i64 (x3 : Int)] ∧ Cel V b8 29 #[.int .i64 2, .int .i64 X, .int .i64 Y, .int .i64 (x2 : Int), .int .i64 (x3 : Int)] from fun V hb => ⟨Below.then_ hF.1 hb, hF.2.1.kept hb, hF.2.2.kept hb⟩)
        clear hF
        go_upto_region 8 with (fail)
        rename_i KK8 hKK8
        have REST8 : ∀ (b9 : Nat) (y8 : World), Below w5.heap.size w5 y8 ∧ Cel y8 b7 29 #[.int .i64 1, .int .i64 X, .int .i64 Y, .int .i64 (x2 : Int), .int .i64 (x3 : Int)] ∧ Cel y8 b8 29 #[.int .i64 2, .int .i64 X, .int .i64 Y, .int .i64 (x2 : Int), .int .i64 (x3 : Int)] ∧ Cel y8 b9 29 #[.int .i64 1, .int .i64 Y, .int .i64 X, .int .i64 (x2 : Int), .int .i64 (x3 : Int)] → KK8 { tmps := #[v, undef, .bool false, .pointer (some ⟨b3, 0, none⟩), .pointer (some ⟨b3 + 1, 0, none⟩), .pointer (some ⟨b5, 0, none⟩), .slice (some ⟨pg, 0, none⟩) 12 pc, .pointer (some ⟨b7, 0, none⟩), .pointer (some ⟨b8, 0, none⟩), .pointer (some ⟨b9, 0, none⟩), undef, undef, v, .bool false, .tuple #[.agg #[.slice ka ks.length kc, .slice ta ts.length tc], .agg #[.int .i64 t.kind, .int .i64 t.one, .int .i64 t.two, .int .i64 t.a, .int .i64 t.b]], v, .tuple #[.agg #[.slice ka ks.length kc, .slice ta ts.length tc], .agg #[.int .i64 t.kind, .int .i64 t.one, .int .i64 t.two, .int .i64 t.a, .int .i64 t.b]], .agg #[.slice ka ks.length kc, .slice ta ts.length tc], .agg #[.int .i64 t.kind, .int .i64 t.one, .int .i64 t.two, .int .i64 t.a, .int .i64 t.b], .agg #[.slice ka ks.length kc, .slice ta ts.length tc], .agg #[.int .i64 t.kind, .int .i64 t.one, .int .i64 t.two, .int .i64 t.a, .int .i64 t.b], .agg #[.slice p1 ks.length d1, .slice p2 os.length d2], v, .slice (some ⟨pg, 0, none⟩) 12 pc, .slice (some ⟨pg, 0, none⟩) 12 pc, .pointer (some ⟨pg, 0, none⟩), .int .i64 (x0 : Int), .int .i64 m0, .int .i64 X, .slice (some ⟨pg, 0, none⟩) 12 pc, .pointer (some ⟨pg, 1, none⟩), .int .i64 (x1 : Int), .int .i64 m1, .int .i64 Y, .slice (some ⟨pg, 0, none⟩) 12 pc, .pointer (some ⟨pg, 2, none⟩), .int .i64 (x2 : Int), .slice (some ⟨pg, 0, none⟩) 12 pc, .pointer (some ⟨pg, 3, none⟩), .int .i64 (x3 : Int), .agg #[.int .i64 1, .int .i64 X, .int .i64 Y, .int .i64 (x2 : Int), .int .i64 (x3 : Int)], .slice (some ⟨pg, 0, none⟩) 12 pc, .pointer (some ⟨pg, 0, none⟩), .int .i64 (x0 : Int), .int .i64 m0, .int .i64 X, .slice (some ⟨pg, 0, none⟩) 12 pc, .pointer (some ⟨pg, 1, none⟩), .int .i64 (x1 : Int), .int .i64 m1, .int .i64 Y, .slice (some ⟨pg, 0, none⟩) 12 pc, .pointer (some ⟨pg, 2, none⟩), .int .i64 (x2 : Int), .slice (some ⟨pg, 0, none⟩) 12 pc, .pointer (some ⟨pg, 3, none⟩), .int .i64 (x3 : Int), .agg #[.int .i64 2, .int .i64 X, .int .i64 Y, .int .i64 (x2 : Int), .int .i64 (x3 : Int)], .slice (some ⟨pg, 0, none⟩) 12 pc, .pointer (some ⟨pg, 1, none⟩), .int .i64 (x1 : Int), .int .i64 m1, .int .i64 Y, .slice (some ⟨pg, 0, none⟩) 12 pc, .pointer (some ⟨pg, 0, none⟩), .int .i64 (x0 : Int), .int .i64 m0, .int .i64 X, .slice (some ⟨pg, 0, none⟩) 12 pc, .pointer (some ⟨pg, 2, none⟩), .int .i64 (x2 : Int), .slice (some ⟨pg, 0, none⟩) 12 pc, .pointer (some ⟨pg, 3, none⟩), .int .i64 (x3 : Int), .agg #[.int .i64 1, .int .i64 Y, .int .i64 X, .int .i64 (x2 : Int), .int .i64 (x3 : Int)], undef, undef, undef, undef, undef, undef, undef, undef, undef, undef, undef, undef, undef, undef, undef, undef, undef, undef, undef, undef, undef, undef, undef, undef, undef, undef, undef, undef, undef, undef, undef, undef, undef, undef, undef, undef, undef, undef, undef, undef, undef, undef, undef, undef, undef, undef, undef, undef, undef, undef, undef, undef, undef, undef, undef, undef, undef, undef, undef, undef, undef, undef, undef, undef, undef, undef, undef], defers := [] } y8 := by
          clear HZ8
          intro b9 y8 hF
          refine hKK8 _ _ ?_
          have HZ9 := Lib.hid (show ∀ V, Below y8.heap.size y8 V → Below w5.heap.size w5 V ∧ Cel V b7 29 #[.int .i64 1, .int .i64 X, .int .i64 Y, .int .i64 (x2 : Int), .int .i64 (x3 : Int)] ∧ Cel V b8 29 #[.int .i64 2, .int .i64 X, .int .i64 Y, .int .i64 (x2 : Int), .int .i64 (x3 : Int)] ∧ Cel V b9 29 #[.int .i64 1, .int .i64 Y, .int .i64 X, .int .i64 (x2 : Int), .int .i64 (x3 : Int)] from fun V hb => ⟨Below.then_ hF.1 hb, hF.2.1.kept hb, hF.2.2.1.kept hb, hF.2.2.2.kept hb⟩)
          clear hF
          go_upto_region 9 with (fail)
          rename_i KK9 hKK9
          have REST9 : ∀ (bi b10 : Nat) (y9 : World), Below w5.heap.size w5 y9 ∧ Cel y9 b7 29 #[.int .i64 1, .int .i64 X, .int .i64 Y, .int .i64 (x2 : Int), .int .i64 (x3 : Int)] ∧ Cel y9 b8 29 #[.int .i64 2, .int .i64 X, .int .i64 Y, .int .i64 (x2 : Int), .int .i64 (x3 : Int)] ∧ Cel y9 b9 29 #[.int .i64 1, .int .i64 Y, .int .i64 X, .int .i64 (x2 : Int), .int .i64 (x3 : Int)] ∧ Cel y9 b10 27 #[.slice (some ⟨bi, 0, none⟩) 2 2, .slice none 0 0] ∧ RdE intK y9 (.slice (some ⟨bi, 0, none⟩) 2 2) [X, Y] → KK9 { tmps := #[v, undef, .bool false, .pointer (some ⟨b3, 0, none⟩), .pointer (some ⟨b3 + 1, 0, none⟩), .pointer (some ⟨b5, 0, none⟩), .slice (some ⟨pg, 0, none⟩) 12 pc, .pointer (some ⟨b7, 0, none⟩), .pointer (some ⟨b8, 0, none⟩), .pointer (some ⟨b9, 0, none⟩), .pointer (some ⟨b10, 0, none⟩), undef, v, .bool false, .tuple #[.agg #[.slice ka ks.length kc, .slice ta ts.length tc], .agg #[.int .i64 t.kind, .int .i64 t.one, .int .i64 t.two, .int .i64 t.a, .int .i64 t.b]], v, .tuple #[.agg #[.slice ka ks.length kc, .slice ta ts.length tc], .agg #[.int .i64 t.kind, .int .i64 t.one, .int .i64 t.two, .int .i64 t.a, .int .i64 t.b]], .agg #[.slice ka ks.length kc, .slice ta ts.length tc], .agg #[.int .i64 t.kind, .int .i64 t.one, .int .i64 t.two, .int .i64 t.a, .int .i64 t.b], .agg #[.slice ka ks.length kc, .slice ta ts.length tc], .agg #[.int .i64 t.kind, .int .i64 t.one, .int .i64 t.two, .int .i64 t.a, .int .i64 t.b], .agg #[.slice p1 ks.length d1, .slice p2 os.length d2], v, .slice (some ⟨pg, 0, none⟩) 12 pc, .slice (some ⟨pg, 0, none⟩) 12 pc, .pointer (some ⟨pg, 0, none⟩), .int .i64 (x0 : Int), .int .i64 m0, .int .i64 X, .slice (some ⟨pg, 0, none⟩) 12 pc, .pointer (some ⟨pg, 1, none⟩), .int .i64 (x1 : Int), .int .i64 m1, .int .i64 Y, .slice (some ⟨pg, 0, none⟩) 12 pc, .pointer (some ⟨pg, 2, none⟩), .int .i64 (x2 : Int), .slice (some ⟨pg, 0, none⟩) 12 pc, .pointer (some ⟨pg, 3, none⟩), .int .i64 (x3 : Int), .agg #[.int .i64 1, .int .i64 X, .int .i64 Y, .int .i64 (x2 : Int), .int .i64 (x3 : Int)], .slice (some ⟨pg, 0, none⟩) 12 pc, .pointer (some ⟨pg, 0, none⟩), .int .i64 (x0 : Int), .int .i64 m0, .int .i64 X, .slice (some ⟨pg, 0, none⟩) 12 pc, .pointer (some ⟨pg, 1, none⟩), .int .i64 (x1 : Int), .int .i64 m1, .int .i64 Y, .slice (some ⟨pg, 0, none⟩) 12 pc, .pointer (some ⟨pg, 2, none⟩), .int .i64 (x2 : Int), .slice (some ⟨pg, 0, none⟩) 12 pc, .pointer (some ⟨pg, 3, none⟩), .int .i64 (x3 : Int), .agg #[.int .i64 2, .int .i64 X, .int .i64 Y, .int .i64 (x2 : Int), .int .i64 (x3 : Int)], .slice (some ⟨pg, 0, none⟩) 12 pc, .pointer (some ⟨pg, 1, none⟩), .int .i64 (x1 : Int), .int .i64 m1, .int .i64 Y, .slice (some ⟨pg, 0, none⟩) 12 pc, .pointer (some ⟨pg, 0, none⟩), .int .i64 (x0 : Int), .int .i64 m0, .int .i64 X, .slice (some ⟨pg, 0, none⟩) 12 pc, .pointer (some ⟨pg, 2, none⟩), .int .i64 (x2 : Int), .slice (some ⟨pg, 0, none⟩) 12 pc, .pointer (some ⟨pg, 3, none⟩), .int .i64 (x3 : Int), .agg #[.int .i64 1, .int .i64 Y, .int .i64 X, .int .i64 (x2 : Int), .int .i64 (x3 : Int)], .slice (some ⟨pg, 0, none⟩) 12 pc, .pointer (some ⟨pg, 0, none⟩), .int .i64 (x0 : Int), .int .i64 m0, .int .i64 X, .slice (some ⟨pg, 0, none⟩) 12 pc, .pointer (some ⟨pg, 1, none⟩), .int .i64 (x1 : Int), .int .i64 m1, .int .i64 Y, .slice (some ⟨bi, 0, none⟩) 2 2, .agg #[.slice (some ⟨bi, 0, none⟩) 2 2, .slice none 0 0], undef, undef, undef, undef, undef, undef, undef, undef, undef, undef, undef, undef, undef, undef, undef, undef, undef, undef, undef, undef, undef, undef, undef, undef, undef, undef, undef, undef, undef, undef, undef, undef, undef, undef, undef, undef, undef, undef, undef, undef, undef, undef, undef, undef, undef, undef, undef, undef, undef, undef, undef, undef, undef, undef, undef], defers := [] } y9 := by
            clear HZ9
            intro bi b10 y9 hF
            refine hKK9 _ _ ?_
            exact tags_tail w5 w4 y9 w v ka ta p1 p2 kc tc d1 d2 pg pc ks ts os t x0 x1 x2 x3 b3 b5 b7 b8 b9 bi b10 m0 m1 X Y hl1 hl2 hle cLs cM cS HD hm0 eX HXY hF
          refine wp_region_held_drew (S := fun W => Below y8.heap.size y8 W) (by kernel_rfl) (show Below y8.heap.size y8 y8.drew from (Below.refl _ _).drew) (fun hHeld => ?_)
          generalize y8.drew = wd9 at *
          refine take_yes (i := 0) (oi := { dst := some 75, op := Op.move (Operand.tmp 6), type := 24, pos := "laws.go:590", after := #[], guard := none }) (v := .slice (some ⟨pg, 0, none⟩) 12 pc) rfl (by kernel_rfl) (by kernel_rfl) (by kernel_rfl) (fun _ _ _ h => h) (by rfl) (fun w hSw => by (try dsimp only at hSw); go_simp) (by assumption) ?_
          try simp only [Act.put, List.setIfInBounds_toArray, List.set_cons_zero, List.set_cons_succ]
          refine take_yes (i := 1) (oi := { dst := some 76, op := Op.indexAddr 24 (Operand.tmp 75) (Operand.const (Value.int IntKind.i64 0)), type := 0, pos := "laws.go:590", after := #[{ on := 0, ground := Ground.data }], guard := none }) (v := .pointer (some ⟨pg, 0, none⟩)) rfl (by kernel_rfl) (by kernel_rfl) (by kernel_rfl) (fun _ _ _ h => h) (by rfl) (fun w hSw => by (try dsimp only at hSw); go_simp) (by assumption) ?_
          try simp only [Act.put, List.setIfInBounds_toArray, List.set_cons_zero, List.set_cons_succ]
          refine take_yes (i := 2) (oi := { dst := some 77, op := Op.load 3 (Operand.tmp 76), type := 3, pos := "laws.go:590", after := #[{ on := 1, ground := Ground.data }], guard := none }) (v := .int .i64 (x0 : Int)) rfl (by kernel_rfl) (by kernel_rfl) (by kernel_rfl) (fun _ _ _ h => h) (by rfl) (fun w hSw => by (try dsimp only at hSw); obtain ⟨-, -, -, g0, g1, g2, g3⟩ := HD.out _ (HZ9.out _ hSw).1; go_simp) (by assumption) ?_
          try simp only [Act.put, List.setIfInBounds_toArray, List.set_cons_zero, List.set_cons_succ]
          refine take_yes (i := 3) (oi := { dst := some 78, op := Op.binOp BinOp.rem 3 (Operand.tmp 77) (Operand.const (Value.int IntKind.i64 9)) 3, type := 3, pos := "laws.go:590", after := #[{ on := 2, ground := Ground.data }], guard := none }) (v := .int .i64 m0) rfl (by kernel_rfl) (by kernel_rfl) (by kernel_rfl) (fun _ _ _ h => h) (by rfl) (fun w hSw => by (try dsimp only at hSw); go_simp) (by assumption) ?_
          try simp only [Act.put, List.setIfInBounds_toArray, List.set_cons_zero, List.set_cons_succ]
          refine take_yes (i := 4) (oi := { dst := some 79, op := Op.binOp BinOp.add 3 (Operand.const (Value.int IntKind.i64 1)) (Operand.tmp 78) 3, type := 3, pos := "laws.go:590", after := #[{ on := 3, ground := Ground.data }], guard := none }) (v := .int .i64 X) rfl (by kernel_rfl) (by kernel_rfl) (by kernel_rfl) (fun _ _ _ h => h) (by rfl) (fun w hSw => by (try dsimp only at hSw); go_simp) (by assumption) ?_
          try simp only [Act.put, List.setIfInBounds_toArray, List.set_cons_zero, List.set_cons_succ]
          refine take_yes (i := 5) (oi := { dst := some 80, op := Op.move (Operand.tmp 6), type := 24, pos := "laws.go:590", after := #[], guard := none }) (v := .slice (some ⟨pg, 0, none⟩) 12 pc) rfl (by kernel_rfl) (by kernel_rfl) (by kernel_rfl) (fun _ _ _ h => h) (by rfl) (fun w hSw => by (try dsimp only at hSw); go_simp) (by assumption) ?_
          try simp only [Act.put, List.setIfInBounds_toArray, List.set_cons_zero, List.set_cons_succ]
          refine take_yes (i := 6) (oi := { dst := some 81, op := Op.indexAddr 24 (Operand.tmp 80) (Operand.const (Value.int IntKind.i64 1)), type := 0, pos := "laws.go:590", after := #[{ on := 5, ground := Ground.data }], guard := none }) (v := .pointer (some ⟨pg, 1, none⟩)) rfl (by kernel_rfl) (by kernel_rfl) (by kernel_rfl) (fun _ _ _ h => h) (by rfl) (fun w hSw => by (try dsimp only at hSw); go_simp) (by assumption) ?_
          try simp only [Act.put, List.setIfInBounds_toArray, List.set_cons_zero, List.set_cons_succ]
          refine take_yes (i := 7) (oi := { dst := some 82, op := Op.load 3 (Operand.tmp 81), type := 3, pos := "laws.go:590", after := #[{ on := 6, ground := Ground.data }], guard := none }) (v := .int .i64 (x1 : Int)) rfl (by kernel_rfl) (by kernel_rfl) (by kernel_rfl) (fun _ _ _ h => h) (by rfl) (fun w hSw => by (try dsimp only at hSw); obtain ⟨-, -, -, g0, g1, g2, g3⟩ := HD.out _ (HZ9.out _ hSw).1; go_simp) (by assumption) ?_
          try simp only [Act.put, List.setIfInBounds_toArray, List.set_cons_zero, List.set_cons_succ]
          refine take_yes (i := 8) (oi := { dst := some 83, op := Op.binOp BinOp.rem 3 (Operand.tmp 82) (Operand.const (Value.int IntKind.i64 9)) 3, type := 3, pos := "laws.go:590", after := #[{ on := 7, ground := Ground.data }], guard := none }) (v := .int .i64 m1) rfl (by kernel_rfl) (by kernel_rfl) (by kernel_rfl) (fun _ _ _ h => h) (by rfl) (fun w hSw => by (try dsimp only at hSw); go_simp) (by assumption) ?_
          try simp only [Act.put, List.setIfInBounds_toArray, List.set_cons_zero, List.set_cons_succ]
          refine take_yes (i := 9) (oi := { dst := some 84, op := Op.binOp BinOp.add 3 (Operand.const (Value.int IntKind.i64 20)) (Operand.tmp 83) 3, type := 3, pos := "laws.go:590", after := #[{ on := 8, ground := Ground.data }], guard := none }) (v := .int .i64 Y) rfl (by kernel_rfl) (by kernel_rfl) (by kernel_rfl) (fun _ _ _ h => h) (by rfl) (fun w hSw => by (try dsimp only at hSw); go_simp) (by assumption) ?_
          try simp only [Act.put, List.setIfInBounds_toArray, List.set_cons_zero, List.set_cons_succ]
          refine wpAnyH_ready (rs := [10, 12]) (by kernel_rfl) (by simp) ?_
          refine AllReadyH.cons (o := { dst := some 85, op := Op.buildSlice 24 2 #[(0, Operand.tmp 79), (1, Operand.tmp 84)], type := 24, pos := "laws.go:590", after := #[{ on := 4, ground := Ground.data }, { on := 9, ground := Ground.data }], guard := none }) rfl (fun K hK => ?_) ?_
          · go_simp
            have KA3 := Below.then_ hHeld (below_new wd9 (.cells #[.int .i64 X, .int .i64 Y] 3))
            have HI1 := Lib.hid (own_two wd9 X Y)
            generalize wd9.heap.size = bi4 at *
            generalize wd9.alloc (.cells #[.int .i64 X, .int .i64 Y] 3) = wA2 at *
            refine hK.out _ _ KA3 (fun hHeldN => ?_)
            clear hK K hHeld
            have hHeld := hHeldN
            clear hHeldN
            try simp only [Act.put, List.setIfInBounds_toArray, List.set_cons_zero, List.set_cons_succ]
            refine take_yes (i := 11) (oi := { dst := some 86, op := Op.build 27 #[(0, Operand.tmp 85)], type := 27, pos := "laws.go:590", after := #[{ on := 10, ground := Ground.data }], guard := none }) (v := .agg #[.slice (some ⟨bi4, 0, none⟩) 2 2, .slice none 0 0]) rfl (by kernel_rfl) (by kernel_rfl) (by kernel_rfl) (fun _ _ _ h => h) (by rfl) (fun w hSw => by (try dsimp only at hSw); go_simp) (by assumption) ?_
            try simp only [Act.put, List.setIfInBounds_toArray, List.set_cons_zero, List.set_cons_succ]
            refine wpAnyH_ready (rs := [12]) (by kernel_rfl) (by simp) ?_
            refine AllReadyH.cons (o := { dst := some 10, op := Op.alloc 27, type := 0, pos := "laws.go:590", after := #[], guard := none }) rfl (fun K hK => ?_) AllReadyH.nil
            go_simp
            have KB7 := Below.then_ hHeld (below_new wA2 (.cells #[.slice none 0 0, .slice none 0 0] 27))
            have HB5 := Lib.hid (And.intro (Cel.new wA2 27 #[.slice none 0 0, .slice none 0 0]) hHeld.size)
            have HI9 := Lib.hid (HI1.out.full (below_new wA2 (.cells #[.slice none 0 0, .slice none 0 0] 27)))
            have HNE := Lib.hid (show bi4 ≠ wA2.heap.size from Nat.ne_of_lt (HI1.out.block _ rfl).2)
            clear HI1
            generalize wA2.heap.size = gb8 at *
            generalize wA2.alloc (.cells #[.slice none 0 0, .slice none 0 0] 27) = wB6 at *
            refine hK.out _ _ KB7 (fun hHeldN => ?_)
            clear hK K hHeld
            have hHeld := hHeldN
            clear hHeldN
            try simp only [Act.put, List.setIfInBounds_toArray, List.set_cons_zero, List.set_cons_succ]
            refine wpAnyH_ready (rs := [13]) (by kernel_rfl) (by simp) ?_
            refine AllReadyH.cons (o := { dst := none, op := Op.store 27 (Operand.tmp 10) (Operand.tmp 86), type := 0, pos := "laws.go:590", after := #[{ on := 12, ground := Ground.data }, { on := 11, ground := Ground.data }, { on := 0, ground := Ground.phase }, { on := 1, ground := Ground.phase }, { on := 2, ground := Ground.phase }, { on := 3, ground := Ground.phase }, { on := 4, ground := Ground.phase }, { on := 5, ground := Ground.phase }, { on := 6, ground := Ground.phase }, { on := 7, ground := Ground.phase }, { on := 8, ground := Ground.phase }, { on := 9, ground := Ground.phase }, { on := 10, ground := Ground.phase }, { on := 11, ground := Ground.phase }, { on := 12, ground := Ground.phase }], guard := none }) rfl (fun K hK => ?_) AllReadyH.nil
            obtain ⟨z0, z1⟩ := cel2k HB5.out.1
            have f0 := HB5.out.1.frozen 0
            have f1 := HB5.out.1.frozen 1
            go_simp
            clear z0 z1 f0 f1
            have KF11 : Below y8.heap.size y8 ((wB6.setCell ⟨gb8, 0, none⟩ (.slice (some ⟨bi4, 0, none⟩) 2 2)).setCell ⟨gb8, 1, none⟩ (.slice none 0 0)) := hHeld.trans (esetC_below gb8 y8.heap.size HB5.out.2 0 [.slice (some ⟨bi4, 0, none⟩) 2 2, .slice none 0 0] wB6)
            have HF10 := Lib.hid (And.intro ((HB5.out.1.set 0 (.slice (some ⟨bi4, 0, none⟩) 2 2)).set 1 (.slice none 0 0)) (own_set2 HI9.out (.slice (some ⟨bi4, 0, none⟩) 2 2) (.slice none 0 0) HNE.out))
            clear HB5 HI9
            generalize ((wB6.setCell ⟨gb8, 0, none⟩ (.slice (some ⟨bi4, 0, none⟩) 2 2)).setCell ⟨gb8, 1, none⟩ (.slice none 0 0)) = w9 at *
            refine hK.out _ _ KF11 (fun hHeldN => ?_)
            clear hK K hHeld
            have hHeld := hHeldN
            clear hHeldN
            try simp only [Act.put, List.setIfInBounds_toArray, List.set_cons_zero, List.set_cons_succ]
            refine wpAnyH_done (by kernel_rfl) ?_ _
            have hHeld2 := hHeld
            clear hHeld
            exact REST9 _ _ _ ⟨(HZ9.out _ hHeld2).1, (HZ9.out _ hHeld2).2.1, (HZ9.out _ hHeld2).2.2.1, (HZ9.out _ hHeld2).2.2.2, HF10.out.1, HF10.out.2⟩
          refine AllReadyH.cons (o := { dst := some 10, op := Op.alloc 27, type := 0, pos := "laws.go:590", after := #[], guard := none }) rfl (fun K hK => ?_) AllReadyH.nil
          go_simp
          have KB14 := Below.then_ hHeld (below_new wd9 (.cells #[.slice none 0 0, .slice none 0 0] 27))
          have HB12 := Lib.hid (And.intro (Cel.new wd9 27 #[.slice none 0 0, .slice none 0 0]) hHeld.size)
          generalize wd9.heap.size = gb15 at *
          generalize wd9.alloc (.cells #[.slice none 0 0, .slice none 0 0] 27) = wB13 at *
          refine hK.out _ _ KB14 (fun hHeldN => ?_)
          clear hK K hHeld
          have hHeld := hHeldN
          clear hHeldN
          try simp only [Act.put, List.setIfInBounds_toArray, List.set_cons_zero, List.set_cons_succ]
          refine wpAnyH_ready (rs := [10]) (by kernel_rfl) (by simp) ?_
          refine AllReadyH.cons (o := { dst := some 85, op := Op.buildSlice 24 2 #[(0, Operand.tmp 79), (1, Operand.tmp 84)], type := 24, pos := "laws.go:590", after := #[{ on := 4, ground := Ground.data }, { on := 9, ground := Ground.data }], guard := none }) rfl (fun K hK => ?_) AllReadyH.nil
          go_simp
          have KA18 := Below.then_ hHeld (below_new wB13 (.cells #[.int .i64 X, .int .i64 Y] 3))
          have HI16 := Lib.hid (own_two wB13 X Y)
          have HB20 := Lib.hid (And.intro (HB12.out.1.kept (below_new wB13 (.cells #[.int .i64 X, .int .i64 Y] 3))) HB12.out.2)
          have HNE := Lib.hid (show wB13.heap.size ≠ gb15 from fun e => Nat.lt_irrefl _ (Nat.lt_of_lt_of_eq HB12.out.1.lt e))
          clear HB12
          generalize wB13.heap.size = bi19 at *
          generalize wB13.alloc (.cells #[.int .i64 X, .int .i64 Y] 3) = wA17 at *
          refine hK.out _ _ KA18 (fun hHeldN => ?_)
          clear hK K hHeld
          have hHeld := hHeldN
          clear hHeldN
          try simp only [Act.put, List.setIfInBounds_toArray, List.set_cons_zero, List.set_cons_succ]
          refine take_yes (i := 11) (oi := { dst := some 86, op := Op.build 27 #[(0, Operand.tmp 85)], type := 27, pos := "laws.go:590", after := #[{ on := 10, ground := Ground.data }], guard := none }) (v := .agg #[.slice (some ⟨bi19, 0, none⟩) 2 2, .slice none 0 0]) rfl (by kernel_rfl) (by kernel_rfl) (by kernel_rfl) (fun _ _ _ h => h) (by rfl) (fun w hSw => by (try dsimp only at hSw); go_simp) (by assumption) ?_
          try simp only [Act.put, List.setIfInBounds_toArray, List.set_cons_zero, List.set_cons_succ]
          refine wpAnyH_ready (rs := [13]) (by kernel_rfl) (by simp) ?_
          refine AllReadyH.cons (o := { dst := none, op := Op.store 27 (Operand.tmp 10) (Operand.tmp 86), type := 0, pos := "laws.go:590", after := #[{ on := 12, ground := Ground.data }, { on := 11, ground := Ground.data }, { on := 0, ground := Ground.phase }, { on := 1, ground := Ground.phase }, { on := 2, ground := Ground.phase }, { on := 3, ground := Ground.phase }, { on := 4, ground := Ground.phase }, { on := 5, ground := Ground.phase }, { on := 6, ground := Ground.phase }, { on := 7, ground := Ground.phase }, { on := 8, ground := Ground.phase }, { on := 9, ground := Ground.phase }, { on := 10, ground := Ground.phase }, { on := 11, ground := Ground.phase }, { on := 12, ground := Ground.phase }], guard := none }) rfl (fun K hK => ?_) AllReadyH.nil
          obtain ⟨z0, z1⟩ := cel2k HB20.out.1
          have f0 := HB20.out.1.frozen 0
          have f1 := HB20.out.1.frozen 1
          go_simp
          clear z0 z1 f0 f1
          have KF22 : Below y8.heap.size y8 ((wA17.setCell ⟨gb15, 0, none⟩ (.slice (some ⟨bi19, 0, none⟩) 2 2)).setCell ⟨gb15, 1, none⟩ (.slice none 0 0)) := hHeld.trans (esetC_below gb15 y8.heap.size HB20.out.2 0 [.slice (some ⟨bi19, 0, none⟩) 2 2, .slice none 0 0] wA17)
          have HF21 := Lib.hid (And.intro ((HB20.out.1.set 0 (.slice (some ⟨bi19, 0, none⟩) 2 2)).set 1 (.slice none 0 0)) (own_set2 HI16.out (.slice (some ⟨bi19, 0, none⟩) 2 2) (.slice none 0 0) HNE.out))
          clear HB20 HI16
          generalize ((wA17.setCell ⟨gb15, 0, none⟩ (.slice (some ⟨bi19, 0, none⟩) 2 2)).setCell ⟨gb15, 1, none⟩ (.slice none 0 0)) = w9 at *
          refine hK.out _ _ KF22 (fun hHeldN => ?_)
          clear hK K hHeld
          have hHeld := hHeldN
          clear hHeldN
          try simp only [Act.put, List.setIfInBounds_toArray, List.set_cons_zero, List.set_cons_succ]
          refine wpAnyH_done (by kernel_rfl) ?_ _
          have hHeld2 := hHeld
          clear hHeld
          exact REST9 _ _ _ ⟨(HZ9.out _ hHeld2).1, (HZ9.out _ hHeld2).2.1, (HZ9.out _ hHeld2).2.2.1, (HZ9.out _ hHeld2).2.2.2, HF21.out.1, HF21.out.2⟩
        refine wp_region_held_drew (S := fun W => Below y7.heap.size y7 W) (by kernel_rfl) (show Below y7.heap.size y7 y7.drew from (Below.refl _ _).drew) (fun hHeld => ?_)
        generalize y7.drew = wd8 at *
        refine take_yes (i := 0) (oi := { dst := some 58, op := Op.move (Operand.tmp 6), type := 24, pos := "laws.go:589", after := #[], guard := none }) (v := .slice (some ⟨pg, 0, none⟩) 12 pc) rfl (by kernel_rfl) (by kernel_rfl) (by kernel_rfl) (fun _ _ _ h => h) (by rfl) (fun w hSw => by (try dsimp only at hSw); go_simp) (by assumption) ?_
        try simp only [Act.put, List.setIfInBounds_toArray, List.set_cons_zero, List.set_cons_succ]
        refine take_yes (i := 1) (oi := { dst := some 59, op := Op.indexAddr 24 (Operand.tmp 58) (Operand.const (Value.int IntKind.i64 1)), type := 0, pos := "laws.go:589", after := #[{ on := 0, ground := Ground.data }], guard := none }) (v := .pointer (some ⟨pg, 1, none⟩)) rfl (by kernel_rfl) (by kernel_rfl) (by kernel_rfl) (fun _ _ _ h => h) (by rfl) (fun w hSw => by (try dsimp only at hSw); go_simp) (by assumption) ?_
        try simp only [Act.put, List.setIfInBounds_toArray, List.set_cons_zero, List.set_cons_succ]
        refine take_yes (i := 2) (oi := { dst := some 60, op := Op.load 3 (Operand.tmp 59), type := 3, pos := "laws.go:589", after := #[{ on := 1, ground := Ground.data }], guard := none }) (v := .int .i64 (x1 : Int)) rfl (by kernel_rfl) (by kernel_rfl) (by kernel_rfl) (fun _ _ _ h => h) (by rfl) (fun w hSw => by (try dsimp only at hSw); obtain ⟨-, -, -, g0, g1, g2, g3⟩ := HD.out _ (HZ8.out _ hSw).1; go_simp) (by assumption) ?_
        try simp only [Act.put, List.setIfInBounds_toArray, List.set_cons_zero, List.set_cons_succ]
        refine take_yes (i := 3) (oi := { dst := some 61, op := Op.binOp BinOp.rem 3 (Operand.tmp 60) (Operand.const (Value.int IntKind.i64 9)) 3, type := 3, pos := "laws.go:589", after := #[{ on := 2, ground := Ground.data }], guard := none }) (v := .int .i64 m1) rfl (by kernel_rfl) (by kernel_rfl) (by kernel_rfl) (fun _ _ _ h => h) (by rfl) (fun w hSw => by (try dsimp only at hSw); go_simp) (by assumption) ?_
        try simp only [Act.put, List.setIfInBounds_toArray, List.set_cons_zero, List.set_cons_succ]
        refine take_yes (i := 4) (oi := { dst := some 62, op := Op.binOp BinOp.add 3 (Operand.const (Value.int IntKind.i64 20)) (Operand.tmp 61) 3, type := 3, pos := "laws.go:589", after := #[{ on := 3, ground := Ground.data }], guard := none }) (v := .int .i64 Y) rfl (by kernel_rfl) (by kernel_rfl) (by kernel_rfl) (fun _ _ _ h => h) (by rfl) (fun w hSw => by (try dsimp only at hSw); go_simp) (by assumption) ?_
        try simp only [Act.put, List.setIfInBounds_toArray, List.set_cons_zero, List.set_cons_succ]
        refine take_yes (i := 5) (oi := { dst := some 63, op := Op.move (Operand.tmp 6), type := 24, pos := "laws.go:589", after := #[], guard := none }) (v := .slice (some ⟨pg, 0, none⟩) 12 pc) rfl (by kernel_rfl) (by kernel_rfl) (by kernel_rfl) (fun _ _ _ h => h) (by rfl) (fun w hSw => by (try dsimp only at hSw); go_simp) (by assumption) ?_
        try simp only [Act.put, List.setIfInBounds_toArray, List.set_cons_zero, List.set_cons_succ]
        refine take_yes (i := 6) (oi := { dst := some 64, op := Op.indexAddr 24 (Operand.tmp 63) (Operand.const (Value.int IntKind.i64 0)), type := 0, pos := "laws.go:589", after := #[{ on := 5, ground := Ground.data }], guard := none }) (v := .pointer (some ⟨pg, 0, none⟩)) rfl (by kernel_rfl) (by kernel_rfl) (by kernel_rfl) (fun _ _ _ h => h) (by rfl) (fun w hSw => by (try dsimp only at hSw); go_simp) (by assumption) ?_
        try simp only [Act.put, List.setIfInBounds_toArray, List.set_cons_zero, List.set_cons_succ]
        refine take_yes (i := 7) (oi := { dst := some 65, op := Op.load 3 (Operand.tmp 64), type := 3, pos := "laws.go:589", after := #[{ on := 6, ground := Ground.data }], guard := none }) (v := .int .i64 (x0 : Int)) rfl (by kernel_rfl) (by kernel_rfl) (by kernel_rfl) (fun _ _ _ h => h) (by rfl) (fun w hSw => by (try dsimp only at hSw); obtain ⟨-, -, -, g0, g1, g2, g3⟩ := HD.out _ (HZ8.out _ hSw).1; go_simp) (by assumption) ?_
        try simp only [Act.put, List.setIfInBounds_toArray, List.set_cons_zero, List.set_cons_succ]
        refine take_yes (i := 8) (oi := { dst := some 66, op := Op.binOp BinOp.rem 3 (Operand.tmp 65) (Operand.const (Value.int IntKind.i64 9)) 3, type := 3, pos := "laws.go:589", after := #[{ on := 7, ground := Ground.data }], guard := none }) (v := .int .i64 m0) rfl (by kernel_rfl) (by kernel_rfl) (by kernel_rfl) (fun _ _ _ h => h) (by rfl) (fun w hSw => by (try dsimp only at hSw); go_simp) (by assumption) ?_
        try simp only [Act.put, List.setIfInBounds_toArray, List.set_cons_zero, List.set_cons_succ]
        refine take_yes (i := 9) (oi := { dst := some 67, op := Op.binOp BinOp.add 3 (Operand.const (Value.int IntKind.i64 1)) (Operand.tmp 66) 3, type := 3, pos := "laws.go:589", after := #[{ on := 8, ground := Ground.data }], guard := none }) (v := .int .i64 X) rfl (by kernel_rfl) (by kernel_rfl) (by kernel_rfl) (fun _ _ _ h => h) (by rfl) (fun w hSw => by (try dsimp only at hSw); go_simp) (by assumption) ?_
        try simp only [Act.put, List.setIfInBounds_toArray, List.set_cons_zero, List.set_cons_succ]
        refine take_yes (i := 10) (oi := { dst := some 68, op := Op.move (Operand.tmp 6), type := 24, pos := "laws.go:589", after := #[], guard := none }) (v := .slice (some ⟨pg, 0, none⟩) 12 pc) rfl (by kernel_rfl) (by kernel_rfl) (by kernel_rfl) (fun _ _ _ h => h) (by rfl) (fun w hSw => by (try dsimp only at hSw); go_simp) (by assumption) ?_
        try simp only [Act.put, List.setIfInBounds_toArray, List.set_cons_zero, List.set_cons_succ]
        refine take_yes (i := 11) (oi := { dst := some 69, op := Op.indexAddr 24 (Operand.tmp 68) (Operand.const (Value.int IntKind.i64 2)), type := 0, pos := "laws.go:589", after := #[{ on := 10, ground := Ground.data }], guard := none }) (v := .pointer (some ⟨pg, 2, none⟩)) rfl (by kernel_rfl) (by kernel_rfl) (by kernel_rfl) (fun _ _ _ h => h) (by rfl) (fun w hSw => by (try dsimp only at hSw); go_simp) (by assumption) ?_
        try simp only [Act.put, List.setIfInBounds_toArray, List.set_cons_zero, List.set_cons_succ]
        refine take_yes (i := 12) (oi := { dst := some 70, op := Op.load 3 (Operand.tmp 69), type := 3, pos := "laws.go:589", after := #[{ on := 11, ground := Ground.data }], guard := none }) (v := .int .i64 (x2 : Int)) rfl (by kernel_rfl) (by kernel_rfl) (by kernel_rfl) (fun _ _ _ h => h) (by rfl) (fun w hSw => by (try dsimp only at hSw); obtain ⟨-, -, -, g0, g1, g2, g3⟩ := HD.out _ (HZ8.out _ hSw).1; go_simp) (by assumption) ?_
        try simp only [Act.put, List.setIfInBounds_toArray, List.set_cons_zero, List.set_cons_succ]
        refine take_yes (i := 13) (oi := { dst := some 71, op := Op.move (Operand.tmp 6), type := 24, pos := "laws.go:589", after := #[], guard := none }) (v := .slice (some ⟨pg, 0, none⟩) 12 pc) rfl (by kernel_rfl) (by kernel_rfl) (by kernel_rfl) (fun _ _ _ h => h) (by rfl) (fun w hSw => by (try dsimp only at hSw); go_simp) (by assumption) ?_
        try simp only [Act.put, List.setIfInBounds_toArray, List.set_cons_zero, List.set_cons_succ]
        refine take_yes (i := 14) (oi := { dst := some 72, op := Op.indexAddr 24 (Operand.tmp 71) (Operand.const (Value.int IntKind.i64 3)), type := 0, pos := "laws.go:589", after := #[{ on := 13, ground := Ground.data }], guard := none }) (v := .pointer (some ⟨pg, 3, none⟩)) rfl (by kernel_rfl) (by kernel_rfl) (by kernel_rfl) (fun _ _ _ h => h) (by rfl) (fun w hSw => by (try dsimp only at hSw); go_simp) (by assumption) ?_
        try simp only [Act.put, List.setIfInBounds_toArray, List.set_cons_zero, List.set_cons_succ]
        refine take_yes (i := 15) (oi := { dst := some 73, op := Op.load 3 (Operand.tmp 72), type := 3, pos := "laws.go:589", after := #[{ on := 14, ground := Ground.data }], guard := none }) (v := .int .i64 (x3 : Int)) rfl (by kernel_rfl) (by kernel_rfl) (by kernel_rfl) (fun _ _ _ h => h) (by rfl) (fun w hSw => by (try dsimp only at hSw); obtain ⟨-, -, -, g0, g1, g2, g3⟩ := HD.out _ (HZ8.out _ hSw).1; go_simp) (by assumption) ?_
        try simp only [Act.put, List.setIfInBounds_toArray, List.set_cons_zero, List.set_cons_succ]
        refine wpAnyH_ready (rs := [16, 17]) (by kernel_rfl) (by simp) ?_
        refine AllReadyH.cons (o := { dst := some 74, op := Op.call { callee := Callee.value (Operand.func 13), args := #[Operand.tmp 62, Operand.tmp 67, Operand.tmp 70, Operand.tmp 73], argTypes := #[3, 3, 3, 3] }, type := 29, pos := "laws.go:589", after := #[{ on := 4, ground := Ground.data }, { on := 9, ground := Ground.data }, { on := 12, ground := Ground.data }, { on := 15, ground := Ground.data }], guard := none }) rfl (fun K hK => ?_) ?_
        · go_simp
          with_reducible refine (impl_tagBack Y X (x2 : Int) (x3 : Int) _).mono ?_
          rintro e wA23 ⟨rfl, bA⟩
          have KA24 := Below.then_ hHeld bA
          clear bA
          refine hK.out _ _ KA24 (fun hHeldN => ?_)
          clear hK K hHeld
          have hHeld := hHeldN
          clear hHeldN
          try simp only [Act.put, List.setIfInBounds_toArray, List.set_cons_zero, List.set_cons_succ]
          refine wpAnyH_ready (rs := [17]) (by kernel_rfl) (by simp) ?_
          refine AllReadyH.cons (o := { dst := some 9, op := Op.alloc 29, type := 0, pos := "laws.go:589", after := #[], guard := none }) rfl (fun K hK => ?_) AllReadyH.nil
          go_simp
          have KB27 := Below.then_ hHeld (below_new wA23 (.cells #[.int .i64 0, .int .i64 0, .int .i64 0, .int .i64 0, .int .i64 0] 29))
          have HB25 := Lib.hid (And.intro (Cel.new wA23 29 #[.int .i64 0, .int .i64 0, .int .i64 0, .int .i64 0, .int .i64 0]) hHeld.size)
          generalize wA23.heap.size = gb28 at *
          generalize wA23.alloc (.cells #[.int .i64 0, .int .i64 0, .int .i64 0, .int .i64 0, .int .i64 0] 29) = wB26 at *
          refine hK.out _ _ KB27 (fun hHeldN => ?_)
          clear hK K hHeld
          have hHeld := hHeldN
          clear hHeldN
          try simp only [Act.put, List.setIfInBounds_toArray, List.set_cons_zero, List.set_cons_succ]
          refine wpAnyH_ready (rs := [18]) (by kernel_rfl) (by simp) ?_
          refine AllReadyH.cons (o := { dst := none, op := Op.store 29 (Operand.tmp 9) (Operand.tmp 74), type := 0, pos := "laws.go:589", after := #[{ on := 17, ground := Ground.data }, { on := 16, ground := Ground.data }, { on := 16, ground := Ground.chain }, { on := 0, ground := Ground.phase }, { on := 1, ground := Ground.phase }, { on := 2, ground := Ground.phase }, { on := 3, ground := Ground.phase }, { on := 4, ground := Ground.phase }, { on := 5, ground := Ground.phase }, { on := 6, ground := Ground.phase }, { on := 7, ground := Ground.phase }, { on := 8, ground := Ground.phase }, { on := 9, ground := Ground.phase }, { on := 10, ground := Ground.phase }, { on := 11, ground := Ground.phase }, { on := 12, ground := Ground.phase }, { on := 13, ground := Ground.phase }, { on := 14, ground := Ground.phase }, { on := 15, ground := Ground.phase }, { on := 16, ground := Ground.phase }, { on := 17, ground := Ground.phase }], guard := none }) rfl (fun K hK => ?_) AllReadyH.nil
          obtain ⟨y0, y1, y2, y3, y4⟩ := cel5tv HB25.out.1
          have f0 := HB25.out.1.frozen 0
          have f1 := HB25.out.1.frozen 1
          have f2 := HB25.out.1.frozen 2
          have f3 := HB25.out.1.frozen 3
          have f4 := HB25.out.1.frozen 4
          go_simp
          clear y0 y1 y2 y3 y4 f0 f1 f2 f3 f4
          have KF30 : Below y7.heap.size y7 (((((wB26.setCell ⟨gb28, 0, none⟩ (.int .i64 1)).setCell ⟨gb28, 1, none⟩ (.int .i64 Y)).setCell ⟨gb28, 2, none⟩ (.int .i64 X)).setCell ⟨gb28, 3, none⟩ (.int .i64 (x2 : Int))).setCell ⟨gb28, 4, none⟩ (.int .i64 (x3 : Int))) := hHeld.trans (esetC_below gb28 y7.heap.size HB25.out.2 0 [.int .i64 1, .int .i64 Y, .int .i64 X, .int .i64 (x2 : Int), .int .i64 (x3 : Int)] wB26)
          have HF29 := Lib.hid ((((((HB25.out.1.set 0 (.int .i64 1)).set 1 (.int .i64 Y)).set 2 (.int .i64 X)).set 3 (.int .i64 (x2 : Int))).set 4 (.int .i64 (x3 : Int))))
          clear HB25
          generalize (((((wB26.setCell ⟨gb28, 0, none⟩ (.int .i64 1)).setCell ⟨gb28, 1, none⟩ (.int .i64 Y)).setCell ⟨gb28, 2, none⟩ (.int .i64 X)).setCell ⟨gb28, 3, none⟩ (.int .i64 (x2 : Int))).setCell ⟨gb28, 4, none⟩ (.int .i64 (x3 : Int))) = w9 at *
          refine hK.out _ _ KF30 (fun hHeldN => ?_)
          clear hK K hHeld
          have hHeld := hHeldN
          clear hHeldN
          try simp only [Act.put, List.setIfInBounds_toArray, List.set_cons_zero, List.set_cons_succ]
          refine wpAnyH_done (by kernel_rfl) ?_ _
          have hHeld2 := hHeld
          clear hHeld
          exact REST8 _ _ ⟨(HZ8.out _ hHeld2).1, (HZ8.out _ hHeld2).2.1, (HZ8.out _ hHeld2).2.2, HF29.out⟩
        refine AllReadyH.cons (o := { dst := some 9, op := Op.alloc 29, type := 0, pos := "laws.go:589", after := #[], guard := none }) rfl (fun K hK => ?_) AllReadyH.nil
        go_simp
        have KB33 := Below.then_ hHeld (below_new wd8 (.cells #[.int .i64 0, .int .i64 0, .int .i64 0, .int .i64 0, .int .i64 0] 29))
        have HB31 := Lib.hid (And.intro (Cel.new wd8 29 #[.int .i64 0, .int .i64 0, .int .i64 0, .int .i64 0, .int .i64 0]) hHeld.size)
        generalize wd8.heap.size = gb34 at *
        generalize wd8.alloc (.cells #[.int .i64 0, .int .i64 0, .int .i64 0, .int .i64 0, .int .i64 0] 29) = wB32 at *
        refine hK.out _ _ KB33 (fun hHeldN => ?_)
        clear hK K hHeld
        have hHeld := hHeldN
        clear hHeldN
        try simp only [Act.put, List.setIfInBounds_toArray, List.set_cons_zero, List.set_cons_succ]
        refine wpAnyH_ready (rs := [16]) (by kernel_rfl) (by simp) ?_
        refine AllReadyH.cons (o := { dst := some 74, op := Op.call { callee := Callee.value (Operand.func 13), args := #[Operand.tmp 62, Operand.tmp 67, Operand.tmp 70, Operand.tmp 73], argTypes := #[3, 3, 3, 3] }, type := 29, pos := "laws.go:589", after := #[{ on := 4, ground := Ground.data }, { on := 9, ground := Ground.data }, { on := 12, ground := Ground.data }, { on := 15, ground := Ground.data }], guard := none }) rfl (fun K hK => ?_) AllReadyH.nil
        go_simp
        with_reducible refine (impl_tagBack Y X (x2 : Int) (x3 : Int) _).mono ?_
        rintro e wA35 ⟨rfl, bA⟩
        have KA36 := Below.then_ hHeld bA
        have HB37 := Lib.hid (And.intro (HB31.out.1.kept bA) HB31.out.2)
        clear HB31
        clear bA
        refine hK.out _ _ KA36 (fun hHeldN => ?_)
        clear hK K hHeld
        have hHeld := hHeldN
        clear hHeldN
        try simp only [Act.put, List.setIfInBounds_toArray, List.set_cons_zero, List.set_cons_succ]
        refine wpAnyH_ready (rs := [18]) (by kernel_rfl) (by simp) ?_
        refine AllReadyH.cons (o := { dst := none, op := Op.store 29 (Operand.tmp 9) (Operand.tmp 74), type := 0, pos := "laws.go:589", after := #[{ on := 17, ground := Ground.data }, { on := 16, ground := Ground.data }, { on := 16, ground := Ground.chain }, { on := 0, ground := Ground.phase }, { on := 1, ground := Ground.phase }, { on := 2, ground := Ground.phase }, { on := 3, ground := Ground.phase }, { on := 4, ground := Ground.phase }, { on := 5, ground := Ground.phase }, { on := 6, ground := Ground.phase }, { on := 7, ground := Ground.phase }, { on := 8, ground := Ground.phase }, { on := 9, ground := Ground.phase }, { on := 10, ground := Ground.phase }, { on := 11, ground := Ground.phase }, { on := 12, ground := Ground.phase }, { on := 13, ground := Ground.phase }, { on := 14, ground := Ground.phase }, { on := 15, ground := Ground.phase }, { on := 16, ground := Ground.phase }, { on := 17, ground := Ground.phase }], guard := none }) rfl (fun K hK => ?_) AllReadyH.nil
        obtain ⟨y0, y1, y2, y3, y4⟩ := cel5tv HB37.out.1
        have f0 := HB37.out.1.frozen 0
        have f1 := HB37.out.1.frozen 1
        have f2 := HB37.out.1.frozen 2
        have f3 := HB37.out.1.frozen 3
        have f4 := HB37.out.1.frozen 4
        go_simp
        clear y0 y1 y2 y3 y4 f0 f1 f2 f3 f4
        have KF39 : Below y7.heap.size y7 (((((wA35.setCell ⟨gb34, 0, none⟩ (.int .i64 1)).setCell ⟨gb34, 1, none⟩ (.int .i64 Y)).setCell ⟨gb34, 2, none⟩ (.int .i64 X)).setCell ⟨gb34, 3, none⟩ (.int .i64 (x2 : Int))).setCell ⟨gb34, 4, none⟩ (.int .i64 (x3 : Int))) := hHeld.trans (esetC_below gb34 y7.heap.size HB37.out.2 0 [.int .i64 1, .int .i64 Y, .int .i64 X, .int .i64 (x2 : Int), .int .i64 (x3 : Int)] wA35)
        have HF38 := Lib.hid ((((((HB37.out.1.set 0 (.int .i64 1)).set 1 (.int .i64 Y)).set 2 (.int .i64 X)).set 3 (.int .i64 (x2 : Int))).set 4 (.int .i64 (x3 : Int))))
        clear HB37
        generalize (((((wA35.setCell ⟨gb34, 0, none⟩ (.int .i64 1)).setCell ⟨gb34, 1, none⟩ (.int .i64 Y)).setCell ⟨gb34, 2, none⟩ (.int .i64 X)).setCell ⟨gb34, 3, none⟩ (.int .i64 (x2 : Int))).setCell ⟨gb34, 4, none⟩ (.int .i64 (x3 : Int))) = w9 at *
        refine hK.out _ _ KF39 (fun hHeldN => ?_)
        clear hK K hHeld
        have hHeld := hHeldN
        clear hHeldN
        try simp only [Act.put, List.setIfInBounds_toArray, List.set_cons_zero, List.set_cons_succ]
        refine wpAnyH_done (by kernel_rfl) ?_ _
        have hHeld2 := hHeld
        clear hHeld
        exact REST8 _ _ ⟨(HZ8.out _ hHeld2).1, (HZ8.out _ hHeld2).2.1, (HZ8.out _ hHeld2).2.2, HF38.out⟩
      refine wp_region_held_drew (S := fun W => Below y6.heap.size y6 W) (by kernel_rfl) (show Below y6.heap.size y6 y6.drew from (Below.refl _ _).drew) (fun hHeld => ?_)
      generalize y6.drew = wd7 at *
      refine take_yes (i := 0) (oi := { dst := some 41, op := Op.move (Operand.tmp 6), type := 24, pos := "laws.go:588", after := #[], guard := none }) (v := .slice (some ⟨pg, 0, none⟩) 12 pc) rfl (by kernel_rfl) (by kernel_rfl) (by kernel_rfl) (fun _ _ _ h => h) (by rfl) (fun w hSw => by (try dsimp only at hSw); go_simp) (by assumption) ?_
      try simp only [Act.put, List.setIfInBounds_toArray, List.set_cons_zero, List.set_cons_succ]
      refine take_yes (i := 1) (oi := { dst := some 42, op := Op.indexAddr 24 (Operand.tmp 41) (Operand.const (Value.int IntKind.i64 0)), type := 0, pos := "laws.go:588", after := #[{ on := 0, ground := Ground.data }], guard := none }) (v := .pointer (some ⟨pg, 0, none⟩)) rfl (by kernel_rfl) (by kernel_rfl) (by kernel_rfl) (fun _ _ _ h => h) (by rfl) (fun w hSw => by (try dsimp only at hSw); go_simp) (by assumption) ?_
      try simp only [Act.put, List.setIfInBounds_toArray, List.set_cons_zero, List.set_cons_succ]
      refine take_yes (i := 2) (oi := { dst := some 43, op := Op.load 3 (Operand.tmp 42), type := 3, pos := "laws.go:588", after := #[{ on := 1, ground := Ground.data }], guard := none }) (v := .int .i64 (x0 : Int)) rfl (by kernel_rfl) (by kernel_rfl) (by kernel_rfl) (fun _ _ _ h => h) (by rfl) (fun w hSw => by (try dsimp only at hSw); obtain ⟨-, -, -, g0, g1, g2, g3⟩ := HD.out _ (HZ7.out _ hSw).1; go_simp) (by assumption) ?_
      try simp only [Act.put, List.setIfInBounds_toArray, List.set_cons_zero, List.set_cons_succ]
      refine take_yes (i := 3) (oi := { dst := some 44, op := Op.binOp BinOp.rem 3 (Operand.tmp 43) (Operand.const (Value.int IntKind.i64 9)) 3, type := 3, pos := "laws.go:588", after := #[{ on := 2, ground := Ground.data }], guard := none }) (v := .int .i64 m0) rfl (by kernel_rfl) (by kernel_rfl) (by kernel_rfl) (fun _ _ _ h => h) (by rfl) (fun w hSw => by (try dsimp only at hSw); go_simp) (by assumption) ?_
      try simp only [Act.put, List.setIfInBounds_toArray, List.set_cons_zero, List.set_cons_succ]
      refine take_yes (i := 4) (oi := { dst := some 45, op := Op.binOp BinOp.add 3 (Operand.const (Value.int IntKind.i64 1)) (Operand.tmp 44) 3, type := 3, pos := "laws.go:588", after := #[{ on := 3, ground := Ground.data }], guard := none }) (v := .int .i64 X) rfl (by kernel_rfl) (by kernel_rfl) (by kernel_rfl) (fun _ _ _ h => h) (by rfl) (fun w hSw => by (try dsimp only at hSw); go_simp) (by assumption) ?_
      try simp only [Act.put, List.setIfInBounds_toArray, List.set_cons_zero, List.set_cons_succ]
      refine take_yes (i := 5) (oi := { dst := some 46, op := Op.move (Operand.tmp 6), type := 24, pos := "laws.go:588", after := #[], guard := none }) (v := .slice (some ⟨pg, 0, none⟩) 12 pc) rfl (by kernel_rfl) (by kernel_rfl) (by kernel_rfl) (fun _ _ _ h => h) (by rfl) (fun w hSw => by (try dsimp only at hSw); go_simp) (by assumption) ?_
      try simp only [Act.put, List.setIfInBounds_toArray, List.set_cons_zero, List.set_cons_succ]
      refine take_yes (i := 6) (oi := { dst := some 47, op := Op.indexAddr 24 (Operand.tmp 46) (Operand.const (Value.int IntKind.i64 1)), type := 0, pos := "laws.go:588", after := #[{ on := 5, ground := Ground.data }], guard := none }) (v := .pointer (some ⟨pg, 1, none⟩)) rfl (by kernel_rfl) (by kernel_rfl) (by kernel_rfl) (fun _ _ _ h => h) (by rfl) (fun w hSw => by (try dsimp only at hSw); go_simp) (by assumption) ?_
      try simp only [Act.put, List.setIfInBounds_toArray, List.set_cons_zero, List.set_cons_succ]
      refine take_yes (i := 7) (oi := { dst := some 48, op := Op.load 3 (Operand.tmp 47), type := 3, pos := "laws.go:588", after := #[{ on := 6, ground := Ground.data }], guard := none }) (v := .int .i64 (x1 : Int)) rfl (by kernel_rfl) (by kernel_rfl) (by kernel_rfl) (fun _ _ _ h => h) (by rfl) (fun w hSw => by (try dsimp only at hSw); obtain ⟨-, -, -, g0, g1, g2, g3⟩ := HD.out _ (HZ7.out _ hSw).1; go_simp) (by assumption) ?_
      try simp only [Act.put, List.setIfInBounds_toArray, List.set_cons_zero, List.set_cons_succ]
      refine take_yes (i := 8) (oi := { dst := some 49, op := Op.binOp BinOp.rem 3 (Operand.tmp 48) (Operand.const (Value.int IntKind.i64 9)) 3, type := 3, pos := "laws.go:588", after := #[{ on := 7, ground := Ground.data }], guard := none }) (v := .int .i64 m1) rfl (by kernel_rfl) (by kernel_rfl) (by kernel_rfl) (fun _ _ _ h => h) (by rfl) (fun w hSw => by (try dsimp only at hSw); go_simp) (by assumption) ?_
      try simp only [Act.put, List.setIfInBounds_toArray, List.set_cons_zero, List.set_cons_succ]
      refine take_yes (i := 9) (oi := { dst := some 50, op := Op.binOp BinOp.add 3 (Operand.const (Value.int IntKind.i64 20)) (Operand.tmp 49) 3, type := 3, pos := "laws.go:588", after := #[{ on := 8, ground := Ground.data }], guard := none }) (v := .int .i64 Y) rfl (by kernel_rfl) (by kernel_rfl) (by kernel_rfl) (fun _ _ _ h => h) (by rfl) (fun w hSw => by (try dsimp only at hSw); go_simp) (by assumption) ?_
      try simp only [Act.put, List.setIfInBounds_toArray, List.set_cons_zero, List.set_cons_succ]
      refine take_yes (i := 10) (oi := { dst := some 51, op := Op.move (Operand.tmp 6), type := 24, pos := "laws.go:588", after := #[], guard := none }) (v := .slice (some ⟨pg, 0, none⟩) 12 pc) rfl (by kernel_rfl) (by kernel_rfl) (by kernel_rfl) (fun _ _ _ h => h) (by rfl) (fun w hSw => by (try dsimp only at hSw); go_simp) (by assumption) ?_
      try simp only [Act.put, List.setIfInBounds_toArray, List.set_cons_zero, List.set_cons_succ]
      refine take_yes (i := 11) (oi := { dst := some 52, op := Op.indexAddr 24 (Operand.tmp 51) (Operand.const (Value.int IntKind.i64 2)), type := 0, pos := "laws.go:588", after := #[{ on := 10, ground := Ground.data }], guard := none }) (v := .pointer (some ⟨pg, 2, none⟩)) rfl (by kernel_rfl) (by kernel_rfl) (by kernel_rfl) (fun _ _ _ h => h) (by rfl) (fun w hSw => by (try dsimp only at hSw); go_simp) (by assumption) ?_
      try simp only [Act.put, List.setIfInBounds_toArray, List.set_cons_zero, List.set_cons_succ]
      refine take_yes (i := 12) (oi := { dst := some 53, op := Op.load 3 (Operand.tmp 52), type := 3, pos := "laws.go:588", after := #[{ on := 11, ground := Ground.data }], guard := none }) (v := .int .i64 (x2 : Int)) rfl (by kernel_rfl) (by kernel_rfl) (by kernel_rfl) (fun _ _ _ h => h) (by rfl) (fun w hSw => by (try dsimp only at hSw); obtain ⟨-, -, -, g0, g1, g2, g3⟩ := HD.out _ (HZ7.out _ hSw).1; go_simp) (by assumption) ?_
      try simp only [Act.put, List.setIfInBounds_toArray, List.set_cons_zero, List.set_cons_succ]
      refine take_yes (i := 13) (oi := { dst := some 54, op := Op.move (Operand.tmp 6), type := 24, pos := "laws.go:588", after := #[], guard := none }) (v := .slice (some ⟨pg, 0, none⟩) 12 pc) rfl (by kernel_rfl) (by kernel_rfl) (by kernel_rfl) (fun _ _ _ h => h) (by rfl) (fun w hSw => by (try dsimp only at hSw); go_simp) (by assumption) ?_
      try simp only [Act.put, List.setIfInBounds_toArray, List.set_cons_zero, List.set_cons_succ]
      refine take_yes (i := 14) (oi := { dst := some 55, op := Op.indexAddr 24 (Operand.tmp 54) (Operand.const (Value.int IntKind.i64 3)), type := 0, pos := "laws.go:588", after := #[{ on := 13, ground := Ground.data }], guard := none }) (v := .pointer (some ⟨pg, 3, none⟩)) rfl (by kernel_rfl) (by kernel_rfl) (by kernel_rfl) (fun _ _ _ h => h) (by rfl) (fun w hSw => by (try dsimp only at hSw); go_simp) (by assumption) ?_
      try simp only [Act.put, List.setIfInBounds_toArray, List.set_cons_zero, List.set_cons_succ]
      refine take_yes (i := 15) (oi := { dst := some 56, op := Op.load 3 (Operand.tmp 55), type := 3, pos := "laws.go:588", after := #[{ on := 14, ground := Ground.data }], guard := none }) (v := .int .i64 (x3 : Int)) rfl (by kernel_rfl) (by kernel_rfl) (by kernel_rfl) (fun _ _ _ h => h) (by rfl) (fun w hSw => by (try dsimp only at hSw); obtain ⟨-, -, -, g0, g1, g2, g3⟩ := HD.out _ (HZ7.out _ hSw).1; go_simp) (by assumption) ?_
      try simp only [Act.put, List.setIfInBounds_toArray, List.set_cons_zero, List.set_cons_succ]
      refine wpAnyH_ready (rs := [16, 17]) (by kernel_rfl) (by simp) ?_
      refine AllReadyH.cons (o := { dst := some 57, op := Op.call { callee := Callee.value (Operand.func 14), args := #[Operand.tmp 45, Operand.tmp 50, Operand.tmp 53, Operand.tmp 56], argTypes := #[3, 3, 3, 3] }, type := 29, pos := "laws.go:588", after := #[{ on := 4, ground := Ground.data }, { on := 9, ground := Ground.data }, { on := 12, ground := Ground.data }, { on := 15, ground := Ground.data }], guard := none }) rfl (fun K hK => ?_) ?_
      · go_simp
        with_reducible refine (impl_tagDone X Y (x2 : Int) (x3 : Int) _).mono ?_
        rintro e wA40 ⟨rfl, bA⟩
        have KA41 := Below.then_ hHeld bA
        clear bA
        refine hK.out _ _ KA41 (fun hHeldN => ?_)
        clear hK K hHeld
        have hHeld := hHeldN
        clear hHeldN
        try simp only [Act.put, List.setIfInBounds_toArray, List.set_cons_zero, List.set_cons_succ]
        refine wpAnyH_ready (rs := [17]) (by kernel_rfl) (by simp) ?_
        refine AllReadyH.cons (o := { dst := some 8, op := Op.alloc 29, type := 0, pos := "laws.go:588", after := #[], guard := none }) rfl (fun K hK => ?_) AllReadyH.nil
        go_simp
        have KB44 := Below.then_ hHeld (below_new wA40 (.cells #[.int .i64 0, .int .i64 0, .int .i64 0, .int .i64 0, .int .i64 0] 29))
        have HB42 := Lib.hid (And.intro (Cel.new wA40 29 #[.int .i64 0, .int .i64 0, .int .i64 0, .int .i64 0, .int .i64 0]) hHeld.size)
        generalize wA40.heap.size = gb45 at *
        generalize wA40.alloc (.cells #[.int .i64 0, .int .i64 0, .int .i64 0, .int .i64 0, .int .i64 0] 29) = wB43 at *
        refine hK.out _ _ KB44 (fun hHeldN => ?_)
        clear hK K hHeld
        have hHeld := hHeldN
        clear hHeldN
        try simp only [Act.put, List.setIfInBounds_toArray, List.set_cons_zero, List.set_cons_succ]
        refine wpAnyH_ready (rs := [18]) (by kernel_rfl) (by simp) ?_
        refine AllReadyH.cons (o := { dst := none, op := Op.store 29 (Operand.tmp 8) (Operand.tmp 57), type := 0, pos := "laws.go:588", after := #[{ on := 17, ground := Ground.data }, { on := 16, ground := Ground.data }, { on := 16, ground := Ground.chain }, { on := 0, ground := Ground.phase }, { on := 1, ground := Ground.phase }, { on := 2, ground := Ground.phase }, { on := 3, ground := Ground.phase }, { on := 4, ground := Ground.phase }, { on := 5, ground := Ground.phase }, { on := 6, ground := Ground.phase }, { on := 7, ground := Ground.phase }, { on := 8, ground := Ground.phase }, { on := 9, ground := Ground.phase }, { on := 10, ground := Ground.phase }, { on := 11, ground := Ground.phase }, { on := 12, ground := Ground.phase }, { on := 13, ground := Ground.phase }, { on := 14, ground := Ground.phase }, { on := 15, ground := Ground.phase }, { on := 16, ground := Ground.phase }, { on := 17, ground := Ground.phase }], guard := none }) rfl (fun K hK => ?_) AllReadyH.nil
        obtain ⟨y0, y1, y2, y3, y4⟩ := cel5tv HB42.out.1
        have f0 := HB42.out.1.frozen 0
        have f1 := HB42.out.1.frozen 1
        have f2 := HB42.out.1.frozen 2
        have f3 := HB42.out.1.frozen 3
        have f4 := HB42.out.1.frozen 4
        go_simp
        clear y0 y1 y2 y3 y4 f0 f1 f2 f3 f4
        have KF47 : Below y6.heap.size y6 (((((wB43.setCell ⟨gb45, 0, none⟩ (.int .i64 2)).setCell ⟨gb45, 1, none⟩ (.int .i64 X)).setCell ⟨gb45, 2, none⟩ (.int .i64 Y)).setCell ⟨gb45, 3, none⟩ (.int .i64 (x2 : Int))).setCell ⟨gb45, 4, none⟩ (.int .i64 (x3 : Int))) := hHeld.trans (esetC_below gb45 y6.heap.size HB42.out.2 0 [.int .i64 2, .int .i64 X, .int .i64 Y, .int .i64 (x2 : Int), .int .i64 (x3 : Int)] wB43)
        have HF46 := Lib.hid ((((((HB42.out.1.set 0 (.int .i64 2)).set 1 (.int .i64 X)).set 2 (.int .i64 Y)).set 3 (.int .i64 (x2 : Int))).set 4 (.int .i64 (x3 : Int))))
        clear HB42
        generalize (((((wB43.setCell ⟨gb45, 0, none⟩ (.int .i64 2)).setCell ⟨gb45, 1, none⟩ (.int .i64 X)).setCell ⟨gb45, 2, none⟩ (.int .i64 Y)).setCell ⟨gb45, 3, none⟩ (.int .i64 (x2 : Int))).setCell ⟨gb45, 4, none⟩ (.int .i64 (x3 : Int))) = w9 at *
        refine hK.out _ _ KF47 (fun hHeldN => ?_)
        clear hK K hHeld
        have hHeld := hHeldN
        clear hHeldN
        try simp only [Act.put, List.setIfInBounds_toArray, List.set_cons_zero, List.set_cons_succ]
        refine wpAnyH_done (by kernel_rfl) ?_ _
        have hHeld2 := hHeld
        clear hHeld
        exact REST7 _ _ ⟨(HZ7.out _ hHeld2).1, (HZ7.out _ hHeld2).2, HF46.out⟩
      refine AllReadyH.cons (o := { dst := some 8, op := Op.alloc 29, type := 0, pos := "laws.go:588", after := #[], guard := none }) rfl (fun K hK => ?_) AllReadyH.nil
      go_simp
      have KB50 := Below.then_ hHeld (below_new wd7 (.cells #[.int .i64 0, .int .i64 0, .int .i64 0, .int .i64 0, .int .i64 0] 29))
      have HB48 := Lib.hid (And.intro (Cel.new wd7 29 #[.int .i64 0, .int .i64 0, .int .i64 0, .int .i64 0, .int .i64 0]) hHeld.size)
      generalize wd7.heap.size = gb51 at *
      generalize wd7.alloc (.cells #[.int .i64 0, .int .i64 0, .int .i64 0, .int .i64 0, .int .i64 0] 29) = wB49 at *
      refine hK.out _ _ KB50 (fun hHeldN => ?_)
      clear hK K hHeld
      have hHeld := hHeldN
      clear hHeldN
      try simp only [Act.put, List.setIfInBounds_toArray, List.set_cons_zero, List.set_cons_succ]
      refine wpAnyH_ready (rs := [16]) (by kernel_rfl) (by simp) ?_
      refine AllReadyH.cons (o := { dst := some 57, op := Op.call { callee := Callee.value (Operand.func 14), args := #[Operand.tmp 45, Operand.tmp 50, Operand.tmp 53, Operand.tmp 56], argTypes := #[3, 3, 3, 3] }, type := 29, pos := "laws.go:588", after := #[{ on := 4, ground := Ground.data }, { on := 9, ground := Ground.data }, { on := 12, ground := Ground.data }, { on := 15, ground := Ground.data }], guard := none }) rfl (fun K hK => ?_) AllReadyH.nil
      go_simp
      with_reducible refine (impl_tagDone X Y (x2 : Int) (x3 : Int) _).mono ?_
      rintro e wA52 ⟨rfl, bA⟩
      have KA53 := Below.then_ hHeld bA
      have HB54 := Lib.hid (And.intro (HB48.out.1.kept bA) HB48.out.2)
      clear HB48
      clear bA
      refine hK.out _ _ KA53 (fun hHeldN => ?_)
      clear hK K hHeld
      have hHeld := hHeldN
      clear hHeldN
      try simp only [Act.put, List.setIfInBounds_toArray, List.set_cons_zero, List.set_cons_succ]
      refine wpAnyH_ready (rs := [18]) (by kernel_rfl) (by simp) ?_
      refine AllReadyH.cons (o := { dst := none, op := Op.store 29 (Operand.tmp 8) (Operand.tmp 57), type := 0, pos := "laws.go:588", after := #[{ on := 17, ground := Ground.data }, { on := 16, ground := Ground.data }, { on := 16, ground := Ground.chain }, { on := 0, ground := Ground.phase }, { on := 1, ground := Ground.phase }, { on := 2, ground := Ground.phase }, { on := 3, ground := Ground.phase }, { on := 4, ground := Ground.phase }, { on := 5, ground := Ground.phase }, { on := 6, ground := Ground.phase }, { on := 7, ground := Ground.phase }, { on := 8, ground := Ground.phase }, { on := 9, ground := Ground.phase }, { on := 10, ground := Ground.phase }, { on := 11, ground := Ground.phase }, { on := 12, ground := Ground.phase }, { on := 13, ground := Ground.phase }, { on := 14, ground := Ground.phase }, { on := 15, ground := Ground.phase }, { on := 16, ground := Ground.phase }, { on := 17, ground := Ground.phase }], guard := none }) rfl (fun K hK => ?_) AllReadyH.nil
      obtain ⟨y0, y1, y2, y3, y4⟩ := cel5tv HB54.out.1
      have f0 := HB54.out.1.frozen 0
      have f1 := HB54.out.1.frozen 1
      have f2 := HB54.out.1.frozen 2
      have f3 := HB54.out.1.frozen 3
      have f4 := HB54.out.1.frozen 4
      go_simp
      clear y0 y1 y2 y3 y4 f0 f1 f2 f3 f4
      have KF56 : Below y6.heap.size y6 (((((wA52.setCell ⟨gb51, 0, none⟩ (.int .i64 2)).setCell ⟨gb51, 1, none⟩ (.int .i64 X)).setCell ⟨gb51, 2, none⟩ (.int .i64 Y)).setCell ⟨gb51, 3, none⟩ (.int .i64 (x2 : Int))).setCell ⟨gb51, 4, none⟩ (.int .i64 (x3 : Int))) := hHeld.trans (esetC_below gb51 y6.heap.size HB54.out.2 0 [.int .i64 2, .int .i64 X, .int .i64 Y, .int .i64 (x2 : Int), .int .i64 (x3 : Int)] wA52)
      have HF55 := Lib.hid ((((((HB54.out.1.set 0 (.int .i64 2)).set 1 (.int .i64 X)).set 2 (.int .i64 Y)).set 3 (.int .i64 (x2 : Int))).set 4 (.int .i64 (x3 : Int))))
      clear HB54
      generalize (((((wA52.setCell ⟨gb51, 0, none⟩ (.int .i64 2)).setCell ⟨gb51, 1, none⟩ (.int .i64 X)).setCell ⟨gb51, 2, none⟩ (.int .i64 Y)).setCell ⟨gb51, 3, none⟩ (.int .i64 (x2 : Int))).setCell ⟨gb51, 4, none⟩ (.int .i64 (x3 : Int))) = w9 at *
      refine hK.out _ _ KF56 (fun hHeldN => ?_)
      clear hK K hHeld
      have hHeld := hHeldN
      clear hHeldN
      try simp only [Act.put, List.setIfInBounds_toArray, List.set_cons_zero, List.set_cons_succ]
      refine wpAnyH_done (by kernel_rfl) ?_ _
      have hHeld2 := hHeld
      clear hHeld
      exact REST7 _ _ ⟨(HZ7.out _ hHeld2).1, (HZ7.out _ hHeld2).2, HF55.out⟩
    refine wp_region_held_drew (S := fun W => Below w5.heap.size w5 W) (by kernel_rfl) hS (fun hHeld => ?_)
    clear hS
    generalize w5.drew = wd6 at *
    refine take_yes (i := 0) (oi := { dst := some 24, op := Op.move (Operand.tmp 6), type := 24, pos := "laws.go:587", after := #[], guard := none }) (v := .slice (some ⟨pg, 0, none⟩) 12 pc) rfl (by kernel_rfl) (by kernel_rfl) (by kernel_rfl) (fun _ _ _ h => h) (by rfl) (fun w hSw => by (try dsimp only at hSw); go_simp) (by assumption) ?_
    try simp only [Act.put, List.setIfInBounds_toArray, List.set_cons_zero, List.set_cons_succ]
    refine take_yes (i := 1) (oi := { dst := some 25, op := Op.indexAddr 24 (Operand.tmp 24) (Operand.const (Value.int IntKind.i64 0)), type := 0, pos := "laws.go:587", after := #[{ on := 0, ground := Ground.data }], guard := none }) (v := .pointer (some ⟨pg, 0, none⟩)) rfl (by kernel_rfl) (by kernel_rfl) (by kernel_rfl) (fun _ _ _ h => h) (by rfl) (fun w hSw => by (try dsimp only at hSw); go_simp) (by assumption) ?_
    try simp only [Act.put, List.setIfInBounds_toArray, List.set_cons_zero, List.set_cons_succ]
    refine take_yes (i := 2) (oi := { dst := some 26, op := Op.load 3 (Operand.tmp 25), type := 3, pos := "laws.go:587", after := #[{ on := 1, ground := Ground.data }], guard := none }) (v := .int .i64 (x0 : Int)) rfl (by kernel_rfl) (by kernel_rfl) (by kernel_rfl) (fun _ _ _ h => h) (by rfl) (fun w hSw => by (try dsimp only at hSw); obtain ⟨-, -, -, g0, g1, g2, g3⟩ := HD.out _ hSw; go_simp) (by assumption) ?_
    try simp only [Act.put, List.setIfInBounds_toArray, List.set_cons_zero, List.set_cons_succ]
    refine take_yes (i := 3) (oi := { dst := some 27, op := Op.binOp BinOp.rem 3 (Operand.tmp 26) (Operand.const (Value.int IntKind.i64 9)) 3, type := 3, pos := "laws.go:587", after := #[{ on := 2, ground := Ground.data }], guard := none }) (v := .int .i64 m0) rfl (by kernel_rfl) (by kernel_rfl) (by kernel_rfl) (fun _ _ _ h => h) (by rfl) (fun w hSw => by (try dsimp only at hSw); go_simp) (by assumption) ?_
    try simp only [Act.put, List.setIfInBounds_toArray, List.set_cons_zero, List.set_cons_succ]
    refine take_yes (i := 4) (oi := { dst := some 28, op := Op.binOp BinOp.add 3 (Operand.const (Value.int IntKind.i64 1)) (Operand.tmp 27) 3, type := 3, pos := "laws.go:587", after := #[{ on := 3, ground := Ground.data }], guard := none }) (v := .int .i64 X) rfl (by kernel_rfl) (by kernel_rfl) (by kernel_rfl) (fun _ _ _ h => h) (by rfl) (fun w hSw => by (try dsimp only at hSw); go_simp) (by assumption) ?_
    try simp only [Act.put, List.setIfInBounds_toArray, List.set_cons_zero, List.set_cons_succ]
    refine take_yes (i := 5) (oi := { dst := some 29, op := Op.move (Operand.tmp 6), type := 24, pos := "laws.go:587", after := #[], guard := none }) (v := .slice (some ⟨pg, 0, none⟩) 12 pc) rfl (by kernel_rfl) (by kernel_rfl) (by kernel_rfl) (fun _ _ _ h => h) (by rfl) (fun w hSw => by (try dsimp only at hSw); go_simp) (by assumption) ?_
    try simp only [Act.put, List.setIfInBounds_toArray, List.set_cons_zero, List.set_cons_succ]
    refine take_yes (i := 6) (oi := { dst := some 30, op := Op.indexAddr 24 (Operand.tmp 29) (Operand.const (Value.int IntKind.i64 1)), type := 0, pos := "laws.go:587", after := #[{ on := 5, ground := Ground.data }], guard := none }) (v := .pointer (some ⟨pg, 1, none⟩)) rfl (by kernel_rfl) (by kernel_rfl) (by kernel_rfl) (fun _ _ _ h => h) (by rfl) (fun w hSw => by (try dsimp only at hSw); go_simp) (by assumption) ?_
    try simp only [Act.put, List.setIfInBounds_toArray, List.set_cons_zero, List.set_cons_succ]
    refine take_yes (i := 7) (oi := { dst := some 31, op := Op.load 3 (Operand.tmp 30), type := 3, pos := "laws.go:587", after := #[{ on := 6, ground := Ground.data }], guard := none }) (v := .int .i64 (x1 : Int)) rfl (by kernel_rfl) (by kernel_rfl) (by kernel_rfl) (fun _ _ _ h => h) (by rfl) (fun w hSw => by (try dsimp only at hSw); obtain ⟨-, -, -, g0, g1, g2, g3⟩ := HD.out _ hSw; go_simp) (by assumption) ?_
    try simp only [Act.put, List.setIfInBounds_toArray, List.set_cons_zero, List.set_cons_succ]
    refine take_yes (i := 8) (oi := { dst := some 32, op := Op.binOp BinOp.rem 3 (Operand.tmp 31) (Operand.const (Value.int IntKind.i64 9)) 3, type := 3, pos := "laws.go:587", after := #[{ on := 7, ground := Ground.data }], guard := none }) (v := .int .i64 m1) rfl (by kernel_rfl) (by kernel_rfl) (by kernel_rfl) (fun _ _ _ h => h) (by rfl) (fun w hSw => by (try dsimp only at hSw); go_simp) (by assumption) ?_
    try simp only [Act.put, List.setIfInBounds_toArray, List.set_cons_zero, List.set_cons_succ]
    refine take_yes (i := 9) (oi := { dst := some 33, op := Op.binOp BinOp.add 3 (Operand.const (Value.int IntKind.i64 20)) (Operand.tmp 32) 3, type := 3, pos := "laws.go:587", after := #[{ on := 8, ground := Ground.data }], guard := none }) (v := .int .i64 Y) rfl (by kernel_rfl) (by kernel_rfl) (by kernel_rfl) (fun _ _ _ h => h) (by rfl) (fun w hSw => by (try dsimp only at hSw); go_simp) (by assumption) ?_
    try simp only [Act.put, List.setIfInBounds_toArray, List.set_cons_zero, List.set_cons_succ]
    refine take_yes (i := 10) (oi := { dst := some 34, op := Op.move (Operand.tmp 6), type := 24, pos := "laws.go:587", after := #[], guard := none }) (v := .slice (some ⟨pg, 0, none⟩) 12 pc) rfl (by kernel_rfl) (by kernel_rfl) (by kernel_rfl) (fun _ _ _ h => h) (by rfl) (fun w hSw => by (try dsimp only at hSw); go_simp) (by assumption) ?_
    try simp only [Act.put, List.setIfInBounds_toArray, List.set_cons_zero, List.set_cons_succ]
    refine take_yes (i := 11) (oi := { dst := some 35, op := Op.indexAddr 24 (Operand.tmp 34) (Operand.const (Value.int IntKind.i64 2)), type := 0, pos := "laws.go:587", after := #[{ on := 10, ground := Ground.data }], guard := none }) (v := .pointer (some ⟨pg, 2, none⟩)) rfl (by kernel_rfl) (by kernel_rfl) (by kernel_rfl) (fun _ _ _ h => h) (by rfl) (fun w hSw => by (try dsimp only at hSw); go_simp) (by assumption) ?_
    try simp only [Act.put, List.setIfInBounds_toArray, List.set_cons_zero, List.set_cons_succ]
    refine take_yes (i := 12) (oi := { dst := some 36, op := Op.load 3 (Operand.tmp 35), type := 3, pos := "laws.go:587", after := #[{ on := 11, ground := Ground.data }], guard := none }) (v := .int .i64 (x2 : Int)) rfl (by kernel_rfl) (by kernel_rfl) (by kernel_rfl) (fun _ _ _ h => h) (by rfl) (fun w hSw => by (try dsimp only at hSw); obtain ⟨-, -, -, g0, g1, g2, g3⟩ := HD.out _ hSw; go_simp) (by assumption) ?_
    try simp only [Act.put, List.setIfInBounds_toArray, List.set_cons_zero, List.set_cons_succ]
    refine take_yes (i := 13) (oi := { dst := some 37, op := Op.move (Operand.tmp 6), type := 24, pos := "laws.go:587", after := #[], guard := none }) (v := .slice (some ⟨pg, 0, none⟩) 12 pc) rfl (by kernel_rfl) (by kernel_rfl) (by kernel_rfl) (fun _ _ _ h => h) (by rfl) (fun w hSw => by (try dsimp only at hSw); go_simp) (by assumption) ?_
    try simp only [Act.put, List.setIfInBounds_toArray, List.set_cons_zero, List.set_cons_succ]
    refine take_yes (i := 14) (oi := { dst := some 38, op := Op.indexAddr 24 (Operand.tmp 37) (Operand.const (Value.int IntKind.i64 3)), type := 0, pos := "laws.go:587", after := #[{ on := 13, ground := Ground.data }], guard := none }) (v := .pointer (some ⟨pg, 3, none⟩)) rfl (by kernel_rfl) (by kernel_rfl) (by kernel_rfl) (fun _ _ _ h => h) (by rfl) (fun w hSw => by (try dsimp only at hSw); go_simp) (by assumption) ?_
    try simp only [Act.put, List.setIfInBounds_toArray, List.set_cons_zero, List.set_cons_succ]
    refine take_yes (i := 15) (oi := { dst := some 39, op := Op.load 3 (Operand.tmp 38), type := 3, pos := "laws.go:587", after := #[{ on := 14, ground := Ground.data }], guard := none }) (v := .int .i64 (x3 : Int)) rfl (by kernel_rfl) (by kernel_rfl) (by kernel_rfl) (fun _ _ _ h => h) (by rfl) (fun w hSw => by (try dsimp only at hSw); obtain ⟨-, -, -, g0, g1, g2, g3⟩ := HD.out _ hSw; go_simp) (by assumption) ?_
    try simp only [Act.put, List.setIfInBounds_toArray, List.set_cons_zero, List.set_cons_succ]
    refine wpAnyH_ready (rs := [16, 17]) (by kernel_rfl) (by simp) ?_
    refine AllReadyH.cons (o := { dst := some 40, op := Op.call { callee := Callee.value (Operand.func 13), args := #[Operand.tmp 28, Operand.tmp 33, Operand.tmp 36, Operand.tmp 39], argTypes := #[3, 3, 3, 3] }, type := 29, pos := "laws.go:587", after := #[{ on := 4, ground := Ground.data }, { on := 9, ground := Ground.data }, { on := 12, ground := Ground.data }, { on := 15, ground := Ground.data }], guard := none }) rfl (fun K hK => ?_) ?_
    · go_simp
      with_reducible refine (impl_tagBack X Y (x2 : Int) (x3 : Int) _).mono ?_
      rintro e wA57 ⟨rfl, bA⟩
      have KA58 := Below.then_ hHeld bA
      clear bA
      refine hK.out _ _ KA58 (fun hHeldN => ?_)
      clear hK K hHeld
      have hHeld := hHeldN
      clear hHeldN
      try simp only [Act.put, List.setIfInBounds_toArray, List.set_cons_zero, List.set_cons_succ]
      refine wpAnyH_ready (rs := [17]) (by kernel_rfl) (by simp) ?_
      refine AllReadyH.cons (o := { dst := some 7, op := Op.alloc 29, type := 0, pos := "laws.go:587", after := #[], guard := none }) rfl (fun K hK => ?_) AllReadyH.nil
      go_simp
      have KB61 := Below.then_ hHeld (below_new wA57 (.cells #[.int .i64 0, .int .i64 0, .int .i64 0, .int .i64 0, .int .i64 0] 29))
      have HB59 := Lib.hid (And.intro (Cel.new wA57 29 #[.int .i64 0, .int .i64 0, .int .i64 0, .int .i64 0, .int .i64 0]) hHeld.size)
      generalize wA57.heap.size = gb62 at *
      generalize wA57.alloc (.cells #[.int .i64 0, .int .i64 0, .int .i64 0, .int .i64 0, .int .i64 0] 29) = wB60 at *
      refine hK.out _ _ KB61 (fun hHeldN => ?_)
      clear hK K hHeld
      have hHeld := hHeldN
      clear hHeldN
      try simp only [Act.put, List.setIfInBounds_toArray, List.set_cons_zero, List.set_cons_succ]
      refine wpAnyH_ready (rs := [18]) (by kernel_rfl) (by simp) ?_
      refine AllReadyH.cons (o := { dst := none, op := Op.store 29 (Operand.tmp 7) (Operand.tmp 40), type := 0, pos := "laws.go:587", after := #[{ on := 17, ground := Ground.data }, { on := 16, ground := Ground.data }, { on := 16, ground := Ground.chain }, { on := 0, ground := Ground.phase }, { on := 1, ground := Ground.phase }, { on := 2, ground := Ground.phase }, { on := 3, ground := Ground.phase }, { on := 4, ground := Ground.phase }, { on := 5, ground := Ground.phase }, { on := 6, ground := Ground.phase }, { on := 7, ground := Ground.phase }, { on := 8, ground := Ground.phase }, { on := 9, ground := Ground.phase }, { on := 10, ground := Ground.phase }, { on := 11, ground := Ground.phase }, { on := 12, ground := Ground.phase }, { on := 13, ground := Ground.phase }, { on := 14, ground := Ground.phase }, { on := 15, ground := Ground.phase }, { on := 16, ground := Ground.phase }, { on := 17, ground := Ground.phase }], guard := none }) rfl (fun K hK => ?_) AllReadyH.nil
      obtain ⟨y0, y1, y2, y3, y4⟩ := cel5tv HB59.out.1
      have f0 := HB59.out.1.frozen 0
      have f1 := HB59.out.1.frozen 1
      have f2 := HB59.out.1.frozen 2
      have f3 := HB59.out.1.frozen 3
      have f4 := HB59.out.1.frozen 4
      go_simp
      clear y0 y1 y2 y3 y4 f0 f1 f2 f3 f4
      have KF64 : Below w5.heap.size w5 (((((wB60.setCell ⟨gb62, 0, none⟩ (.int .i64 1)).setCell ⟨gb62, 1, none⟩ (.int .i64 X)).setCell ⟨gb62, 2, none⟩ (.int .i64 Y)).setCell ⟨gb62, 3, none⟩ (.int .i64 (x2 : Int))).setCell ⟨gb62, 4, none⟩ (.int .i64 (x3 : Int))) := hHeld.trans (esetC_below gb62 w5.heap.size HB59.out.2 0 [.int .i64 1, .int .i64 X, .int .i64 Y, .int .i64 (x2 : Int), .int .i64 (x3 : Int)] wB60)
      have HF63 := Lib.hid ((((((HB59.out.1.set 0 (.int .i64 1)).set 1 (.int .i64 X)).set 2 (.int .i64 Y)).set 3 (.int .i64 (x2 : Int))).set 4 (.int .i64 (x3 : Int))))
      clear HB59
      generalize (((((wB60.setCell ⟨gb62, 0, none⟩ (.int .i64 1)).setCell ⟨gb62, 1, none⟩ (.int .i64 X)).setCell ⟨gb62, 2, none⟩ (.int .i64 Y)).setCell ⟨gb62, 3, none⟩ (.int .i64 (x2 : Int))).setCell ⟨gb62, 4, none⟩ (.int .i64 (x3 : Int))) = w9 at *
      refine hK.out _ _ KF64 (fun hHeldN => ?_)
      clear hK K hHeld
      have hHeld := hHeldN
      clear hHeldN
      try simp only [Act.put, List.setIfInBounds_toArray, List.set_cons_zero, List.set_cons_succ]
      refine wpAnyH_done (by kernel_rfl) ?_ _
      have hHeld2 := hHeld
      clear hHeld
      exact REST6 _ _ ⟨hHeld2, HF63.out⟩
    refine AllReadyH.cons (o := { dst := some 7, op := Op.alloc 29, type := 0, pos := "laws.go:587", after := #[], guard := none }) rfl (fun K hK => ?_) AllReadyH.nil
    go_simp
    have KB67 := Below.then_ hHeld (below_new wd6 (.cells #[.int .i64 0, .int .i64 0, .int .i64 0, .int .i64 0, .int .i64 0] 29))
    have HB65 := Lib.hid (And.intro (Cel.new wd6 29 #[.int .i64 0, .int .i64 0, .int .i64 0, .int .i64 0, .int .i64 0]) hHeld.size)
    generalize wd6.heap.size = gb68 at *
    generalize wd6.alloc (.cells #[.int .i64 0, .int .i64 0, .int .i64 0, .int .i64 0, .int .i64 0] 29) = wB66 at *
    refine hK.out _ _ KB67 (fun hHeldN => ?_)
    clear hK K hHeld
    have hHeld := hHeldN
    clear hHeldN
    try simp only [Act.put, List.setIfInBounds_toArray, List.set_cons_zero, List.set_cons_succ]
    refine wpAnyH_ready (rs := [16]) (by kernel_rfl) (by simp) ?_
    refine AllReadyH.cons (o := { dst := some 40, op := Op.call { callee := Callee.value (Operand.func 13), args := #[Operand.tmp 28, Operand.tmp 33, Operand.tmp 36, Operand.tmp 39], argTypes := #[3, 3, 3, 3] }, type := 29, pos := "laws.go:587", after := #[{ on := 4, ground := Ground.data }, { on := 9, ground := Ground.data }, { on := 12, ground := Ground.data }, { on := 15, ground := Ground.data }], guard := none }) rfl (fun K hK => ?_) AllReadyH.nil
    go_simp
    with_reducible refine (impl_tagBack X Y (x2 : Int) (x3 : Int) _).mono ?_
    rintro e wA69 ⟨rfl, bA⟩
    have KA70 := Below.then_ hHeld bA
    have HB71 := Lib.hid (And.intro (HB65.out.1.kept bA) HB65.out.2)
    clear HB65
    clear bA
    refine hK.out _ _ KA70 (fun hHeldN => ?_)
    clear hK K hHeld
    have hHeld := hHeldN
    clear hHeldN
    try simp only [Act.put, List.setIfInBounds_toArray, List.set_cons_zero, List.set_cons_succ]
    refine wpAnyH_ready (rs := [18]) (by kernel_rfl) (by simp) ?_
    refine AllReadyH.cons (o := { dst := none, op := Op.store 29 (Operand.tmp 7) (Operand.tmp 40), type := 0, pos := "laws.go:587", after := #[{ on := 17, ground := Ground.data }, { on := 16, ground := Ground.data }, { on := 16, ground := Ground.chain }, { on := 0, ground := Ground.phase }, { on := 1, ground := Ground.phase }, { on := 2, ground := Ground.phase }, { on := 3, ground := Ground.phase }, { on := 4, ground := Ground.phase }, { on := 5, ground := Ground.phase }, { on := 6, ground := Ground.phase }, { on := 7, ground := Ground.phase }, { on := 8, ground := Ground.phase }, { on := 9, ground := Ground.phase }, { on := 10, ground := Ground.phase }, { on := 11, ground := Ground.phase }, { on := 12, ground := Ground.phase }, { on := 13, ground := Ground.phase }, { on := 14, ground := Ground.phase }, { on := 15, ground := Ground.phase }, { on := 16, ground := Ground.phase }, { on := 17, ground := Ground.phase }], guard := none }) rfl (fun K hK => ?_) AllReadyH.nil
    obtain ⟨y0, y1, y2, y3, y4⟩ := cel5tv HB71.out.1
    have f0 := HB71.out.1.frozen 0
    have f1 := HB71.out.1.frozen 1
    have f2 := HB71.out.1.frozen 2
    have f3 := HB71.out.1.frozen 3
    have f4 := HB71.out.1.frozen 4
    go_simp
    clear y0 y1 y2 y3 y4 f0 f1 f2 f3 f4
    have KF73 : Below w5.heap.size w5 (((((wA69.setCell ⟨gb68, 0, none⟩ (.int .i64 1)).setCell ⟨gb68, 1, none⟩ (.int .i64 X)).setCell ⟨gb68, 2, none⟩ (.int .i64 Y)).setCell ⟨gb68, 3, none⟩ (.int .i64 (x2 : Int))).setCell ⟨gb68, 4, none⟩ (.int .i64 (x3 : Int))) := hHeld.trans (esetC_below gb68 w5.heap.size HB71.out.2 0 [.int .i64 1, .int .i64 X, .int .i64 Y, .int .i64 (x2 : Int), .int .i64 (x3 : Int)] wA69)
    have HF72 := Lib.hid ((((((HB71.out.1.set 0 (.int .i64 1)).set 1 (.int .i64 X)).set 2 (.int .i64 Y)).set 3 (.int .i64 (x2 : Int))).set 4 (.int .i64 (x3 : Int))))
    clear HB71
    generalize (((((wA69.setCell ⟨gb68, 0, none⟩ (.int .i64 1)).setCell ⟨gb68, 1, none⟩ (.int .i64 X)).setCell ⟨gb68, 2, none⟩ (.int .i64 Y)).setCell ⟨gb68, 3, none⟩ (.int .i64 (x2 : Int))).setCell ⟨gb68, 4, none⟩ (.int .i64 (x3 : Int))) = w9 at *
    refine hK.out _ _ KF73 (fun hHeldN => ?_)
    clear hK K hHeld
    have hHeld := hHeldN
    clear hHeldN
    try simp only [Act.put, List.setIfInBounds_toArray, List.set_cons_zero, List.set_cons_succ]
    refine wpAnyH_done (by kernel_rfl) ?_ _
    have hHeld2 := hHeld
    clear hHeld
    exact REST6 _ _ ⟨hHeld2, HF72.out⟩
end Go.Proofs.Ytgfkmnadbcbfkaa
