import Derived.Test.YtoeflkmhofkiaaaHdr
import Derived.Test.YtoeflkmhofkiaaaBig
namespace Go.Proofs.Ytoeflkmhofkiaaa
open Go.RowKit
set_option maxRecDepth 100000

set_option maxHeartbeats 2000000 in
set_option maxRecDepth 100000 in
theorem list_dr (g : Nat) (v : Value) (n : Nat) (w : World) (hd : Dr w g v n) :
    Calls Try.prog 62 #[.pointer (some ⟨g, 0, none⟩)] w fun e w' => ∃ (u : Value) (ms : List Hv), e = .returned u ∧ OwnH w' w.heap.size w'.heap.size u ms ∧ ms.length ≤ 6 ∧ Dr w' g v n ∧ Grew g w w' := by
  have hg := hd.blk
  have hb0 := below_new w (.cells #[] 28)
  have hd0 := hd.kept hb0
  have hO0 : OwnH (w.alloc (.cells #[] 28)) w.heap.size (w.alloc (.cells #[] 28)).heap.size (.slice (some ⟨w.heap.size, 0, none⟩) 0 0) [] := eown_empty hvK w
  have hG0 := Grew.then (Grew.refl g w) hb0
  have c6 := fun W h => bel_dr g v n 6 6 rfl W h (by omega) (by omega)
  have cA := fun W h => half_dr g v n W h
  clear hb0 hd
  go_enter Try.func62, Try.ntmps62
  go_wp2_with (fail)
  go_loopw [3, 4] (fun u i wr => ∃ (k : Nat) (ms : List Hv), k ≤ 6 ∧ i = .int .i64 k ∧ OwnH wr w.heap.size wr.heap.size u ms ∧ ms.length ≤ k ∧ Dr wr g v n ∧ Grew g w wr) (fun _ i _ => 6 - (intOf i).toNat)
  case atStart => exact ⟨0, [], by omega, rfl, hO0, by simp, hd0, hG0⟩
  case round =>
    clear hO0 hd0 hG0
    obtain ⟨k, ms, hk, rfl, hO, hl, hd, hG⟩ := hrel
    have HX := Lib.hid (And.intro hO hG)
    obtain ⟨ua, uc, rfl, -⟩ := hO.form
    clear hO hG
    go_wp2_with (fail)
    with_reducible refine (c6 _ hd).mono ?_
    rintro e w1 ⟨r, hr, rfl, d1, o1⟩
    have HX1 := Lib.hid (And.intro (HX.out.1.grew o1.grew hg) (HX.out.2.only o1))
    clear HX hd o1
    by_cases hlt : k < r
    · have q : (k : Int) < (r : Int) := by omega
      go_wp2_with (fail)
      with_reducible refine (cA _ d1).mono ?_
      rintro e w2 ⟨m, rfl, hm, d2, g2⟩
      have HX2 := Lib.hid (And.intro (HX1.out.1.grew g2 hg) (And.intro (HX1.out.2.trans g2) d2))
      have cP := spec_putHalf (.slice ua ms.length uc) ms m w2 HX2.out.1.rd (by omega)
      have hpl := put_len ms m
      generalize putH ms m = rr at *
      obtain ⟨os, ok⟩ := rr
      dsimp only at cP hpl
      clear HX1 d1 g2 hm d2
      go_wp2_with (fail)
      with_reducible refine cP.mono ?_
      rintro e w3 ⟨u3, rfl, hO3, hb3⟩
      have HX3 := Lib.hid (And.intro (hO3.mono HX2.out.2.1.size (Nat.le_refl _)) (And.intro (HX2.out.2.2.kept hb3) (HX2.out.2.1.then (hb3.mono HX2.out.2.1.size))))
      obtain ⟨va, vc, rfl, -⟩ := hO3.form
      clear hO3 hb3 cP HX2
      go_wp2_with (fail)
      go_roundw
      case rel => exact ⟨k + 1, os, by omega, by go_num, HX3.out.1, by omega, HX3.out.2.1, HX3.out.2.2⟩
      case measure => simp [intOf]; omega
    · have q : ¬ (k : Int) < (r : Int) := by omega
      have HD := Lib.hid d1
      clear d1
      go_wp2_with (fail)
      go_ret
      exact ⟨_, ms, rfl, HX1.out.1, by omega, HD.out, HX1.out.2⟩

theorem OwnE.head {α : Type} {K : EK α} {W : World} {B C n c : Nat} {a : Option Addr} {xs : List α} (h : OwnE K W B C (.slice a n c) xs) (h0 : 0 < xs.length) : ∃ b, a = some ⟨b, 0, none⟩ ∧ B ≤ b ∧ n = xs.length := by
  obtain ⟨a', c', he, hg⟩ := h.form
  injection he with e1 e2 e3
  subst e1
  obtain ⟨g, h1, h2, -⟩ := hg h0
  exact ⟨g, h1, h2, e2⟩

set_option maxHeartbeats 4000000 in
set_option maxRecDepth 100000 in
theorem any_dr (g : Nat) (v : Value) (n : Nat) (w : World) (hd : Dr w g v n) :
    Calls Try.prog 43 #[.pointer (some ⟨g, 0, none⟩)] w fun e w' => ∃ (u : Value) (ms : List Hv), e = .returned u ∧ OwnH w' w.heap.size w'.heap.size u ms ∧ ms.length ≤ 7 ∧ Dr w' g v n ∧ Grew g w w' := by
  have hg := hd.blk
  have cL := list_dr g v n w hd
  have c8 := fun W h => once_dr g v n 8 8 rfl W h (by omega) (by omega)
  have c10 := fun W h => once_dr g v n 10 10 rfl W h (by omega) (by omega)
  have cA := fun W h => half_dr g v n W h
  clear hd
  go_enter Try.func43, Try.ntmps43
  go_wp2_with (fail)
  with_reducible refine cL.mono ?_
  rintro e w1 ⟨u, ms, rfl, hO, hl, d1, g1⟩
  have HX := Lib.hid (And.intro hO g1)
  obtain ⟨ua, uc, rfl, -⟩ := hO.form
  clear hO g1 cL
  go_wp2_with (fail)
  with_reducible refine (c8 _ d1).mono ?_
  rintro e w2 ⟨b2, rfl, d2, o2⟩
  have HX2 := Lib.hid (And.intro (HX.out.1.grew o2.grew hg) (And.intro (show ms.length ≤ 7 by omega) (And.intro d2 (HX.out.2.only o2))))
  clear HX o2 d1 c8 d2
  cases b2 with
  | true =>
    go_wp2_with (fail)
    with_reducible refine (cA _ HX2.out.2.2.1).mono ?_
    rintro e w3 ⟨m, rfl, hm, d3, g3⟩
    have hb3 := below_hv w3 m
    have hG3 := HX2.out.2.2.2.trans g3
    have HX3 := Lib.hid (And.intro (eown_alloc (HX2.out.1.grew g3 hg) (.cells #[.int .i64 m.road.own, .int .i64 m.road.far, .int .i64 m.road.port, .int .i64 m.theirs, .int .i64 m.mine, .int .i64 m.give, .int .i64 m.take, .int .i64 m.till] 28)) (And.intro (hG3.then (hb3.mono hG3.size)) (And.intro (d3.kept hb3) (And.intro (Cel.new w3 28 #[.int .i64 m.road.own, .int .i64 m.road.far, .int .i64 m.road.port, .int .i64 m.theirs, .int .i64 m.mine, .int .i64 m.give, .int .i64 m.take, .int .i64 m.till]) (Nat.le_trans hG3.size hb3.size)))))
    clear HX2 hb3 hG3 d3 g3 hm cA
    obtain ⟨M, hM⟩ : ∃ M, ms ++ [m] = M := ⟨_, rfl⟩
    have HM := Lib.hid (And.intro hM (show M.length ≤ 7 by rw [← hM]; simp; omega))
    clear hM
    go_upto_region 4 with (at_builtin; refine wpList_append_els hvK rfl _ _ 24 24 rfl uHv uHv w.heap.size _ (.slice (some ⟨w3.heap.size, 0, none⟩) 1 1) ms [m] rfl rfl HX3.out.1 HX3.out.2.2.2.2 (rd_hvbox HX3.out.2.2.2.1) (by simp; omega) ?_; intro u' w4 hown hgrow hloc; rw [HM.out.1] at hown; have hB4 : Below w.heap.size _ w4 := (Below.refl _ _).grown hgrow HX3.out.2.2.2.2 (fun k hk => (HX3.out.1.block k hk).1); have HN := Lib.hid (And.intro hown (And.intro HM.out.2 (And.intro (HX3.out.2.2.1.below hB4 hg) (HX3.out.2.1.then hB4)))); obtain ⟨xa, xc, rfl, -⟩ := hown.form; clear hown hgrow hloc hB4)
    clear HX3 HM
    by_cases h0 : M.length = 0
    · obtain rfl : M = [] := List.eq_nil_of_length_eq_zero h0
      clear h0
      go_wp2_with (fail)
      go_ret
      exact ⟨_, [], rfl, HN.out.1, HN.out.2.1, HN.out.2.2.1, HN.out.2.2.2⟩
    · have q0 : (0 : Int) < (M.length : Int) := by omega
      go_wp2_with (fail)
      with_reducible refine (c10 _ HN.out.2.2.1).mono ?_
      rintro e w7 ⟨bb, rfl, d7, o7⟩
      have H7 := Lib.hid (And.intro (HN.out.1.grew o7.grew hg) (And.intro HN.out.2.1 (And.intro d7 (HN.out.2.2.2.only o7))))
      clear HN d7 o7 c10
      cases bb with
      | false =>
        go_wp2_with (fail)
        go_ret
        exact ⟨_, M, rfl, H7.out.1, H7.out.2.1, H7.out.2.2.1, H7.out.2.2.2⟩
      | true =>
        have hb8 := below_ints w7 #[.int .i64 (-1), .int .i64 1000000001]
        have cp := pick_mem g v n _ (H7.out.2.2.1.kept hb8) w7.heap.size 2 2 _ [-1, 1000000001] rfl rfl (Cel.new w7 3 #[.int .i64 (-1), .int .i64 1000000001]) (by have := H7.out.2.2.2.size; omega) (by omega) (by omega)
        have H8 := Lib.hid (And.intro (eown_alloc H7.out.1 (.cells #[.int .i64 (-1), .int .i64 1000000001] 3)) (And.intro H7.out.2.1 (H7.out.2.2.2.then (hb8.mono H7.out.2.2.2.size))))
        clear H7 hb8
        go_wp2_with (fail)
        with_reducible refine cp.mono ?_
        rintro e w9 ⟨z, -, rfl, d9, o9⟩
        have hO9 := H8.out.1.grew o9.grew hg
        obtain ⟨b', hbe, hbg, -⟩ := OwnE.head hO9 (by omega)
        subst hbe
        obtain ⟨-, -, -, -, -, -, -, k7, hf, -⟩ := hv_own hO9 0 (by omega)
        have f7 := hf (0 * 8 + 7)
        have hput := OwnE.put1 hO9 0 (by omega) 7 (by decide) { M[0] with till := z } (.int .i64 z) rfl
        rw [show 0 * hvK.n + 7 = 7 by rfl] at hput
        rw [show 0 * 8 + 7 = 7 by rfl] at k7 f7
        have hB9 : Below w.heap.size w9 (w9.setCell ⟨b', 7, none⟩ (.int .i64 z)) := (Below.refl _ _).setCell (p := ⟨b', 7, none⟩) hbg _
        have hz9 : (w9.setCell ⟨b', 7, none⟩ (.int .i64 z)).heap.size = w9.heap.size := by simp
        rw [← hz9] at hput
        have H9 := Lib.hid (And.intro hput (And.intro (show (M.set 0 { M[0] with till := z }).length ≤ 7 by rw [List.length_set]; exact H8.out.2.1) (And.intro (d9.below hB9 hg) ((H8.out.2.2.only o9).then hB9))))
        have hll : (M.set 0 { M[0] with till := z }).length = M.length := List.length_set
        clear hput hB9 hz9 H8 d9 o9 cp hf hO9
        go_wp2_with (fail)
        go_ret
        exact ⟨_, _, rfl, H9.out.1, H9.out.2.1, H9.out.2.2.1, H9.out.2.2.2⟩
  | false =>
    clear cA
    by_cases h0 : ms.length = 0
    · obtain rfl : ms = [] := List.eq_nil_of_length_eq_zero h0
      clear h0
      go_wp2_with (fail)
      go_ret
      exact ⟨_, [], rfl, HX2.out.1, HX2.out.2.1, HX2.out.2.2.1, HX2.out.2.2.2⟩
    · have q0 : (0 : Int) < (ms.length : Int) := by omega
      go_wp2_with (fail)
      with_reducible refine (c10 _ HX2.out.2.2.1).mono ?_
      rintro e w7 ⟨bb, rfl, d7, o7⟩
      have H7 := Lib.hid (And.intro (HX2.out.1.grew o7.grew hg) (And.intro HX2.out.2.1 (And.intro d7 (HX2.out.2.2.2.only o7))))
      clear HX2 d7 o7 c10
      cases bb with
      | false =>
        go_wp2_with (fail)
        go_ret
        exact ⟨_, ms, rfl, H7.out.1, H7.out.2.1, H7.out.2.2.1, H7.out.2.2.2⟩
      | true =>
        have hb8 := below_ints w7 #[.int .i64 (-1), .int .i64 1000000001]
        have cp := pick_mem g v n _ (H7.out.2.2.1.kept hb8) w7.heap.size 2 2 _ [-1, 1000000001] rfl rfl (Cel.new w7 3 #[.int .i64 (-1), .int .i64 1000000001]) (by have := H7.out.2.2.2.size; omega) (by omega) (by omega)
        have H8 := Lib.hid (And.intro (eown_alloc H7.out.1 (.cells #[.int .i64 (-1), .int .i64 1000000001] 3)) (And.intro H7.out.2.1 (H7.out.2.2.2.then (hb8.mono H7.out.2.2.2.size))))
        clear H7 hb8
        go_wp2_with (fail)
        with_reducible refine cp.mono ?_
        rintro e w9 ⟨z, -, rfl, d9, o9⟩
        have hO9 := H8.out.1.grew o9.grew hg
        obtain ⟨b', hbe, hbg, -⟩ := OwnE.head hO9 (by omega)
        subst hbe
        obtain ⟨-, -, -, -, -, -, -, k7, hf, -⟩ := hv_own hO9 0 (by omega)
        have f7 := hf (0 * 8 + 7)
        have hput := OwnE.put1 hO9 0 (by omega) 7 (by decide) { ms[0] with till := z } (.int .i64 z) rfl
        rw [show 0 * hvK.n + 7 = 7 by rfl] at hput
        rw [show 0 * 8 + 7 = 7 by rfl] at k7 f7
        have hB9 : Below w.heap.size w9 (w9.setCell ⟨b', 7, none⟩ (.int .i64 z)) := (Below.refl _ _).setCell (p := ⟨b', 7, none⟩) hbg _
        have hz9 : (w9.setCell ⟨b', 7, none⟩ (.int .i64 z)).heap.size = w9.heap.size := by simp
        rw [← hz9] at hput
        have H9 := Lib.hid (And.intro hput (And.intro (show (ms.set 0 { ms[0] with till := z }).length ≤ 7 by rw [List.length_set]; exact H8.out.2.1) (And.intro (d9.below hB9 hg) ((H8.out.2.2.only o9).then hB9))))
        have hll : (ms.set 0 { ms[0] with till := z }).length = ms.length := List.length_set
        clear hput hB9 hz9 H8 d9 o9 cp hf hO9
        go_wp2_with (fail)
        go_ret
        exact ⟨_, _, rfl, H9.out.1, H9.out.2.1, H9.out.2.2.1, H9.out.2.2.2⟩

set_option maxHeartbeats 4000000 in
set_option maxRecDepth 100000 in
theorem draw_putHalf (v : Value) (n : Nat) (w : World) (hv : RdB w v n) (hn : n ≤ 1048576) :
    Calls Try.prog 12 #[v] w fun e w' => ∃ (u : Value) (ms : List Hv) (m : Hv), e = .returned (.tuple #[u, .agg #[.int .i64 m.road.own, .int .i64 m.road.far, .int .i64 m.road.port, .int .i64 m.theirs, .int .i64 m.mine, .int .i64 m.give, .int .i64 m.take, .int .i64 m.till]]) ∧ OwnH w' w.heap.size w'.heap.size u ms ∧ ms.length ≤ 7 ∧ (0 ≤ m.till ∧ m.till ≤ 8) ∧ Below w.heap.size w w' := by
  have hb0 := below_new w (.cells #[.int .i64 0, .int .i64 0, .int .i64 0, .int .i64 0, .int .i64 0, .int .i64 0, .int .i64 0, .int .i64 0] 28)
  have hC0 := Cel.new w 28 #[.int .i64 0, .int .i64 0, .int .i64 0, .int .i64 0, .int .i64 0, .int .i64 0, .int .i64 0, .int .i64 0]
  have cN := new_dr v n _ (hv.below hb0 hv.lt) hn
  rw [World.size_alloc] at cN
  have HE := Lib.hid (And.intro hb0 hC0)
  clear hb0 hC0 hv
  go_enter Try.func12, Try.ntmps12
  go_wp2_with (fail)
  with_reducible refine cN.mono ?_
  rintro e w1 ⟨rfl, d1, hb1'⟩
  have hb1 : Below (w.alloc (.cells #[.int .i64 0, .int .i64 0, .int .i64 0, .int .i64 0, .int .i64 0, .int .i64 0, .int .i64 0, .int .i64 0] 28)).heap.size (w.alloc (.cells #[.int .i64 0, .int .i64 0, .int .i64 0, .int .i64 0, .int .i64 0, .int .i64 0, .int .i64 0, .int .i64 0] 28)) w1 := by rw [World.size_alloc]; exact hb1'
  have hz1 : w.heap.size + 1 < w1.heap.size := d1.blk
  have cA := any_dr _ v n w1 d1
  have H1 := Lib.hid (And.intro (HE.out.2.kept hb1) (And.intro (Below.then_ HE.out.1 hb1) hz1))
  clear HE hb1 hb1' hz1 cN d1
  go_wp2_with (fail)
  with_reducible refine cA.mono ?_
  rintro e w2 ⟨u, ms, rfl, hO, hl, d2, g2⟩
  have H2 := Lib.hid (And.intro (H1.out.1.grew g2 (by omega)) (And.intro (Grew.chain H1.out.2.1 g2 (by omega) H1.out.2.1.size) (And.intro (hO.mono (show w.heap.size + 2 ≤ w1.heap.size from H1.out.2.2) (Nat.le_refl _)) (Nat.lt_of_lt_of_le H1.out.2.2 g2.size))))
  obtain ⟨ua, uc, rfl, -⟩ := hO.form
  have cH := half_dr _ v n w2 d2
  clear hO g2 H1 cA d2
  go_wp2_with (fail)
  with_reducible refine cH.mono ?_
  rintro e w3 ⟨m, rfl, hm, d3, g3⟩
  have hC := H2.out.1.grew g3 (by omega)
  obtain ⟨k0, k1, k2, k3, k4, k5, k6, k7⟩ := cel8hv hC
  have f0 := hC.frozen 0
  have f1 := hC.frozen 1
  have f2 := hC.frozen 2
  have f3 := hC.frozen 3
  have f4 := hC.frozen 4
  have f5 := hC.frozen 5
  have f6 := hC.frozen 6
  have f7 := hC.frozen 7
  have hB5 := below_sets8 w w3 (.int .i64 m.road.own) (.int .i64 m.road.far) (.int .i64 m.road.port) (.int .i64 m.theirs) (.int .i64 m.mine) (.int .i64 m.give) (.int .i64 m.take) (.int .i64 m.till)
  have hO3 := H2.out.2.2.1.grew g3 (by omega)
  have hO5 : OwnH ((((((((w3.setCell ⟨w.heap.size, 0, none⟩ (.int .i64 m.road.own)).setCell ⟨w.heap.size, 1, none⟩ (.int .i64 m.road.far)).setCell ⟨w.heap.size, 2, none⟩ (.int .i64 m.road.port)).setCell ⟨w.heap.size, 3, none⟩ (.int .i64 m.theirs)).setCell ⟨w.heap.size, 4, none⟩ (.int .i64 m.mine)).setCell ⟨w.heap.size, 5, none⟩ (.int .i64 m.give)).setCell ⟨w.heap.size, 6, none⟩ (.int .i64 m.take)).setCell ⟨w.heap.size, 7, none⟩ (.int .i64 m.till)) w.heap.size ((((((((w3.setCell ⟨w.heap.size, 0, none⟩ (.int .i64 m.road.own)).setCell ⟨w.heap.size, 1, none⟩ (.int .i64 m.road.far)).setCell ⟨w.heap.size, 2, none⟩ (.int .i64 m.road.port)).setCell ⟨w.heap.size, 3, none⟩ (.int .i64 m.theirs)).setCell ⟨w.heap.size, 4, none⟩ (.int .i64 m.mine)).setCell ⟨w.heap.size, 5, none⟩ (.int .i64 m.give)).setCell ⟨w.heap.size, 6, none⟩ (.int .i64 m.take)).setCell ⟨w.heap.size, 7, none⟩ (.int .i64 m.till)).heap.size (.slice ua ms.length uc) ms := by
    refine (hO3.keepAt (fun k hk => ?_)).mono (by omega) (by simp)
    have := (hO3.block k hk).1
    rw [Below.heap_setCell _ _ _ _ (by simp; omega)]; rw [Below.heap_setCell _ _ _ _ (by simp; omega)]; rw [Below.heap_setCell _ _ _ _ (by simp; omega)]; rw [Below.heap_setCell _ _ _ _ (by simp; omega)]; rw [Below.heap_setCell _ _ _ _ (by simp; omega)]; rw [Below.heap_setCell _ _ _ _ (by simp; omega)]; rw [Below.heap_setCell _ _ _ _ (by simp; omega)]; rw [Below.heap_setCell _ _ _ _ (by simp; omega)]
  have HG := Lib.hid (And.intro hO5 (And.intro hl (And.intro hm ((Grew.chain H2.out.2.1 g3 (by omega) H2.out.2.1.size).trans hB5))))
  clear H2 hC cH hB5 hO3 hO5 hm d3 g3
  go_wp2_with (fail)
  exact bodyPost_ret (v := .tuple #[.slice ua ms.length uc, .agg #[.int .i64 m.road.own, .int .i64 m.road.far, .int .i64 m.road.port, .int .i64 m.theirs, .int .i64 m.mine, .int .i64 m.give, .int .i64 m.take, .int .i64 m.till]]) (by simp [results, Try.results12, go_sem, k0, k1, k2, k3, k4, k5, k6, k7]) rfl ⟨_, ms, m, rfl, HG.out.1, HG.out.2.1, HG.out.2.2.1, HG.out.2.2.2⟩
end Go.Proofs.Ytoeflkmhofkiaaa
