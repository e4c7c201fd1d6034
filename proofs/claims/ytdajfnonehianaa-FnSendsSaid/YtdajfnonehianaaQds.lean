import Derived.Test.YtdajfnonehianaaQdr
namespace Go.Proofs.Ytdajfnonehianaa
open Go.RowKit

set_option linter.unusedSimpArgs false in
set_option maxRecDepth 100000 in
set_option maxHeartbeats 4000000 in
theorem any_out_dr (g : Nat) (v : Value) (n : Nat) (w : World) (hd : Dr w g v n) :
    Calls Try.prog 53 #[.pointer (some ⟨g, 0, none⟩)] w fun e w' => ∃ o : Ot, e = .returned (.agg #[.string o.text, .int .i64 o.base, .int .i64 o.sent, .int .i64 o.room]) ∧ (o.text.size ≤ 200 ∧ (o.Ok → o.base ≤ 1000)) ∧ Dr w' g v n ∧ Grew g w w' := by
  have hg := hd.blk
  have hb0 := below_new w (.cells #[.string ⟨#[]⟩, .int .i64 0, .int .i64 0, .int .i64 0] 33)
  have hC0 := Cel.new w 33 #[.string ⟨#[]⟩, .int .i64 0, .int .i64 0, .int .i64 0]
  have c12 := fun W h => qbel g v n 12 12 rfl W h (by omega) (by omega)
  have H0 := Lib.hid (And.intro (hd.kept hb0) (And.intro (Grew.of_below (g := g) hb0 (Nat.le_refl _)) hC0))
  clear hb0 hC0 hd
  go_enter Try.func53, Try.ntmps53
  go_upto_region 1 with (fail)
  generalize w.alloc (.cells #[.string ⟨#[]⟩, .int .i64 0, .int .i64 0, .int .i64 0] 33) = w0 at *
  go_wp2_with (fail)
  with_reducible refine (out_dr g v n _ H0.out.1).mono ?_
  rintro e w1 ⟨⟨t, b', s, r⟩, rfl, hok, hbs, d1, o1⟩
  simp only at hbs
  unfold Ot.Ok at hok
  simp only at hok
  have hC1 := H0.out.2.2.grew o1 (by omega)
  have hlt1 := hC1.lt
  have hb2 := below_new w1 (.cells #[.string t, .int .i64 b', .int .i64 s, .int .i64 r] 33)
  have Q2 : Qd w (w1.alloc (.cells #[.string t, .int .i64 b', .int .i64 s, .int .i64 r] 33)) g v n w1.heap.size (.string t) (.int .i64 b') (.int .i64 s) (.int .i64 r) :=
    ⟨d1.kept hb2, (H0.out.2.1.trans o1).trans (Grew.of_below (g := g) hb2 (Nat.le_refl _)), Cel.new _ _ _, ⟨_, _, _, _, hC1.kept hb2⟩, hlt1, hg⟩
  have H1 := Lib.hid Q2
  clear H0 d1 o1 hC1 hlt1 hb2 Q2
  simp only
  go_upto_region 2 with (fail)
  obtain ⟨b, hb⟩ : ∃ b, w1.heap.size = b := ⟨_, rfl⟩
  rw [hb] at H1 ⊢
  generalize w1.alloc (.cells #[.string t, .int .i64 b', .int .i64 s, .int .i64 r] 33) = w1' at *
  clear hb
  have HO := Lib.hid (And.intro hok hbs)
  clear hok hbs
  go_wp2_with (fail)
  with_reducible refine (c12 _ H1.out.d).mono ?_
  rintro e w2 ⟨q, hq, rfl, d2, o2⟩
  have H2 := Lib.hid (H1.out.only o2 d2)
  clear H1 d2 o2 c12
  by_cases h0 : q = 0
  · have t0 : ((q : Int) == 0) = true := by simp [h0]
    clear h0 hq
    go_upto_region 4 with (fail)
    have hb3 := below_new w2 (.cells #[.int .i64 (-1), .int .i64 1000000000, .int .i64 1000000001, .int .i64 3] 3)
    have hz : g < w2.heap.size := H2.out.d.blk
    have cp := qpick g v n _ (H2.out.d.kept hb3) w2.heap.size 4 4 _ [-1, 1000000000, 1000000001, 3] rfl rfl (Cel.new w2 3 #[.int .i64 (-1), .int .i64 1000000000, .int .i64 1000000001, .int .i64 3]) (by omega) (by omega) (by omega)
    have H3 := Lib.hid (H2.out.kept hb3)
    clear H2 hb3 hz
    go_wp2_with (fail)
    with_reducible refine cp.mono ?_
    rintro e w4 ⟨z, hz, rfl, d4, o4⟩
    have H4 := Lib.hid (H3.out.only o4 d4)
    clear H3 d4 o4 cp
    obtain ⟨a0, a1, a2, a3⟩ := H4.out.all
    have f0 := (H4.out.fr 1).1
    have h5 := H4.out.set 1 (.int .i64 z)
    simp only [if_true, if_false, Nat.reduceEqDiff] at h5
    have H5 := Lib.hid h5
    clear H4 h5
    go_upto_region 9 with (fail)
    clear a0 a1 a2 a3 f0
    generalize w4.setCell ⟨b, 1, none⟩ (.int .i64 z) = w5 at *
    obtain ⟨a0, a1, a2, a3⟩ := H5.out.all
    obtain ⟨r0, r1', r2, r3, b0, b1, b2, b3⟩ := H5.out.rs
    have f0 := (H5.out.fr 0).2
    have f1 := (H5.out.fr 1).2
    have f2 := (H5.out.fr 2).2
    have f3 := (H5.out.fr 3).2
    have HG := Lib.hid (H5.out.give (.string t) (.int .i64 z) (.int .i64 s) (.int .i64 r))
    clear H5
    go_wp2_with (fail)
    exact bodyPost_ret (out_result HG.out.1 rfl _ rfl) rfl ⟨⟨t, z, s, r⟩, rfl, ⟨by have := HO.out; simp only; omega, fun h => by have := HO.out; unfold Ot.Ok at h; simp only at h ⊢; omega⟩, HG.out.2.1, HG.out.2.2⟩
  · have t0 : ((q : Int) == 0) = false := by simp; omega
    by_cases h1 : q = 1
    · have t1 : ((q : Int) == 1) = true := by simp [h1]
      clear h0 h1 hq
      go_upto_region 6 with (fail)
      have hb3 := below_new w2 (.cells #[.int .i64 (-1), .int .i64 0, .int .i64 500] 3)
      have hz : g < w2.heap.size := H2.out.d.blk
      have cp := qpick g v n _ (H2.out.d.kept hb3) w2.heap.size 3 3 _ [-1, 0, 500] rfl rfl (Cel.new w2 3 #[.int .i64 (-1), .int .i64 0, .int .i64 500]) (by omega) (by omega) (by omega)
      have H3 := Lib.hid (H2.out.kept hb3)
      clear H2 hb3 hz
      go_wp2_with (fail)
      with_reducible refine cp.mono ?_
      rintro e w4 ⟨z, hz, rfl, d4, o4⟩
      have H4 := Lib.hid (H3.out.only o4 d4)
      clear H3 d4 o4 cp
      obtain ⟨a0, a1, a2, a3⟩ := H4.out.all
      have f0 := (H4.out.fr 2).1
      have h5 := H4.out.set 2 (.int .i64 z)
      simp only [if_true, if_false, Nat.reduceEqDiff] at h5
      have H5 := Lib.hid h5
      clear H4 h5
      go_upto_region 9 with (fail)
      clear a0 a1 a2 a3 f0
      generalize w4.setCell ⟨b, 2, none⟩ (.int .i64 z) = w5 at *
      obtain ⟨a0, a1, a2, a3⟩ := H5.out.all
      obtain ⟨r0, r1', r2, r3, b0, b1, b2, b3⟩ := H5.out.rs
      have f0 := (H5.out.fr 0).2
      have f1 := (H5.out.fr 1).2
      have f2 := (H5.out.fr 2).2
      have f3 := (H5.out.fr 3).2
      have HG := Lib.hid (H5.out.give (.string t) (.int .i64 b') (.int .i64 z) (.int .i64 r))
      clear H5
      go_wp2_with (fail)
      exact bodyPost_ret (out_result HG.out.1 rfl _ rfl) rfl ⟨⟨t, b', z, r⟩, rfl, ⟨by have := HO.out; simp only; omega, fun h => by have := HO.out; unfold Ot.Ok at h; simp only at h ⊢; omega⟩, HG.out.2.1, HG.out.2.2⟩
    · have t1 : ((q : Int) == 1) = false := by simp; omega
      by_cases h2 : q = 2
      · have t2 : ((q : Int) == 2) = true := by simp [h2]
        clear h0 h1 h2 hq
        go_upto_region 8 with (fail)
        have hb3 := below_new w2 (.cells #[.int .i64 0, .int .i64 201, .int .i64 1, .int .i64 (-1)] 3)
        have hz : g < w2.heap.size := H2.out.d.blk
        have cp := qpick g v n _ (H2.out.d.kept hb3) w2.heap.size 4 4 _ [0, 201, 1, -1] rfl rfl (Cel.new w2 3 #[.int .i64 0, .int .i64 201, .int .i64 1, .int .i64 (-1)]) (by omega) (by omega) (by omega)
        have H3 := Lib.hid (H2.out.kept hb3)
        clear H2 hb3 hz
        go_wp2_with (fail)
        with_reducible refine cp.mono ?_
        rintro e w4 ⟨z, hz, rfl, d4, o4⟩
        have H4 := Lib.hid (H3.out.only o4 d4)
        clear H3 d4 o4 cp
        obtain ⟨a0, a1, a2, a3⟩ := H4.out.all
        have f0 := (H4.out.fr 3).1
        have h5 := H4.out.set 3 (.int .i64 z)
        simp only [if_true, if_false, Nat.reduceEqDiff] at h5
        have H5 := Lib.hid h5
        clear H4 h5
        go_upto_region 9 with (fail)
        clear a0 a1 a2 a3 f0
        generalize w4.setCell ⟨b, 3, none⟩ (.int .i64 z) = w5 at *
        obtain ⟨a0, a1, a2, a3⟩ := H5.out.all
        obtain ⟨r0, r1', r2, r3, b0, b1, b2, b3⟩ := H5.out.rs
        have f0 := (H5.out.fr 0).2
        have f1 := (H5.out.fr 1).2
        have f2 := (H5.out.fr 2).2
        have f3 := (H5.out.fr 3).2
        have HG := Lib.hid (H5.out.give (.string t) (.int .i64 b') (.int .i64 s) (.int .i64 z))
        clear H5
        go_wp2_with (fail)
        exact bodyPost_ret (out_result HG.out.1 rfl _ rfl) rfl ⟨⟨t, b', s, z⟩, rfl, ⟨by have := HO.out; simp only; omega, fun h => by have := HO.out; unfold Ot.Ok at h; simp only at h ⊢; omega⟩, HG.out.2.1, HG.out.2.2⟩
      · have t2 : ((q : Int) == 2) = false := by simp; omega
        clear h0 h1 h2 hq
        obtain ⟨a0, a1, a2, a3⟩ := H2.out.all
        obtain ⟨r0, r1', r2, r3, b0, b1, b2, b3⟩ := H2.out.rs
        have f0 := (H2.out.fr 0).2
        have f1 := (H2.out.fr 1).2
        have f2 := (H2.out.fr 2).2
        have f3 := (H2.out.fr 3).2
        have HG := Lib.hid (H2.out.give (.string t) (.int .i64 b') (.int .i64 s) (.int .i64 r))
        clear H2
        go_wp2_with (fail)
        exact bodyPost_ret (out_result HG.out.1 rfl _ rfl) rfl ⟨⟨t, b', s, r⟩, rfl, ⟨by have := HO.out; simp only; omega, fun h => by have := HO.out; unfold Ot.Ok at h; simp only at h ⊢; omega⟩, HG.out.2.1, HG.out.2.2⟩


set_option maxRecDepth 100000 in
set_option maxHeartbeats 4000000 in
theorem draw_accept (v : Value) (n : Nat) (w : World) (hv : RdB w v n) (hn : n ≤ 1048576) :
    Calls Try.prog 18 #[v] w fun e w' => ∃ (o : Ot) (x : ByteArray), e = .returned (.tuple #[.agg #[.string o.text, .int .i64 o.base, .int .i64 o.sent, .int .i64 o.room], .string x]) ∧ o.text.size ≤ 200 ∧ x.size ≤ 60 ∧ (o.Ok → o.base ≤ 1000) ∧ Below w.heap.size w w' := by
  have hb0 := below_new w (.cells #[.string ⟨#[]⟩, .int .i64 0, .int .i64 0, .int .i64 0] 33)
  have hC0 := Cel.new w 33 #[.string ⟨#[]⟩, .int .i64 0, .int .i64 0, .int .i64 0]
  have cN := new_dr v n _ (hv.below hb0 hv.lt) hn
  have H0 := Lib.hid (And.intro hb0 hC0)
  clear hb0 hC0
  go_enter Try.func18, Try.ntmps18
  go_upto_region 1 with (fail)
  have hs0 : (w.alloc (.cells #[.string ⟨#[]⟩, .int .i64 0, .int .i64 0, .int .i64 0] 33)).heap.size = w.heap.size + 1 := by simp
  rw [hs0] at cN
  generalize w.alloc (.cells #[.string ⟨#[]⟩, .int .i64 0, .int .i64 0, .int .i64 0] 33) = w0 at *
  go_wp2_with (fail)
  with_reducible refine cN.mono ?_
  rintro e w1 ⟨rfl, d1, b1⟩
  rw [← hs0] at b1
  have hB1 := Below.then_ H0.out.1 b1
  have hC1 := H0.out.2.kept b1
  have hz1 := d1.blk
  obtain ⟨g, hg⟩ : ∃ g, w.heap.size + 1 = g := ⟨_, rfl⟩
  have hgw : w.heap.size < g := by omega
  rw [hg] at d1 hz1 ⊢
  have H1 := Lib.hid (And.intro hB1 hC1)
  clear H0 b1 hB1 hC1 hs0 hg cN
  go_wp2_with (fail)
  with_reducible refine (any_out_dr g v n _ d1).mono ?_
  rintro e w2 ⟨o, rfl, ⟨ho1, ho2⟩, d2, o2⟩
  have hB2 := o2.chain H1.out.1 (by omega) (by omega)
  have hC2 := H1.out.2.grew o2 (by omega)
  have hz2 := d2.blk
  have H2 := Lib.hid (And.intro hB2 (And.intro hC2 (And.intro ho1 ho2)))
  clear H1 d1 o2 hB2 hC2 hz1 ho1 ho2
  go_wp2_with (fail)
  with_reducible refine (qbel g v n 60 60 rfl _ d2 (by omega) (by omega)).mono ?_
  rintro e w3 ⟨k, hk, rfl, d3, o3⟩
  have hB3 := o3.grew.chain H2.out.1 (by omega) (by omega)
  have hC3 := H2.out.2.1.only o3 (by omega)
  have hz3 := d3.blk
  have ct := fun W h => qtext g v n k k rfl W h (by omega)
  generalize (k : Int) = ki at *
  have H3 := Lib.hid (And.intro hB3 (And.intro hC3 H2.out.2.2))
  clear H2 d2 o3 hB3 hC3 hz2
  go_wp2_with (fail)
  with_reducible refine (ct _ d3).mono ?_
  rintro e w4 ⟨x, hx, rfl, d4, o4⟩
  have hB4 := o4.chain H3.out.1 (by omega) (by omega)
  have hC4 := H3.out.2.1.grew o4 (by omega)
  obtain ⟨b0, b1, b2, b3⟩ := cel4 hC4
  have f0 := hC4.frozen 0
  have f1 := hC4.frozen 1
  have f2 := hC4.frozen 2
  have f3 := hC4.frozen 3
  have hB5 := (((hB4.setCell (p := ⟨w.heap.size, 0, none⟩) (Nat.le_refl _) (.string o.text)).setCell (p := ⟨w.heap.size, 1, none⟩) (Nat.le_refl _) (.int .i64 o.base)).setCell (p := ⟨w.heap.size, 2, none⟩) (Nat.le_refl _) (.int .i64 o.sent)).setCell (p := ⟨w.heap.size, 3, none⟩) (Nat.le_refl _) (.int .i64 o.room)
  have hC5 := (((hC4.set 0 (.string o.text)).set 1 (.int .i64 o.base)).set 2 (.int .i64 o.sent)).set 3 (.int .i64 o.room)
  simp only [List.setIfInBounds_toArray, List.set_cons_zero, List.set_cons_succ] at hC5
  have HG := Lib.hid (And.intro hC5 (And.intro hB5 H3.out.2.2))
  clear H3 d3 o4 hB4 hC4 hz3 d4 ct hB5 hC5
  go_wp2_with (fail)
  exact bodyPost_ret (out_result2 HG.out.1 rfl _ rfl) rfl ⟨o, x, rfl, HG.out.2.2.1, by omega, HG.out.2.2.2, HG.out.2.1⟩
end Go.Proofs.Ytdajfnonehianaa
