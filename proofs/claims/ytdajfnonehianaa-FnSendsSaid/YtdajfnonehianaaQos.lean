import Derived.Test.YtdajfnonehianaaQok
namespace Go.Proofs.Ytdajfnonehianaa
open Go.RowKit

set_option maxRecDepth 100000 in
theorem spec_outOk (o : Ot) (w : World) (hs : o.text.size ≤ 281474976710656) :
    Calls Try.prog 20 #[.agg #[.string o.text, .int .i64 o.base, .int .i64 o.sent, .int .i64 o.room]] w fun e w' => e = .returned (.bool (decide o.Ok)) ∧ Below w.heap.size w w' := by
  obtain ⟨t, b, s, r⟩ := o
  simp only at hs
  have HB := Lib.hid (below_new w (.cells #[.string t, .int .i64 b, .int .i64 s, .int .i64 r] 33))
  have c1 := fun W => spec_in b 0 1000000000 W
  have c2 := fun W => spec_in r 1 200 W
  by_cases h1 : 0 ≤ b ∧ b ≤ 1000000000
  · rw [decide_eq_true h1] at c1
    by_cases h2 : 1 ≤ r ∧ r ≤ 200
    · rw [decide_eq_true h2] at c2
      by_cases h3 : (t.size : Int) ≤ r
      · have e1 : IntKind.i64.wrap (b + (t.size : Int)) = b + (t.size : Int) := IntWalk.i64_in _ (by omega)
        obtain ⟨en, hen⟩ : ∃ en, b + (t.size : Int) = en := ⟨_, rfl⟩
        have c3 := fun W => spec_in s b en W
        have e2 : decide (Ot.Ok (Ot.mk t b s r)) = decide (b ≤ s ∧ s ≤ en) := decide_eq_decide.2 (by unfold Ot.Ok; simp only; omega)
        rw [e2]
        have e3 : IntKind.i64.wrap (b + (t.size : Int)) = en := e1.trans hen
        generalize decide (b ≤ s ∧ s ≤ en) = res at *
        clear h1 h2 e1 e2 hs hen
        go_enter Try.func20, Try.ntmps20
        go_wp2_with (fail)
        with_reducible refine (c1 _).mono ?_
        rintro e w1 ⟨rfl, rfl⟩
        go_wp2_with (fail)
        with_reducible refine (c2 _).mono ?_
        rintro e w1 ⟨rfl, rfl⟩
        go_wp2_with (fail)
        with_reducible refine (c3 _).mono ?_
        rintro e w1 ⟨rfl, rfl⟩
        go_wp2_with (fail)
        go_ret
        exact ⟨rfl, HB.out⟩
      · rw [decide_eq_false (p := Ot.Ok (Ot.mk t b s r)) (fun h => by unfold Ot.Ok at h; simp only at h; omega)]
        have q3 : r < (t.size : Int) := by omega
        clear h1 h2
        go_enter Try.func20, Try.ntmps20
        go_wp2_with (fail)
        with_reducible refine (c1 _).mono ?_
        rintro e w1 ⟨rfl, rfl⟩
        go_wp2_with (fail)
        with_reducible refine (c2 _).mono ?_
        rintro e w1 ⟨rfl, rfl⟩
        go_wp2_with (fail)
        go_ret
        exact ⟨rfl, HB.out⟩
    · rw [decide_eq_false h2] at c2
      rw [decide_eq_false (p := Ot.Ok (Ot.mk t b s r)) (fun h => by unfold Ot.Ok at h; simp only at h; omega)]
      clear h1 h2
      go_enter Try.func20, Try.ntmps20
      go_wp2_with (fail)
      with_reducible refine (c1 _).mono ?_
      rintro e w1 ⟨rfl, rfl⟩
      go_wp2_with (fail)
      with_reducible refine (c2 _).mono ?_
      rintro e w1 ⟨rfl, rfl⟩
      go_wp2_with (fail)
      go_ret
      exact ⟨rfl, HB.out⟩
  · rw [decide_eq_false h1] at c1
    rw [decide_eq_false (p := Ot.Ok (Ot.mk t b s r)) (fun h => by unfold Ot.Ok at h; simp only at h; omega)]
    clear h1
    go_enter Try.func20, Try.ntmps20
    go_wp2_with (fail)
    with_reducible refine (c1 _).mono ?_
    rintro e w1 ⟨rfl, rfl⟩
    go_wp2_with (fail)
    go_ret
    exact ⟨rfl, HB.out⟩

set_option maxRecDepth 100000 in
set_option maxHeartbeats 4000000 in
theorem spec_next (o : Ot) (w : World) (hs : o.text.size ≤ 100000000000) :
    Calls Try.prog 30 #[.agg #[.string o.text, .int .i64 o.base, .int .i64 o.sent, .int .i64 o.room]] w fun e w' => e = .returned (.tuple #[.agg #[.int .i64 (nxt o).1.pos, .string (nxt o).1.text], .bool (nxt o).2]) ∧ Below w.heap.size w w' := by
  obtain ⟨t, b, s, r⟩ := o
  simp only at hs
  have HX := Lib.hid (Bp.new w (.string t) (.int .i64 b) (.int .i64 s) (.int .i64 r))
  have cO := fun W => spec_outOk ⟨t, b, s, r⟩ W (by simp only; omega)
  simp only at cO
  unfold nxt
  by_cases hok : Ot.Ok (Ot.mk t b s r)
  · rw [decide_eq_true hok] at cO
    have hok' := hok
    unfold Ot.Ok at hok'
    simp only at hok' ⊢
    obtain ⟨en, hen⟩ : ∃ en, b + (t.size : Int) = en := ⟨_, rfl⟩
    have e2 : IntKind.i64.wrap (b + (t.size : Int)) = en := by rw [IntWalk.i64_in _ (by omega)]; exact hen
    rw [hen]
    by_cases hm : s = en
    · rw [if_neg (fun h => h.2 hm)]
      have q1 : (s == en) = true := by simp [hm]
      clear hok hok' hs hen hm
      go_enter Try.func30, Try.ntmps30
      go_upto_region 1 with (fail)
      generalize (w.alloc _).alloc _ = w0 at *
      obtain ⟨a0, a1, a2, a3⟩ := HX.out.all
      go_wp2_with (fail)
      with_reducible refine (cO _).mono ?_
      rintro e w1 ⟨rfl, hb_w1⟩
      have H1 := Lib.hid (HX.out.kept hb_w1)
      clear hb_w1 HX
      clear a0 a1 a2 a3
      obtain ⟨a0, a1, a2, a3⟩ := H1.out.all
      clear a0 a1 a2 a3
      obtain ⟨a0, a1, a2, a3⟩ := H1.out.all
      obtain ⟨r0, r1, b0, b1, f0, f1⟩ := H1.out.rs
      have HG := Lib.hid (H1.out.give (.int .i64 0) (.string ⟨#[]⟩))
      clear H1
      go_wp2_with (fail)
      exact bodyPost_ret (pc_result2 HG.out.1 rfl _ rfl) rfl ⟨rfl, HG.out.2.1⟩
    · rw [if_pos ⟨hok, hm⟩]
      have q1 : (s == en) = false := by simp [hm]
      have hsl := cut_from t (s - b) (by omega) (by omega)
      have hzz := cut_size t (s - b).toNat t.size
      obtain ⟨y, hy⟩ : ∃ y, t.extract (s - b).toNat t.size = y := ⟨_, rfl⟩
      rw [hy] at hsl hzz ⊢
      obtain ⟨d, hd⟩ : ∃ d, s - b = d := ⟨_, rfl⟩
      have e4 : IntKind.i64.wrap (s - b) = d := by rw [IntWalk.i64_in _ (by omega)]; exact hd
      rw [hd] at hsl
      clear hok hok' hen hm hy hd
      by_cases hlt : (20 : Int) < (y.size : Int)
      · have hst := cut_to y 20 (by omega) (by omega)
        have hf : firstOf y 20 = y.extract 0 (20 : Int).toNat := by unfold firstOf; rw [Int.min_eq_left (by omega)]
        rw [hf]
        generalize y.extract 0 (20 : Int).toNat = u at *
        clear hf hzz hs
        go_enter Try.func30, Try.ntmps30
        go_upto_region 1 with (fail)
        generalize (w.alloc _).alloc _ = w0 at *
        obtain ⟨a0, a1, a2, a3⟩ := HX.out.all
        go_wp2_with (fail)
        with_reducible refine (cO _).mono ?_
        rintro e w1 ⟨rfl, hb_w1⟩
        have H1 := Lib.hid (HX.out.kept hb_w1)
        clear hb_w1 HX
        clear a0 a1 a2 a3
        obtain ⟨a0, a1, a2, a3⟩ := H1.out.all
        clear a0 a1 a2 a3
        obtain ⟨a0, a1, a2, a3⟩ := H1.out.all
        obtain ⟨r0, r1, b0, b1, f0, f1⟩ := H1.out.rs
        have HG := Lib.hid (H1.out.give (.int .i64 s) (.string u))
        clear H1
        go_wp2_with (fail)
        exact bodyPost_ret (pc_result2 HG.out.1 rfl _ rfl) rfl ⟨rfl, HG.out.2.1⟩
      · rw [firstOf_all y 20 (by omega)]
        clear hzz hs
        go_enter Try.func30, Try.ntmps30
        go_upto_region 1 with (fail)
        generalize (w.alloc _).alloc _ = w0 at *
        obtain ⟨a0, a1, a2, a3⟩ := HX.out.all
        go_wp2_with (fail)
        with_reducible refine (cO _).mono ?_
        rintro e w1 ⟨rfl, hb_w1⟩
        have H1 := Lib.hid (HX.out.kept hb_w1)
        clear hb_w1 HX
        clear a0 a1 a2 a3
        obtain ⟨a0, a1, a2, a3⟩ := H1.out.all
        clear a0 a1 a2 a3
        obtain ⟨a0, a1, a2, a3⟩ := H1.out.all
        obtain ⟨r0, r1, b0, b1, f0, f1⟩ := H1.out.rs
        have HG := Lib.hid (H1.out.give (.int .i64 s) (.string y))
        clear H1
        go_wp2_with (fail)
        exact bodyPost_ret (pc_result2 HG.out.1 rfl _ rfl) rfl ⟨rfl, HG.out.2.1⟩
  · rw [decide_eq_false hok] at cO
    rw [if_neg (fun h => hok h.1)]
    clear hok hs
    go_enter Try.func30, Try.ntmps30
    go_upto_region 1 with (fail)
    generalize (w.alloc _).alloc _ = w0 at *
    obtain ⟨a0, a1, a2, a3⟩ := HX.out.all
    go_wp2_with (fail)
    with_reducible refine (cO _).mono ?_
    rintro e w1 ⟨rfl, hb_w1⟩
    have H1 := Lib.hid (HX.out.kept hb_w1)
    clear hb_w1 HX
    clear a0 a1 a2 a3
    obtain ⟨a0, a1, a2, a3⟩ := H1.out.all
    clear a0 a1 a2 a3
    obtain ⟨a0, a1, a2, a3⟩ := H1.out.all
    obtain ⟨r0, r1, b0, b1, f0, f1⟩ := H1.out.rs
    have HG := Lib.hid (H1.out.give (.int .i64 0) (.string ⟨#[]⟩))
    clear H1
    go_wp2_with (fail)
    exact bodyPost_ret (pc_result2 HG.out.1 rfl _ rfl) rfl ⟨rfl, HG.out.2.1⟩

set_option maxRecDepth 100000 in
set_option maxHeartbeats 4000000 in
theorem spec_was (o : Ot) (w : World) (hs : o.text.size ≤ 100000000000) :
    Calls Try.prog 32 #[.agg #[.string o.text, .int .i64 o.base, .int .i64 o.sent, .int .i64 o.room]] w fun e w' => e = .returned (.agg #[.string (was o).text, .int .i64 (was o).base, .int .i64 (was o).sent, .int .i64 (was o).room]) ∧ Below w.heap.size w w' := by
  have cN := fun W => spec_next o W hs
  have hz := nxt_size o
  have hw : ((nxt o).2 = true ∧ IntKind.i64.wrap (o.sent + ((nxt o).1.text.size : Int)) = o.sent + ((nxt o).1.text.size : Int)) ∨ ((nxt o).2 = false ∧ (nxt o).1.text.size = 0) := by
    unfold nxt at hz ⊢
    split at hz
    · rename_i h
      rw [if_pos h]
      have h2 := h.1
      unfold Ot.Ok at h2
      simp only at hz ⊢
      exact .inl ⟨trivial, IntWalk.i64_in _ (by omega)⟩
    · rename_i h
      rw [if_neg h]
      exact .inr ⟨rfl, rfl⟩
  unfold was
  generalize nxt o = np at *
  obtain ⟨⟨pp, pt⟩, pb⟩ := np
  simp only at cN hw hz ⊢
  obtain ⟨t, b, s, r⟩ := o
  simp only at hs hw cN ⊢
  have HX := Lib.hid (Bx.new w (.string t) (.int .i64 b) (.int .i64 s) (.int .i64 r))
  clear hs hz
  rcases hw with ⟨rfl, hw⟩ | ⟨rfl, hw⟩
  · obtain ⟨sn, hsn⟩ : ∃ sn, s + (pt.size : Int) = sn := ⟨_, rfl⟩
    have hw2 : IntKind.i64.wrap (s + (pt.size : Int)) = sn := hw.trans hsn
    rw [hsn]
    clear hw hsn
    go_enter Try.func32, Try.ntmps32
    go_upto_region 1 with (fail)
    generalize (w.alloc _).alloc _ = w0 at *
    obtain ⟨a0, a1, a2, a3⟩ := HX.out.all
    go_wp2_with (fail)
    with_reducible refine (cN _).mono ?_
    rintro e w1 ⟨rfl, hb1⟩
    have h1 := HX.out.kept hb1
    have hN := Cel.new w1 41 #[.int .i64 pp, .string pt]
    have hbn := below_new w1 (.cells #[.int .i64 pp, .string pt] 41)
    have K2 := Lib.hid (And.intro (h1.kept hbn) hN)
    clear HX hb1 h1 hN hbn a0 a1 a2 a3 cN
    go_upto_region 2 with (fail)
    obtain ⟨g, hg⟩ : ∃ g, w1.heap.size = g := ⟨_, rfl⟩
    rw [hg] at K2 ⊢
    generalize w1.alloc (.cells #[.int .i64 pp, .string pt] 41) = w2 at *
    clear hg
    obtain ⟨p0, p1⟩ := cel2 K2.out.2
    have H2 := Lib.hid K2.out.1
    clear K2
    obtain ⟨a0, a1, a2, a3⟩ := H2.out.all
    go_upto_region 3 with (fail)
    have fz := (H2.out.fr 2).1
    have hset := H2.out.set 2 (.int .i64 sn)
    simp only [if_true, if_false, Nat.reduceEqDiff] at hset
    have H3 := Lib.hid hset
    clear H2 hset
    go_upto_region 4 with (fail)
    clear fz a0 a1 a2 a3
    generalize w2.setCell ⟨w.heap.size, 2, none⟩ (.int .i64 sn) = w3 at *
    obtain ⟨a0, a1, a2, a3⟩ := H3.out.all
    clear p0 p1 hw2
    clear a0 a1 a2 a3
    obtain ⟨a0, a1, a2, a3⟩ := H3.out.all
    obtain ⟨r0, r1, r2, r3, b0, b1, b2, b3⟩ := H3.out.rs
    have f0 := (H3.out.fr 0).2
    have f1 := (H3.out.fr 1).2
    have f2 := (H3.out.fr 2).2
    have f3 := (H3.out.fr 3).2
    have HG := Lib.hid (H3.out.give (.string t) (.int .i64 b) (.int .i64 sn) (.int .i64 r))
    clear H3
    go_wp2_with (fail)
    exact bodyPost_ret (out_result HG.out.1 rfl _ rfl) rfl ⟨rfl, HG.out.2⟩
  · rw [show s + (pt.size : Int) = s by omega]
    clear hw
    go_enter Try.func32, Try.ntmps32
    go_upto_region 1 with (fail)
    generalize (w.alloc _).alloc _ = w0 at *
    obtain ⟨a0, a1, a2, a3⟩ := HX.out.all
    go_wp2_with (fail)
    with_reducible refine (cN _).mono ?_
    rintro e w1 ⟨rfl, hb1⟩
    have h1 := HX.out.kept hb1
    have hN := Cel.new w1 41 #[.int .i64 pp, .string pt]
    have hbn := below_new w1 (.cells #[.int .i64 pp, .string pt] 41)
    have K2 := Lib.hid (And.intro (h1.kept hbn) hN)
    clear HX hb1 h1 hN hbn a0 a1 a2 a3 cN
    go_upto_region 2 with (fail)
    obtain ⟨g, hg⟩ : ∃ g, w1.heap.size = g := ⟨_, rfl⟩
    rw [hg] at K2 ⊢
    generalize w1.alloc (.cells #[.int .i64 pp, .string pt] 41) = w2 at *
    clear hg
    obtain ⟨p0, p1⟩ := cel2 K2.out.2
    have H2 := Lib.hid K2.out.1
    clear K2
    obtain ⟨a0, a1, a2, a3⟩ := H2.out.all
    clear p0 p1
    clear a0 a1 a2 a3
    obtain ⟨a0, a1, a2, a3⟩ := H2.out.all
    obtain ⟨r0, r1, r2, r3, b0, b1, b2, b3⟩ := H2.out.rs
    have f0 := (H2.out.fr 0).2
    have f1 := (H2.out.fr 1).2
    have f2 := (H2.out.fr 2).2
    have f3 := (H2.out.fr 3).2
    have HG := Lib.hid (H2.out.give (.string t) (.int .i64 b) (.int .i64 s) (.int .i64 r))
    clear H2
    go_wp2_with (fail)
    exact bodyPost_ret (out_result HG.out.1 rfl _ rfl) rfl ⟨rfl, HG.out.2⟩
end Go.Proofs.Ytdajfnonehianaa
