import Derived.Test.YtihogaabojnbpaaDgw
import Derived.Test.YtihogaabojnbpaaBig
import Derived.Test.YtihogaabojnbpaaGtb
import Derived.Test.YtihogaabojnbpaaGtv
namespace Go.Proofs.Ytihogaabojnbpaa
open Go.RowKit

theorem Gd.give {w W : World} {g n bx : Nat} {v x y z : Value} (h : Gd 25 #[.int .i64 0, .int .i64 0, .int .i64 0] #[x, y, z] w W g v n bx) (a b c : Value) :
    Cel (((W.setCell ⟨w.heap.size, 0, none⟩ a).setCell ⟨w.heap.size, 1, none⟩ b).setCell ⟨w.heap.size, 2, none⟩ c) w.heap.size 25 #[a, b, c] ∧ Dr (((W.setCell ⟨w.heap.size, 0, none⟩ a).setCell ⟨w.heap.size, 1, none⟩ b).setCell ⟨w.heap.size, 2, none⟩ c) g v n ∧ Grew g w (((W.setCell ⟨w.heap.size, 0, none⟩ a).setCell ⟨w.heap.size, 1, none⟩ b).setCell ⟨w.heap.size, 2, none⟩ c) := by
  have hB : Below w.heap.size W (((W.setCell ⟨w.heap.size, 0, none⟩ a).setCell ⟨w.heap.size, 1, none⟩ b).setCell ⟨w.heap.size, 2, none⟩ c) :=
    (((Below.refl _ _).setCell (p := ⟨w.heap.size, 0, none⟩) (Nat.le_refl _) _).setCell (p := ⟨w.heap.size, 1, none⟩) (Nat.le_refl _) _).setCell (p := ⟨w.heap.size, 2, none⟩) (Nat.le_refl _) _
  refine ⟨?_, h.d.below hB h.hg, h.gr.then hB⟩
  have := ((h.c.set 0 a).set 1 b).set 2 c
  simpa using this

set_option maxHeartbeats 4000000 in
set_option maxRecDepth 100000 in
theorem bucket_dr (g : Nat) (v : Value) (n : Nat) (w : World) (hd : Dr w g v n) :
    Calls Try.prog 54 #[.pointer (some ⟨g, 0, none⟩)] w fun e w' => ∃ b : Bt, e = .returned (.agg #[.int .i64 b.rate, .int .i64 b.burst, .int .i64 b.hav]) ∧ Dr w' g v n ∧ Grew g w w' := by
  have hg := hd.blk
  have hb0 := below_new w (.cells #[.int .i64 0, .int .i64 0, .int .i64 0] 25)
  have hd0 := hd.kept hb0
  have c4 := fun W h => bel_dr g v n 4 4 rfl W h (by omega) (by omega)
  have c6 := fun W h => bel_dr g v n 6 6 rfl W h (by omega) (by omega)
  have HE := Lib.hid (And.intro (Cel.new w 25 #[.int .i64 0, .int .i64 0, .int .i64 0]) (Grew.then (Grew.refl g w) hb0))
  clear hb0 hd
  go_enter Try.func54, Try.ntmps54
  go_wp2_with (fail)
  with_reducible refine (c4 _ hd0).mono ?_
  rintro e w1 ⟨r, hr, rfl, d1, o1⟩
  have HE1 := Lib.hid (And.intro (HE.out.1.only o1 (by omega)) (HE.out.2.only o1))
  clear HE o1 hd0 c4
  go_wp2_with (fail)
  with_reducible refine (c6 _ d1).mono ?_
  rintro e w2 ⟨u, hu, rfl, d2, o2⟩
  have HE2 := Lib.hid (And.intro (HE1.out.1.only o2 (by omega)) (HE1.out.2.only o2))
  clear HE1 o2 d1 c6
  have e1 : IntKind.i64.wrap (1 + (u : Int)) = ((1 + u : Nat) : Int) := by rw [IntWalk.i64_in _ (by omega)]; omega
  have e2 : IntKind.i64.wrap (((1 + u : Nat) : Int) + 1) = ((1 + u + 1 : Nat) : Int) := by rw [IntWalk.i64_in _ (by omega)]; omega
  have cK := fun W h => bel_dr g v n (1 + u + 1) ((1 + u + 1 : Nat) : Int) rfl W h (by omega) (by omega)
  generalize ((1 + u + 1 : Nat) : Int) = k2 at *
  generalize ((1 + u : Nat) : Int) = k1 at *
  have hz1 : w.heap.size < w2.heap.size := HE2.out.1.lt
  have P1 : Gd 25 #[.int .i64 0, .int .i64 0, .int .i64 0] #[.int .i64 (r : Int), .int .i64 k1, .int .i64 0] w (w2.alloc (.cells #[.int .i64 (r : Int), .int .i64 k1, .int .i64 0] 25)) g v n w2.heap.size :=
    have hbq := below_new w2 (.cells #[.int .i64 (r : Int), .int .i64 k1, .int .i64 0] 25)
    ⟨HE2.out.1.kept hbq, Cel.new w2 25 _, d2.kept hbq, HE2.out.2.then (hbq.mono (by omega)), hz1, hg⟩
  have HP := Lib.hid P1
  have d3 := P1.d
  obtain ⟨a0, a1, a2⟩ := cel3b P1.b
  clear P1 d2 HE2 hr hu hz1
  go_upto_region 2 with (fail)
  generalize hbx : w2.heap.size = bx at *
  generalize w2.alloc _ = w3 at *
  clear hbx
  go_wp2_with (fail)
  with_reducible refine (cK _ d3).mono ?_
  rintro e w4 ⟨h, hh, rfl, d4, o4⟩
  have HP4 := Lib.hid (HP.out.only o4 d4)
  clear HP o4 d3 d4 cK a0 a1 a2 hh
  obtain ⟨a0, a1, a2⟩ := cel3b HP4.out.b
  have fz := HP4.out.b.frozen 2
  have hset := HP4.out.set 2 (.int .i64 (h : Int))
  simp only [List.setIfInBounds_toArray, List.set_cons_zero, List.set_cons_succ] at hset
  have HP5 := Lib.hid hset
  clear HP4 hset
  go_upto_region 3 with (fail)
  clear a0 a1 a2 fz
  generalize w4.setCell ⟨bx, 2, none⟩ (.int .i64 (h : Int)) = w5 at *
  obtain ⟨r0, r1, r2⟩ := cel3b HP5.out.c
  have f0 := HP5.out.c.frozen 0
  have f1 := HP5.out.c.frozen 1
  have f2 := HP5.out.c.frozen 2
  obtain ⟨q0, q1, q2⟩ := cel3b HP5.out.b
  have hne : ¬ w.heap.size = bx := by have := HP5.out.lt; omega
  have HG := Lib.hid (HP5.out.give (.int .i64 (r : Int)) (.int .i64 k1) (.int .i64 (h : Int)))
  clear HP5
  go_wp2_with (fail)
  exact bodyPost_ret (bt_result HG.out.1 rfl _ rfl) rfl ⟨⟨(r : Int), k1, (h : Int)⟩, rfl, HG.out.2.1, HG.out.2.2⟩

set_option maxHeartbeats 4000000 in
set_option maxRecDepth 100000 in
theorem anyb_dr (g : Nat) (v : Value) (n : Nat) (w : World) (hd : Dr w g v n) :
    Calls Try.prog 40 #[.pointer (some ⟨g, 0, none⟩)] w fun e w' => ∃ b : Bt, e = .returned (.agg #[.int .i64 b.rate, .int .i64 b.burst, .int .i64 b.hav]) ∧ Dr w' g v n ∧ Grew g w w' := by
  have hg := hd.blk
  have hb0 := below_new w (.cells #[.int .i64 0, .int .i64 0, .int .i64 0] 25)
  have hd0 := hd.kept hb0
  have cB := fun W h => bucket_dr g v n W h
  have c10 := fun W h => bel_dr g v n 10 10 rfl W h (by omega) (by omega)
  have HE := Lib.hid (And.intro (Cel.new w 25 #[.int .i64 0, .int .i64 0, .int .i64 0]) (Grew.then (Grew.refl g w) hb0))
  clear hb0 hd
  go_enter Try.func40, Try.ntmps40
  go_wp2_with (fail)
  with_reducible refine (cB _ hd0).mono ?_
  rintro e w1 ⟨⟨x, y, z⟩, rfl, d1, g1⟩
  have hz1 : w.heap.size < w1.heap.size := (HE.out.1.grew g1 (by omega)).lt
  have P1 : Gd 25 #[.int .i64 0, .int .i64 0, .int .i64 0] #[.int .i64 x, .int .i64 y, .int .i64 z] w (w1.alloc (.cells #[.int .i64 x, .int .i64 y, .int .i64 z] 25)) g v n w1.heap.size :=
    have hbq := below_new w1 (.cells #[.int .i64 x, .int .i64 y, .int .i64 z] 25)
    ⟨(HE.out.1.grew g1 (by omega)).kept hbq, Cel.new w1 25 _, d1.kept hbq, (HE.out.2.trans g1).then (hbq.mono (by omega)), hz1, hg⟩
  have HP := Lib.hid P1
  have d3 := P1.d
  clear P1 d1 g1 HE cB hd0 hz1
  go_upto_region 2 with (fail)
  generalize hbx : w1.heap.size = bx at *
  generalize w1.alloc _ = w3 at *
  clear hbx
  go_wp2_with (fail)
  with_reducible refine (c10 _ d3).mono ?_
  rintro e w4 ⟨r, hr, rfl, d4, o4⟩
  have HP4 := Lib.hid (HP.out.only o4 d4)
  clear HP o4 d3 c10
  by_cases h0 : r = 0
  · subst h0
    have hb5 := below_ints w4 #[.int .i64 (-1), .int .i64 100, .int .i64 101]
    have HP5 := Lib.hid (HP4.out.kept hb5)
    have cp := pick_mem g v n _ HP5.out.d w4.heap.size 3 3 _ [-1, 100, 101] rfl rfl (Cel.new w4 3 #[.int .i64 (-1), .int .i64 100, .int .i64 101]) (by have := d4.blk; omega) (by omega) (by omega)
    clear HP4 d4 hb5 hr
    go_wp2_with (fail)
    with_reducible refine cp.mono ?_
    rintro e w6 ⟨zz, -, rfl, d6, o6⟩
    have HP6 := Lib.hid (HP5.out.only o6 d6)
    obtain ⟨a0, a1, a2⟩ := cel3b HP6.out.b
    have fz := HP6.out.b.frozen 0
    have hset := HP6.out.set 0 (.int .i64 zz)
    simp only [List.setIfInBounds_toArray, List.set_cons_zero] at hset
    have HP7 := Lib.hid hset
    clear cp d6 o6 HP5 HP6 hset
    go_upto_region 9 with (fail)
    clear a0 a1 a2 fz
    generalize w6.setCell ⟨bx, 0, none⟩ (.int .i64 zz) = w7 at *
    obtain ⟨r0, r1, r2⟩ := cel3b HP7.out.c
    have f0 := HP7.out.c.frozen 0
    have f1 := HP7.out.c.frozen 1
    have f2 := HP7.out.c.frozen 2
    obtain ⟨q0, q1, q2⟩ := cel3b HP7.out.b
    have hne : ¬ w.heap.size = bx := by have := HP7.out.lt; omega
    have HG := Lib.hid (HP7.out.give (.int .i64 zz) (.int .i64 y) (.int .i64 z))
    clear HP7
    go_wp2_with (fail)
    exact bodyPost_ret (bt_result HG.out.1 rfl _ rfl) rfl ⟨⟨zz, y, z⟩, rfl, HG.out.2.1, HG.out.2.2⟩
  · have q0 : ((r : Int) == 0) = false := by simp; omega
    by_cases h1 : r = 1
    · subst h1
      have hb5 := below_ints w4 #[.int .i64 (-1), .int .i64 101, .int .i64 7]
      have HP5 := Lib.hid (HP4.out.kept hb5)
      have cp := pick_mem g v n _ HP5.out.d w4.heap.size 3 3 _ [-1, 101, 7] rfl rfl (Cel.new w4 3 #[.int .i64 (-1), .int .i64 101, .int .i64 7]) (by have := d4.blk; omega) (by omega) (by omega)
      clear HP4 d4 hb5 hr
      go_wp2_with (fail)
      with_reducible refine cp.mono ?_
      rintro e w6 ⟨zz, -, rfl, d6, o6⟩
      have HP6 := Lib.hid (HP5.out.only o6 d6)
      obtain ⟨a0, a1, a2⟩ := cel3b HP6.out.b
      have fz := HP6.out.b.frozen 2
      have hset := HP6.out.set 2 (.int .i64 zz)
      simp only [List.setIfInBounds_toArray, List.set_cons_zero, List.set_cons_succ] at hset
      have HP7 := Lib.hid hset
      clear cp d6 o6 HP5 HP6 hset
      go_upto_region 9 with (fail)
      clear a0 a1 a2 fz
      generalize w6.setCell ⟨bx, 2, none⟩ (.int .i64 zz) = w7 at *
      obtain ⟨r0, r1, r2⟩ := cel3b HP7.out.c
      have f0 := HP7.out.c.frozen 0
      have f1 := HP7.out.c.frozen 1
      have f2 := HP7.out.c.frozen 2
      obtain ⟨q0, q1, q2⟩ := cel3b HP7.out.b
      have hne : ¬ w.heap.size = bx := by have := HP7.out.lt; omega
      have HG := Lib.hid (HP7.out.give (.int .i64 x) (.int .i64 y) (.int .i64 zz))
      clear HP7
      go_wp2_with (fail)
      exact bodyPost_ret (bt_result HG.out.1 rfl _ rfl) rfl ⟨⟨x, y, zz⟩, rfl, HG.out.2.1, HG.out.2.2⟩
    · have q1 : ((r : Int) == 1) = false := by simp; omega
      by_cases h2 : r = 2
      · subst h2
        have hb5 := below_ints w4 #[.int .i64 0, .int .i64 100, .int .i64 101]
        have HP5 := Lib.hid (HP4.out.kept hb5)
        have cp := pick_mem g v n _ HP5.out.d w4.heap.size 3 3 _ [0, 100, 101] rfl rfl (Cel.new w4 3 #[.int .i64 0, .int .i64 100, .int .i64 101]) (by have := d4.blk; omega) (by omega) (by omega)
        clear HP4 d4 hb5 hr
        go_wp2_with (fail)
        with_reducible refine cp.mono ?_
        rintro e w6 ⟨zz, -, rfl, d6, o6⟩
        have HP6 := Lib.hid (HP5.out.only o6 d6)
        obtain ⟨a0, a1, a2⟩ := cel3b HP6.out.b
        have fz := HP6.out.b.frozen 1
        have hset := HP6.out.set 1 (.int .i64 zz)
        simp only [List.setIfInBounds_toArray, List.set_cons_zero, List.set_cons_succ] at hset
        have HP7 := Lib.hid hset
        clear cp d6 o6 HP5 HP6 hset
        go_upto_region 9 with (fail)
        clear a0 a1 a2 fz
        generalize w6.setCell ⟨bx, 1, none⟩ (.int .i64 zz) = w7 at *
        obtain ⟨r0, r1, r2⟩ := cel3b HP7.out.c
        have f0 := HP7.out.c.frozen 0
        have f1 := HP7.out.c.frozen 1
        have f2 := HP7.out.c.frozen 2
        obtain ⟨q0, q1, q2⟩ := cel3b HP7.out.b
        have hne : ¬ w.heap.size = bx := by have := HP7.out.lt; omega
        have HG := Lib.hid (HP7.out.give (.int .i64 x) (.int .i64 zz) (.int .i64 z))
        clear HP7
        go_wp2_with (fail)
        exact bodyPost_ret (bt_result HG.out.1 rfl _ rfl) rfl ⟨⟨x, zz, z⟩, rfl, HG.out.2.1, HG.out.2.2⟩
      · have q2 : ((r : Int) == 2) = false := by simp; omega
        clear d4 hr
        go_upto_region 9 with (fail)
        obtain ⟨r0, r1, r2⟩ := cel3b HP4.out.c
        have f0 := HP4.out.c.frozen 0
        have f1 := HP4.out.c.frozen 1
        have f2 := HP4.out.c.frozen 2
        obtain ⟨q0, q1, q2⟩ := cel3b HP4.out.b
        have hne : ¬ w.heap.size = bx := by have := HP4.out.lt; omega
        have HG := Lib.hid (HP4.out.give (.int .i64 x) (.int .i64 y) (.int .i64 z))
        clear HP4
        go_wp2_with (fail)
        exact bodyPost_ret (bt_result HG.out.1 rfl _ rfl) rfl ⟨⟨x, y, z⟩, rfl, HG.out.2.1, HG.out.2.2⟩

set_option maxHeartbeats 4000000 in
set_option maxRecDepth 100000 in
theorem asks_dr (g : Nat) (v : Value) (n : Nat) (w : World) (hd : Dr w g v n) :
    Calls Try.prog 41 #[.pointer (some ⟨g, 0, none⟩)] w fun e w' => ∃ (u : Value) (zs : List Int), e = .returned u ∧ OwnE intK w' w.heap.size w'.heap.size u zs ∧ zs.length ≤ 12 ∧ Dr w' g v n ∧ Grew g w w' := by
  have hg := hd.blk
  have hb0 := below_new w (.cells #[] 3)
  have hd0 := hd.kept hb0
  have hO0 : OwnE intK (w.alloc (.cells #[] 3)) w.heap.size (w.alloc (.cells #[] 3)).heap.size (.slice (some ⟨w.heap.size, 0, none⟩) 0 0) [] := eown_empty intK w
  have hG0 := Grew.then (Grew.refl g w) hb0
  have c12 := fun W h => bel_dr g v n 12 12 rfl W h (by omega) (by omega)
  have c5 := fun W h => bel_dr g v n 5 5 rfl W h (by omega) (by omega)
  clear hb0 hd
  go_enter Try.func41, Try.ntmps41
  go_wp2_with (fail)
  go_loopw [3, 4] (fun u i wr => ∃ (k : Nat) (zs : List Int), k ≤ 12 ∧ i = .int .i64 k ∧ OwnE intK wr w.heap.size wr.heap.size u zs ∧ zs.length ≤ k ∧ Dr wr g v n ∧ Grew g w wr) (fun _ i _ => 12 - (intOf i).toNat)
  case atStart => exact ⟨0, [], by omega, rfl, hO0, by simp, hd0, hG0⟩
  case round =>
    clear hO0 hd0 hG0
    obtain ⟨k, zs, hk, rfl, hO, hl, hd, hG⟩ := hrel
    have HX := Lib.hid (And.intro hO hG)
    obtain ⟨ua, uc, rfl, -⟩ := hO.form
    clear hO hG
    go_wp2_with (fail)
    with_reducible refine (c12 _ hd).mono ?_
    rintro e w1 ⟨r, hr, rfl, d1, o1⟩
    have HX1 := Lib.hid (And.intro (HX.out.1.grew o1.grew hg) (HX.out.2.only o1))
    clear HX hd o1
    by_cases hlt : k < r
    · have q : (k : Int) < (r : Int) := by omega
      go_wp2_with (fail)
      with_reducible refine (c5 _ d1).mono ?_
      rintro e w2 ⟨z, hz, rfl, d2, o2⟩
      have hbn := below_new w2 (.cells #[.int .i64 (z : Int)] 3)
      have h3 := (HX1.out.1.grew o2.grew hg).full hbn
      have g3 := (HX1.out.2.only o2).then (hbn.mono (HX1.out.2.only o2).size)
      have HX2 := Lib.hid (And.intro h3 (And.intro g3 (And.intro (d2.kept hbn) (And.intro (rd_ibox w2 (z : Int)) (show zs.length + 1 ≤ 1099511627776 by omega)))))
      obtain ⟨L', hL'⟩ : ∃ L', zs ++ [(z : Int)] = L' := ⟨_, rfl⟩
      have HL' := Lib.hid hL'
      have hl' : L'.length ≤ k + 1 := by rw [← hL']; simp; omega
      clear HX1 d1 o2 hz d2 hbn h3 g3 hL'
      go_wp2_with (at_builtin; go_loud (refine wpList_append_els intK rfl _ _ 26 26 rfl uIs uIs w.heap.size _ (.slice (some ⟨w2.heap.size, 0, none⟩) 1 1) zs [(z : Int)] rfl rfl HX2.out.1 HX2.out.2.1.size HX2.out.2.2.2.1 HX2.out.2.2.2.2 ?_; intro u' w3 hown hgrow hloc; rw [HL'.out] at hown; have hbb := (Below.refl w.heap.size _).grown hgrow HX2.out.2.1.size (fun i hi => (HX2.out.1.block i hi).1); have HZ := Lib.hid (And.intro hown (And.intro (HX2.out.2.2.1.below hbb hg) (HX2.out.2.1.then hbb))); clear hown hgrow hloc hbb; obtain ⟨ua2, uc2, rfl, -⟩ := HZ.out.1.form))
      go_roundw
      case rel => exact ⟨k + 1, L', by omega, by go_num, HZ.out.1, hl', HZ.out.2.1, HZ.out.2.2⟩
      case measure => simp [intOf]; omega
    · have q : ¬ (k : Int) < (r : Int) := by omega
      have HD := Lib.hid d1
      clear d1
      go_wp2_with (fail)
      go_ret
      exact ⟨_, zs, rfl, HX1.out.1, by omega, HD.out, HX1.out.2⟩

/-- DrawRunBucket under way: the result's block, the cursor behind it. -/
structure Dq (w W : World) (v : Value) (n : Nat) : Prop where
  c : Cel W w.heap.size 25 #[.int .i64 0, .int .i64 0, .int .i64 0]
  b : Below w.heap.size w W
  d : Dr W (w.heap.size + 1) v n
theorem Dq.kept {w W W' : World} {v : Value} {n : Nat} (h : Dq w W v n) (hb : Below W.heap.size W W') : Dq w W' v n :=
  ⟨h.c.kept hb, h.b.trans (hb.mono (Nat.le_of_lt h.c.lt)), h.d.kept hb⟩
theorem Dq.grew {w W W' : World} {v : Value} {n : Nat} (h : Dq w W v n) (hg : Grew (w.heap.size + 1) W W') (hd : Dr W' (w.heap.size + 1) v n) : Dq w W' v n :=
  ⟨h.c.grew hg (by omega), Grew.chain h.b hg (by omega) (Nat.le_of_lt h.c.lt), hd⟩

set_option maxHeartbeats 4000000 in
set_option maxRecDepth 100000 in
theorem draw_run (v : Value) (n : Nat) (w : World) (hv : RdB w v n) (hn : n ≤ 1048576) :
    Calls Try.prog 12 #[v] w fun e w' => ∃ (b : Bt) (u : Value) (zs : List Int), e = .returned (.tuple #[.agg #[.int .i64 b.rate, .int .i64 b.burst, .int .i64 b.hav], u]) ∧ OwnE intK w' w.heap.size w'.heap.size u zs ∧ zs.length ≤ 13 ∧ Below w.heap.size w w' := by
  have hb0 := below_new w (.cells #[.int .i64 0, .int .i64 0, .int .i64 0] 25)
  have hC0 := Cel.new w 25 #[.int .i64 0, .int .i64 0, .int .i64 0]
  have cN := new_dr v n _ (hv.below hb0 hv.lt) hn
  rw [World.size_alloc] at cN
  have cB := fun W h => anyb_dr (w.heap.size + 1) v n W h
  have cA := fun W h => asks_dr (w.heap.size + 1) v n W h
  have c8 := fun W h => once_dr (w.heap.size + 1) v n 8 8 rfl W h (by omega) (by omega)
  have HE := Lib.hid (And.intro hb0 hC0)
  clear hb0 hC0 hv
  go_enter Try.func12, Try.ntmps12
  go_wp2_with (fail)
  with_reducible refine cN.mono ?_
  rintro e w1 ⟨rfl, d1, hb1'⟩
  have hb1 : Below (w.alloc (.cells #[.int .i64 0, .int .i64 0, .int .i64 0] 25)).heap.size (w.alloc (.cells #[.int .i64 0, .int .i64 0, .int .i64 0] 25)) w1 := by rw [World.size_alloc]; exact hb1'
  have HD1 := Lib.hid (show Dq w w1 v n from ⟨HE.out.2.kept hb1, Below.then_ HE.out.1 hb1, d1⟩)
  clear cN hb1 hb1' HE
  go_wp2_with (fail)
  with_reducible refine (cB _ d1).mono ?_
  rintro e w2 ⟨⟨x, y, z⟩, rfl, d2, g2⟩
  have hb2 := below_new w2 (.cells #[.int .i64 x, .int .i64 y, .int .i64 z] 25)
  have HD2 := Lib.hid (And.intro ((HD1.out.grew g2 d2).kept hb2) (And.intro (Cel.new w2 25 #[.int .i64 x, .int .i64 y, .int .i64 z]) (show w.heap.size + 1 < w2.heap.size from d2.blk)))
  have d3 := HD2.out.1.d
  clear cB d1 d2 g2 hb2 HD1
  go_upto_region 3 with (fail)
  generalize hbx : w2.heap.size = bx at *
  have hbx1 : bx + 1 ≤ (w2.alloc (.cells #[.int .i64 x, .int .i64 y, .int .i64 z] 25)).heap.size := by rw [World.size_alloc, hbx]; exact Nat.le_refl _
  generalize w2.alloc _ = w3 at *
  clear hbx
  go_wp2_with (fail)
  with_reducible refine (cA _ d3).mono ?_
  rintro e w4 ⟨u, zs, rfl, hO, hl, d4, g4⟩
  have HD4 := Lib.hid (And.intro (HD2.out.1.grew g4 d4) (And.intro (HD2.out.2.1.grew g4 (by have := HD2.out.2.2; omega)) (And.intro HD2.out.2.2 (And.intro (hO.mono hbx1 (Nat.le_refl _) : OwnE intK w4 (bx + 1) w4.heap.size u zs) hl))))
  obtain ⟨ua, uc, rfl, -⟩ := hO.form
  clear cA d3 hO hl g4 HD2 hbx1
  go_wp2_with (fail)
  with_reducible refine (c8 _ d4).mono ?_
  rintro e w5 ⟨b8, rfl, d5, o5⟩
  have HD5 := Lib.hid (And.intro (HD4.out.1.grew o5.grew d5) (And.intro (HD4.out.2.1.grew o5.grew (by have := HD4.out.2.2.1; omega)) (And.intro HD4.out.2.2.1 (And.intro (HD4.out.2.2.2.1.grew o5.grew (by have := HD4.out.2.2.1; omega)) HD4.out.2.2.2.2))))
  clear c8 d4 o5 HD4
  cases b8 with
  | false =>
    have h9 := HD5.out.2.2.2.1
    clear d5
    obtain ⟨r0, r1, r2⟩ := cel3b HD5.out.1.c
    have f0 := HD5.out.1.c.frozen 0
    have f1 := HD5.out.1.c.frozen 1
    have f2 := HD5.out.1.c.frozen 2
    obtain ⟨q0, q1, q2⟩ := cel3b HD5.out.2.1
    have hne : ¬ w.heap.size = bx := by have := HD5.out.2.2.1; omega
    have hG := ((HD5.out.1.c.set 0 (.int .i64 x)).set 1 (.int .i64 y)).set 2 (.int .i64 z)
    have hB : Below w.heap.size w5 (((w5.setCell ⟨w.heap.size, 0, none⟩ (.int .i64 x)).setCell ⟨w.heap.size, 1, none⟩ (.int .i64 y)).setCell ⟨w.heap.size, 2, none⟩ (.int .i64 z)) :=
      (((Below.refl _ _).setCell (p := ⟨w.heap.size, 0, none⟩) (Nat.le_refl _) _).setCell (p := ⟨w.heap.size, 1, none⟩) (Nat.le_refl _) _).setCell (p := ⟨w.heap.size, 2, none⟩) (Nat.le_refl _) _
    have hlw : w.heap.size < bx + 1 := by have := HD5.out.2.2.1; omega
    have HG := Lib.hid (And.intro hG (And.intro (HD5.out.1.b.trans hB) (And.intro (own_other (i := 2) (own_other (i := 1) (own_other (i := 0) h9 hlw (.int .i64 x)) hlw (.int .i64 y)) hlw (.int .i64 z)) (show zs.length ≤ 13 from by have := HD5.out.2.2.2.2; omega))))
    clear HD5 hG hB h9
    go_wp2_with (fail)
    exact bodyPost_ret (bt_result2 HG.out.1 rfl _ rfl) rfl ⟨⟨x, y, z⟩, _, zs, rfl, HG.out.2.2.1.mono (Nat.le_of_lt hlw) (by simp), HG.out.2.2.2, HG.out.2.1⟩
  | true =>
    have hb6 := below_ints w5 #[.int .i64 (-1), .int .i64 20, .int .i64 21, .int .i64 9223372036854775807]
    have HD6 := Lib.hid (And.intro (HD5.out.1.kept hb6) (And.intro (HD5.out.2.1.kept hb6) (And.intro HD5.out.2.2.1 (And.intro (HD5.out.2.2.2.1.full hb6) HD5.out.2.2.2.2))))
    have cp := pick_mem (w.heap.size + 1) v n _ HD6.out.1.d w5.heap.size 4 4 _ [-1, 20, 21, 9223372036854775807] rfl rfl (Cel.new w5 3 #[.int .i64 (-1), .int .i64 20, .int .i64 21, .int .i64 9223372036854775807]) (by have := d5.blk; omega) (by omega) (by omega)
    clear HD5 d5 hb6
    go_wp2_with (fail)
    with_reducible refine cp.mono ?_
    rintro e w7 ⟨zz, -, rfl, d7, o7⟩
    have hb8 := below_new w7 (.cells #[.int .i64 zz] 3)
    have HD8 := Lib.hid (And.intro ((HD6.out.1.grew o7.grew d7).kept hb8) (And.intro ((HD6.out.2.1.grew o7.grew (by have := HD6.out.2.2.1; omega)).kept hb8) (And.intro HD6.out.2.2.1 (And.intro ((HD6.out.2.2.2.1.grew o7.grew (by have := HD6.out.2.2.1; omega)).full hb8) (And.intro HD6.out.2.2.2.2 (And.intro (rd_ibox w7 zz) (show bx + 1 ≤ (w7.alloc (.cells #[.int .i64 zz] 3)).heap.size from Nat.le_trans (HD6.out.2.1.grew o7.grew (by have := HD6.out.2.2.1; omega)).lt hb8.size)))))))
    obtain ⟨L', hL'⟩ : ∃ L', zs ++ [zz] = L' := ⟨_, rfl⟩
    have HL' := Lib.hid hL'
    have hl' : L'.length ≤ 13 := by rw [← hL']; have := HD8.out.2.2.2.2.1; simp; omega
    clear HD6 cp d7 o7 hb8 hL'
    go_upto_region 6 with (at_builtin; go_loud (refine wpList_append_els intK rfl _ _ 26 26 rfl uIs uIs (bx + 1) _ (.slice (some ⟨w7.heap.size, 0, none⟩) 1 1) zs [zz] rfl rfl HD8.out.2.2.2.1 HD8.out.2.2.2.2.2.2 HD8.out.2.2.2.2.2.1 (by have := HD8.out.2.2.2.2.1; simp; omega) ?_; intro u' w8 hown hgrow hloc; rw [HL'.out] at hown; have hbb := (Below.refl (bx + 1) _).grown hgrow HD8.out.2.2.2.2.2.2 (fun i hi => (HD8.out.2.2.2.1.block i hi).1); have hne : some bx ≠ (Value.slice ua zs.length uc).ownBlock := fun hq => (by have := (HD8.out.2.2.2.1.block bx hq.symm).1; omega); have hlt := HD8.out.2.2.1; have HD9 := Lib.hid (And.intro (show Dq w w8 v n from ⟨HD8.out.1.c.below hbb (by omega), HD8.out.1.b.trans (hbb.mono (by omega)), HD8.out.1.d.below hbb (by omega)⟩) (And.intro (HD8.out.2.1.grown hgrow hne) (And.intro HD8.out.2.2.1 (And.intro hown hl')))); clear hown hgrow hloc hbb hne hlt; obtain ⟨ua2, uc2, rfl, -⟩ := HD9.out.2.2.2.1.form; have h9 := HD9.out.2.2.2.1; clear HD8))
    obtain ⟨r0, r1, r2⟩ := cel3b HD9.out.1.c
    have f0 := HD9.out.1.c.frozen 0
    have f1 := HD9.out.1.c.frozen 1
    have f2 := HD9.out.1.c.frozen 2
    obtain ⟨q0, q1, q2⟩ := cel3b HD9.out.2.1
    have hne : ¬ w.heap.size = bx := by have := HD9.out.2.2.1; omega
    have hG := ((HD9.out.1.c.set 0 (.int .i64 x)).set 1 (.int .i64 y)).set 2 (.int .i64 z)
    have hB : Below w.heap.size w8 (((w8.setCell ⟨w.heap.size, 0, none⟩ (.int .i64 x)).setCell ⟨w.heap.size, 1, none⟩ (.int .i64 y)).setCell ⟨w.heap.size, 2, none⟩ (.int .i64 z)) :=
      (((Below.refl _ _).setCell (p := ⟨w.heap.size, 0, none⟩) (Nat.le_refl _) _).setCell (p := ⟨w.heap.size, 1, none⟩) (Nat.le_refl _) _).setCell (p := ⟨w.heap.size, 2, none⟩) (Nat.le_refl _) _
    have hlw : w.heap.size < bx + 1 := by have := HD9.out.2.2.1; omega
    have HG := Lib.hid (And.intro hG (And.intro (HD9.out.1.b.trans hB) (And.intro (own_other (i := 2) (own_other (i := 1) (own_other (i := 0) h9 hlw (.int .i64 x)) hlw (.int .i64 y)) hlw (.int .i64 z)) HD9.out.2.2.2.2)))
    clear HD9 hG hB h9
    go_wp2_with (fail)
    exact bodyPost_ret (bt_result2 HG.out.1 rfl _ rfl) rfl ⟨⟨x, y, z⟩, _, L', rfl, HG.out.2.2.1.mono (Nat.le_of_lt hlw) (by simp), HG.out.2.2.2, HG.out.2.1⟩
end Go.Proofs.Ytihogaabojnbpaa
