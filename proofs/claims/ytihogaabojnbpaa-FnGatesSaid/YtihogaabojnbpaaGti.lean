import Derived.Test.YtihogaabojnbpaaGtv
import Derived.Test.YtihogaabojnbpaaAif
import Derived.Test.YtihogaabojnbpaaTyn
import Derived.Lib.MinMax
namespace Go.Proofs.Ytihogaabojnbpaa
open Go.RowKit

set_option maxRecDepth 100000 in
set_option maxHeartbeats 1000000 in
theorem impl_state (b : Bt) (w : World) :
    Calls Try.prog 46 #[.agg #[.int .i64 b.rate, .int .i64 b.burst, .int .i64 b.hav]] w fun e w' => e = .returned (.int .i64 (stB b)) ∧ Below w.heap.size w w' := by
  obtain ⟨r, u, v⟩ := b
  have HB := Lib.hid (below_bt w ⟨r, u, v⟩)
  simp only at HB ⊢
  have c1 := fun W => impl_within r 0 100 W
  have c2 := fun W => impl_within u 1 100 W
  have c3 := fun W => impl_within v 0 u W
  by_cases h1 : 0 ≤ r ∧ r ≤ 100
  · rw [decide_eq_true h1] at c1
    by_cases h2 : 1 ≤ u ∧ u ≤ 100
    · rw [decide_eq_true h2] at c2
      by_cases h3 : 0 ≤ v ∧ v ≤ u
      · rw [decide_eq_true h3] at c3
        have hok : Bt.Ok ⟨r, u, v⟩ := ⟨h1.1, h1.2, h2.1, h2.2, h3.1, h3.2⟩
        unfold stB
        rw [if_pos hok]
        by_cases hv : v = 0
        · rw [if_pos hv]
          subst hv
          clear hok h1 h2 h3
          go_enter Try.func46, Try.ntmps46
          go_wp2_with (fail)
          with_reducible refine (c1 _).mono ?_
          rintro e w1 ⟨rfl, rfl⟩
          go_wp2_with (fail)
          with_reducible refine (c2 _).mono ?_
          rintro e w1 ⟨rfl, rfl⟩
          go_wp2_with (fail)
          with_reducible refine (c3 _).mono ?_
          rintro e w1 ⟨rfl, rfl⟩
          go_wp2_with (fail)
          go_ret
          exact ⟨rfl, HB.out⟩
        · rw [if_neg hv]
          have q : (v == 0) = false := by simp [hv]
          clear hok h1 h2 h3
          go_enter Try.func46, Try.ntmps46
          go_wp2_with (fail)
          with_reducible refine (c1 _).mono ?_
          rintro e w1 ⟨rfl, rfl⟩
          go_wp2_with (fail)
          with_reducible refine (c2 _).mono ?_
          rintro e w1 ⟨rfl, rfl⟩
          go_wp2_with (fail)
          with_reducible refine (c3 _).mono ?_
          rintro e w1 ⟨rfl, rfl⟩
          go_wp2_with (fail)
          go_ret
          exact ⟨rfl, HB.out⟩
      · rw [decide_eq_false h3] at c3
        have hok : ¬ Bt.Ok ⟨r, u, v⟩ := fun h => by unfold Bt.Ok at h; simp only at h; omega
        unfold stB
        rw [if_neg hok]
        clear hok h1 h2 h3 
        go_enter Try.func46, Try.ntmps46
        go_wp2_with (fail)
        with_reducible refine (c1 _).mono ?_
        rintro e w1 ⟨rfl, rfl⟩
        go_wp2_with (fail)
        with_reducible refine (c2 _).mono ?_
        rintro e w1 ⟨rfl, rfl⟩
        go_wp2_with (fail)
        with_reducible refine (c3 _).mono ?_
        rintro e w1 ⟨rfl, rfl⟩
        go_wp2_with (fail)
        go_ret
        exact ⟨rfl, HB.out⟩
    · rw [decide_eq_false h2] at c2
      have hok : ¬ Bt.Ok ⟨r, u, v⟩ := fun h => by unfold Bt.Ok at h; simp only at h; omega
      unfold stB
      rw [if_neg hok]
      clear hok h1 h2 
      go_enter Try.func46, Try.ntmps46
      go_wp2_with (fail)
      with_reducible refine (c1 _).mono ?_
      rintro e w1 ⟨rfl, rfl⟩
      go_wp2_with (fail)
      with_reducible refine (c2 _).mono ?_
      rintro e w1 ⟨rfl, rfl⟩
      go_wp2_with (fail)
      go_ret
      exact ⟨rfl, HB.out⟩
  · rw [decide_eq_false h1] at c1
    have hok : ¬ Bt.Ok ⟨r, u, v⟩ := fun h => by unfold Bt.Ok at h; simp only at h; omega
    unfold stB
    rw [if_neg hok]
    clear hok h1 
    go_enter Try.func46, Try.ntmps46
    go_wp2_with (fail)
    with_reducible refine (c1 _).mono ?_
    rintro e w1 ⟨rfl, rfl⟩
    go_wp2_with (fail)
    go_ret
    exact ⟨rfl, HB.out⟩

set_option maxRecDepth 100000 in
set_option maxHeartbeats 1000000 in
theorem impl_bucketOk (b : Bt) (w : World) :
    Calls Try.prog 21 #[.agg #[.int .i64 b.rate, .int .i64 b.burst, .int .i64 b.hav]] w fun e w' => e = .returned (.bool (decide b.Ok)) ∧ Below w.heap.size w w' := by
  have cS := fun W => impl_state b W
  have hq : (stB b != 0) = decide b.Ok := by
    unfold stB
    by_cases h : b.Ok
    · rw [if_pos h, decide_eq_true h]
      split <;> rfl
    · rw [if_neg h, decide_eq_false h]
      rfl
  have HB := Lib.hid (below_bt w b)
  have hc := cel3b (Cel.new w 25 #[.int .i64 b.rate, .int .i64 b.burst, .int .i64 b.hav])
  generalize stB b = st at *
  generalize decide b.Ok = r at *
  obtain ⟨x, y, z⟩ := b
  simp only at cS HB hc ⊢
  go_enter Try.func21, Try.ntmps21
  go_wp2_with (fail)
  with_reducible refine (cS _).mono ?_
  rintro e w1 ⟨rfl, hb1⟩
  have HB2 := Lib.hid (Below.then_ HB.out hb1)
  clear hb1 HB hc
  go_wp2_with (fail)
  go_ret
  exact ⟨by rw [← hq]; rfl, HB2.out⟩

set_option maxRecDepth 100000 in
set_option maxHeartbeats 1000000 in
theorem impl_bucketNew (r u : Int) (w : World) :
    Calls Try.prog 23 #[.int .i64 r, .int .i64 u] w fun e w' => e = .returned (.tuple #[.agg #[.int .i64 (newB r u).1.rate, .int .i64 (newB r u).1.burst, .int .i64 (newB r u).1.hav], .bool (newB r u).2]) ∧ Below w.heap.size w w' := by
  have cO := fun W => impl_bucketOk ⟨r, u, u⟩ W
  simp only at cO
  have HR := Cel.new w 25 #[.int .i64 0, .int .i64 0, .int .i64 0]
  have HB0 := below_new w (.cells #[.int .i64 0, .int .i64 0, .int .i64 0] 25)
  have HB1 := Below.then_ HB0 (below_new (w.alloc (.cells #[.int .i64 0, .int .i64 0, .int .i64 0] 25)) (.cells #[.int .i64 r, .int .i64 u, .int .i64 u] 25))
  have HR1 := HR.alloc (.cells #[.int .i64 r, .int .i64 u, .int .i64 u] 25)
  have HN := Cel.new (w.alloc (.cells #[.int .i64 0, .int .i64 0, .int .i64 0] 25)) 25 #[.int .i64 r, .int .i64 u, .int .i64 u]
  rw [World.size_alloc] at HN
  have HH := Lib.hid (And.intro HR1 (And.intro HN HB1))
  clear HR HB0 HB1 HR1 HN
  unfold newB
  by_cases hok : Bt.Ok ⟨r, u, u⟩
  · rw [if_pos hok]
    rw [decide_eq_true hok] at cO
    clear hok
    simp only
    go_enter Try.func23, Try.ntmps23
    go_upto_region 2 with (fail)
    generalize (w.alloc _).alloc _ = w0 at *
    obtain ⟨a0, a1, a2⟩ := cel3b HH.out.2.1
    go_wp2_with (fail)
    with_reducible refine (cO _).mono ?_
    rintro e w1 ⟨rfl, hb1⟩
    have H1 := Lib.hid (And.intro (HH.out.1.kept hb1) (And.intro (HH.out.2.1.kept hb1) (Below.then_ HH.out.2.2 hb1)))
    clear hb1 HH a0 a1 a2
    obtain ⟨a0, a1, a2⟩ := cel3b H1.out.2.1
    obtain ⟨b0, b1, b2⟩ := cel3b H1.out.1
    have f0 := H1.out.1.frozen 0
    have f1 := H1.out.1.frozen 1
    have f2 := H1.out.1.frozen 2
    have hg := ((H1.out.1.set 0 (.int .i64 r)).set 1 (.int .i64 u)).set 2 (.int .i64 u)
    have hb := ((H1.out.2.2.setCell (p := ⟨w.heap.size, 0, none⟩) (Nat.le_refl _) (.int .i64 r)).setCell (p := ⟨w.heap.size, 1, none⟩) (Nat.le_refl _) (.int .i64 u)).setCell (p := ⟨w.heap.size, 2, none⟩) (Nat.le_refl _) (.int .i64 u)
    have HG := Lib.hid (And.intro hg hb)
    clear H1 hg hb
    go_wp2_with (fail)
    exact bodyPost_ret (bt_result2 HG.out.1 rfl _ rfl) rfl ⟨rfl, HG.out.2⟩
  · rw [if_neg hok]
    rw [decide_eq_false hok] at cO
    clear hok
    simp only [Bt.zero]
    go_enter Try.func23, Try.ntmps23
    go_upto_region 2 with (fail)
    generalize (w.alloc _).alloc _ = w0 at *
    obtain ⟨a0, a1, a2⟩ := cel3b HH.out.2.1
    go_wp2_with (fail)
    with_reducible refine (cO _).mono ?_
    rintro e w1 ⟨rfl, hb1⟩
    have H1 := Lib.hid (And.intro (HH.out.1.kept hb1) (Below.then_ HH.out.2.2 hb1))
    clear hb1 HH a0 a1 a2
    obtain ⟨b0, b1, b2⟩ := cel3b H1.out.1
    have f0 := H1.out.1.frozen 0
    have f1 := H1.out.1.frozen 1
    have f2 := H1.out.1.frozen 2
    have hg := ((H1.out.1.set 0 (.int .i64 0)).set 1 (.int .i64 0)).set 2 (.int .i64 0)
    have hb := ((H1.out.2.setCell (p := ⟨w.heap.size, 0, none⟩) (Nat.le_refl _) (.int .i64 0)).setCell (p := ⟨w.heap.size, 1, none⟩) (Nat.le_refl _) (.int .i64 0)).setCell (p := ⟨w.heap.size, 2, none⟩) (Nat.le_refl _) (.int .i64 0)
    have HG := Lib.hid (And.intro hg hb)
    clear H1 hg hb
    go_wp2_with (fail)
    exact bodyPost_ret (bt_result2 HG.out.1 rfl _ rfl) rfl ⟨rfl, HG.out.2⟩

set_option maxRecDepth 100000 in
set_option maxHeartbeats 1000000 in
theorem impl_take (b : Bt) (w : World) :
    Calls Try.prog 18 #[.agg #[.int .i64 b.rate, .int .i64 b.burst, .int .i64 b.hav]] w fun e w' => e = .returned (.tuple #[.agg #[.int .i64 (takeB b).1.rate, .int .i64 (takeB b).1.burst, .int .i64 (takeB b).1.hav], .bool (takeB b).2]) ∧ Below w.heap.size w w' := by
  obtain ⟨r, u, v⟩ := b
  have HX := Lib.hid (B3.new w (.int .i64 r) (.int .i64 u) (.int .i64 v))
  have cO := fun W => impl_state ⟨r, u, v⟩ W
  simp only at cO ⊢
  unfold takeB
  by_cases hok : Bt.Ok ⟨r, u, v⟩
  · by_cases hv : v = 0
    · rw [if_neg (fun h => h.2 hv)]
      have hst : stB ⟨r, u, v⟩ = 1 := by unfold stB; rw [if_pos hok, if_pos hv]
      rw [hst] at cO
      clear hst hv hok
      simp only
      go_enter Try.func18, Try.ntmps18
      go_upto_region 1 with (fail)
      generalize (w.alloc _).alloc _ = w0 at *
      obtain ⟨a0, a1, a2⟩ := HX.out.all
      go_wp2_with (fail)
      with_reducible refine (cO _).mono ?_
      rintro e w1 ⟨rfl, hb1⟩
      have H1 := Lib.hid (HX.out.kept hb1)
      clear hb1 HX a0 a1 a2
      obtain ⟨a0, a1, a2⟩ := H1.out.all
      obtain ⟨r0, r1, r2, b0, b1, b2, f0, f1, f2⟩ := H1.out.rs
      have HG := Lib.hid (H1.out.give (.int .i64 r) (.int .i64 u) (.int .i64 v))
      clear H1
      go_wp2_with (fail)
      exact bodyPost_ret (bt_result2 HG.out.1 rfl _ rfl) rfl ⟨rfl, HG.out.2⟩
    · rw [if_pos ⟨hok, hv⟩]
      have hst : stB ⟨r, u, v⟩ = 2 := by unfold stB; rw [if_pos hok, if_neg hv]
      rw [hst] at cO
      clear hst
      have e0 : IntKind.i64.wrap (v - 1) = v - 1 := IntWalk.i64_in _ (by unfold Bt.Ok at hok; simp only at hok; omega)
      obtain ⟨v1, hv1⟩ : ∃ v1, v - 1 = v1 := ⟨_, rfl⟩
      have e1 := e0.trans hv1
      rw [hv1]
      clear hok hv e0 hv1
      simp only
      go_enter Try.func18, Try.ntmps18
      go_upto_region 1 with (fail)
      generalize (w.alloc _).alloc _ = w0 at *
      obtain ⟨a0, a1, a2⟩ := HX.out.all
      go_wp2_with (fail)
      with_reducible refine (cO _).mono ?_
      rintro e w1 ⟨rfl, hb1⟩
      have H1 := Lib.hid (HX.out.kept hb1)
      clear hb1 HX a0 a1 a2
      obtain ⟨a0, a1, a2⟩ := H1.out.all
      go_upto_region 3 with (fail)
      have fz := (H1.out.fr 2).1
      have hset := H1.out.set 2 (.int .i64 v1)
      simp only [if_true, if_false, Nat.reduceEqDiff] at hset
      have H2 := Lib.hid hset
      clear H1 hset
      go_upto_region 4 with (fail)
      clear fz a0 a1 a2
      generalize w1.setCell ⟨w.heap.size, 2, none⟩ (.int .i64 v1) = w2 at *
      obtain ⟨a0, a1, a2⟩ := H2.out.all
      obtain ⟨r0, r1, r2, b0, b1, b2, f0, f1, f2⟩ := H2.out.rs
      have HG := Lib.hid (H2.out.give (.int .i64 r) (.int .i64 u) (.int .i64 v1))
      clear H2
      go_wp2_with (fail)
      exact bodyPost_ret (bt_result2 HG.out.1 rfl _ rfl) rfl ⟨rfl, HG.out.2⟩
  · rw [if_neg (fun h => hok h.1)]
    have hst : stB ⟨r, u, v⟩ = 0 := by unfold stB; rw [if_neg hok]
    rw [hst] at cO
    clear hst hok
    simp only
    go_enter Try.func18, Try.ntmps18
    go_upto_region 1 with (fail)
    generalize (w.alloc _).alloc _ = w0 at *
    obtain ⟨a0, a1, a2⟩ := HX.out.all
    go_wp2_with (fail)
    with_reducible refine (cO _).mono ?_
    rintro e w1 ⟨rfl, hb1⟩
    have H1 := Lib.hid (HX.out.kept hb1)
    clear hb1 HX a0 a1 a2
    obtain ⟨a0, a1, a2⟩ := H1.out.all
    obtain ⟨r0, r1, r2, b0, b1, b2, f0, f1, f2⟩ := H1.out.rs
    have HG := Lib.hid (H1.out.give (.int .i64 r) (.int .i64 u) (.int .i64 v))
    clear H1
    go_wp2_with (fail)
    exact bodyPost_ret (bt_result2 HG.out.1 rfl _ rfl) rfl ⟨rfl, HG.out.2⟩

set_option maxRecDepth 100000 in
set_option maxHeartbeats 1000000 in
theorem impl_fill (b : Bt) (k : Int) (w : World) :
    Calls Try.prog 17 #[.agg #[.int .i64 b.rate, .int .i64 b.burst, .int .i64 b.hav], .int .i64 k] w fun e w' => e = .returned (.agg #[.int .i64 (fillB b k).rate, .int .i64 (fillB b k).burst, .int .i64 (fillB b k).hav]) ∧ Below w.heap.size w w' := by
  obtain ⟨r, u, v⟩ := b
  have HX := Lib.hid (B3.new w (.int .i64 r) (.int .i64 u) (.int .i64 v))
  have cO := fun W => impl_bucketOk ⟨r, u, v⟩ W
  simp only at cO ⊢
  have cW := fun W => impl_within k 0 1000000000 W
  unfold fillB
  by_cases hok : Bt.Ok ⟨r, u, v⟩
  · rw [decide_eq_true hok] at cO
    by_cases hk : 0 ≤ k ∧ k ≤ 1000000000
    · rw [decide_eq_true hk] at cW
      rw [if_pos ⟨hok, hk⟩]
      simp only
      unfold Bt.Ok at hok
      simp only at hok
      have hp0 : 0 ≤ r * k := Int.mul_nonneg hok.1 hk.1
      have hp1 : r * k ≤ 100 * 1000000000 := Int.mul_le_mul hok.2.1 hk.2 hk.1 (by omega)
      obtain ⟨p, hp⟩ : ∃ p, r * k = p := ⟨_, rfl⟩
      rw [hp] at hp0 hp1 ⊢
      have e1 : IntKind.i64.wrap (r * k) = p := (congrArg _ hp).trans (IntWalk.i64_in _ (by omega))
      obtain ⟨s, hs⟩ : ∃ s, v + p = s := ⟨_, rfl⟩
      have e2 : IntKind.i64.wrap (v + p) = s := (IntWalk.i64_in _ (by omega)).trans hs
      rw [hs]
      clear hok hk hp0 hp1 hs hp
      go_enter Try.func17, Try.ntmps17
      go_upto_region 1 with (fail)
      generalize (w.alloc _).alloc _ = w0 at *
      obtain ⟨a0, a1, a2⟩ := HX.out.all
      go_wp2_with (fail)
      with_reducible refine (cO _).mono ?_
      rintro e w1 ⟨rfl, hb1⟩
      have H1 := Lib.hid (HX.out.kept hb1)
      clear hb1 HX a0 a1 a2
      obtain ⟨a0, a1, a2⟩ := H1.out.all
      go_wp2_with (fail)
      with_reducible refine (cW _).mono ?_
      rintro e w2 ⟨rfl, rfl⟩
      go_upto_region 3 with (fail)
      have fz := (H1.out.fr 2).1
      have hset := H1.out.set 2 (.int .i64 (min s u))
      simp only [if_true, if_false, Nat.reduceEqDiff] at hset
      have H2 := Lib.hid hset
      clear H1 hset
      go_upto_region 4 with (fail)
      clear fz a0 a1 a2
      generalize w1.setCell ⟨w.heap.size, 2, none⟩ (.int .i64 (min s u)) = w2 at *
      obtain ⟨a0, a1, a2⟩ := H2.out.all
      obtain ⟨r0, r1, r2, b0, b1, b2, f0, f1, f2⟩ := H2.out.rs
      have HG := Lib.hid (H2.out.give (.int .i64 r) (.int .i64 u) (.int .i64 (min s u)))
      clear H2
      go_wp2_with (fail)
      exact bodyPost_ret (bt_result HG.out.1 rfl _ rfl) rfl ⟨rfl, HG.out.2⟩
    · rw [decide_eq_false hk] at cW
      rw [if_neg (fun h => hk h.2)]
      clear hok hk
      simp only
      go_enter Try.func17, Try.ntmps17
      go_upto_region 1 with (fail)
      generalize (w.alloc _).alloc _ = w0 at *
      obtain ⟨a0, a1, a2⟩ := HX.out.all
      go_wp2_with (fail)
      with_reducible refine (cO _).mono ?_
      rintro e w1 ⟨rfl, hb1⟩
      have H1 := Lib.hid (HX.out.kept hb1)
      clear hb1 HX a0 a1 a2
      obtain ⟨a0, a1, a2⟩ := H1.out.all
      go_wp2_with (fail)
      with_reducible refine (cW _).mono ?_
      rintro e w2 ⟨rfl, rfl⟩
      obtain ⟨r0, r1, r2, b0, b1, b2, f0, f1, f2⟩ := H1.out.rs
      have HG := Lib.hid (H1.out.give (.int .i64 r) (.int .i64 u) (.int .i64 v))
      clear H1
      go_wp2_with (fail)
      exact bodyPost_ret (bt_result HG.out.1 rfl _ rfl) rfl ⟨rfl, HG.out.2⟩
  · rw [decide_eq_false hok] at cO
    rw [if_neg (fun h => hok h.1)]
    clear hok
    simp only
    go_enter Try.func17, Try.ntmps17
    go_upto_region 1 with (fail)
    generalize (w.alloc _).alloc _ = w0 at *
    obtain ⟨a0, a1, a2⟩ := HX.out.all
    go_wp2_with (fail)
    with_reducible refine (cO _).mono ?_
    rintro e w1 ⟨rfl, hb1⟩
    have H1 := Lib.hid (HX.out.kept hb1)
    clear hb1 HX a0 a1 a2
    obtain ⟨a0, a1, a2⟩ := H1.out.all
    obtain ⟨r0, r1, r2, b0, b1, b2, f0, f1, f2⟩ := H1.out.rs
    have HG := Lib.hid (H1.out.give (.int .i64 r) (.int .i64 u) (.int .i64 v))
    clear H1
    go_wp2_with (fail)
    exact bodyPost_ret (bt_result HG.out.1 rfl _ rfl) rfl ⟨rfl, HG.out.2⟩

set_option maxRecDepth 100000 in
set_option maxHeartbeats 1000000 in
theorem impl_most (b : Bt) (k : Int) (w : World) :
    Calls Try.prog 19 #[.agg #[.int .i64 b.rate, .int .i64 b.burst, .int .i64 b.hav], .int .i64 k] w fun e w' => e = .returned (.int .i64 (mostB b k)) ∧ Below w.heap.size w w' := by
  obtain ⟨r, u, v⟩ := b
  have HX := Lib.hid (And.intro (Cel.new w 25 #[.int .i64 r, .int .i64 u, .int .i64 v]) (below_bt w ⟨r, u, v⟩))
  have cO := fun W => impl_bucketOk ⟨r, u, v⟩ W
  have cW := fun W => impl_within k 0 100000 W
  simp only at cO HX ⊢
  unfold mostB
  by_cases hok : Bt.Ok ⟨r, u, v⟩
  · rw [decide_eq_true hok] at cO
    by_cases hk : 0 ≤ k ∧ k ≤ 100000
    · rw [decide_eq_true hk] at cW
      rw [if_pos ⟨hok, hk⟩]
      simp only
      unfold Bt.Ok at hok
      simp only at hok
      have hp0 : 0 ≤ r * k := Int.mul_nonneg hok.1 hk.1
      have hp1 : r * k ≤ 100 * 100000 := Int.mul_le_mul hok.2.1 hk.2 hk.1 (by omega)
      obtain ⟨p, hp⟩ : ∃ p, r * k = p := ⟨_, rfl⟩
      rw [hp] at hp0 hp1 ⊢
      have e1 : IntKind.i64.wrap (r * k) = p := (congrArg _ hp).trans (IntWalk.i64_in _ (by omega))
      obtain ⟨s, hs⟩ : ∃ s, u + p = s := ⟨_, rfl⟩
      have e2 : IntKind.i64.wrap (u + p) = s := (IntWalk.i64_in _ (by omega)).trans hs
      rw [hs]
      clear hok hk hp0 hp1 hs hp
      go_enter Try.func19, Try.ntmps19
      go_upto_region 1 with (fail)
      generalize w.alloc _ = w0 at *
      obtain ⟨a0, a1, a2⟩ := cel3b HX.out.1
      go_wp2_with (fail)
      with_reducible refine (cO _).mono ?_
      rintro e w1 ⟨rfl, hb1⟩
      have H1 := Lib.hid (And.intro (HX.out.1.kept hb1) (Below.then_ HX.out.2 hb1))
      clear hb1 HX a0 a1 a2
      obtain ⟨a0, a1, a2⟩ := cel3b H1.out.1
      go_wp2_with (fail)
      with_reducible refine (cW _).mono ?_
      rintro e w2 ⟨rfl, rfl⟩
      go_wp2_with (fail)
      go_ret
      exact ⟨rfl, H1.out.2⟩
    · rw [decide_eq_false hk] at cW
      rw [if_neg (fun h => hk h.2)]
      clear hok hk
      go_enter Try.func19, Try.ntmps19
      go_upto_region 1 with (fail)
      generalize w.alloc _ = w0 at *
      obtain ⟨a0, a1, a2⟩ := cel3b HX.out.1
      go_wp2_with (fail)
      with_reducible refine (cO _).mono ?_
      rintro e w1 ⟨rfl, hb1⟩
      have H1 := Lib.hid (And.intro (HX.out.1.kept hb1) (Below.then_ HX.out.2 hb1))
      clear hb1 HX a0 a1 a2
      obtain ⟨a0, a1, a2⟩ := cel3b H1.out.1
      go_wp2_with (fail)
      with_reducible refine (cW _).mono ?_
      rintro e w2 ⟨rfl, rfl⟩
      go_wp2_with (fail)
      go_ret
      exact ⟨rfl, H1.out.2⟩
  · rw [decide_eq_false hok] at cO
    rw [if_neg (fun h => hok h.1)]
    clear hok
    go_enter Try.func19, Try.ntmps19
    go_upto_region 1 with (fail)
    generalize w.alloc _ = w0 at *
    obtain ⟨a0, a1, a2⟩ := cel3b HX.out.1
    go_wp2_with (fail)
    with_reducible refine (cO _).mono ?_
    rintro e w1 ⟨rfl, hb1⟩
    have H1 := Lib.hid (And.intro (HX.out.1.kept hb1) (Below.then_ HX.out.2 hb1))
    clear hb1 HX a0 a1 a2
    obtain ⟨a0, a1, a2⟩ := cel3b H1.out.1
    go_wp2_with (fail)
    go_ret
    exact ⟨rfl, H1.out.2⟩
end Go.Proofs.Ytihogaabojnbpaa
