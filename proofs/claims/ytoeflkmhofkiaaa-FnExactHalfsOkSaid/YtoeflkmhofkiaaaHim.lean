import Derived.Test.YtoeflkmhofkiaaaHia
import Derived.Test.YtoeflkmhofkiaaaNok
namespace Go.Proofs.Ytoeflkmhofkiaaa
open Go.RowKit
set_option maxRecDepth 100000

theorem nums_all (m : Hv) : numsH m = [m.road.own, m.road.far, m.road.port, m.theirs, m.mine, m.give, m.take, m.till].all fun n => decide ((0 : Int) ≤ n ∧ n ≤ 1000000000) := by
  simp [numsH, roadH, numH, Bool.and_assoc]

set_option maxRecDepth 100000 in
set_option maxHeartbeats 2000000 in
theorem impl_nums (m : Hv) (w : World) : Calls Try.prog 52 #[.agg #[.int .i64 m.road.own, .int .i64 m.road.far, .int .i64 m.road.port, .int .i64 m.theirs, .int .i64 m.mine, .int .i64 m.give, .int .i64 m.take, .int .i64 m.till]] w fun e w' => e = .returned (.bool (numsH m)) ∧ Below w.heap.size w w' := by
  have hbx := Below.then_ (below_hv w m) (below_new (w.alloc (.cells #[.int .i64 m.road.own, .int .i64 m.road.far, .int .i64 m.road.port, .int .i64 m.theirs, .int .i64 m.mine, .int .i64 m.give, .int .i64 m.take, .int .i64 m.till] 28)) (.cells #[.int .i64 m.road.own, .int .i64 m.road.far, .int .i64 m.road.port, .int .i64 m.theirs, .int .i64 m.mine, .int .i64 m.give, .int .i64 m.take, .int .i64 m.till] 3))
  have hC := Cel.new w 28 #[.int .i64 m.road.own, .int .i64 m.road.far, .int .i64 m.road.port, .int .i64 m.theirs, .int .i64 m.mine, .int .i64 m.give, .int .i64 m.take, .int .i64 m.till]
  have hz : RdE intK ((w.alloc (.cells #[.int .i64 m.road.own, .int .i64 m.road.far, .int .i64 m.road.port, .int .i64 m.theirs, .int .i64 m.mine, .int .i64 m.give, .int .i64 m.take, .int .i64 m.till] 28)).alloc (.cells #[.int .i64 m.road.own, .int .i64 m.road.far, .int .i64 m.road.port, .int .i64 m.theirs, .int .i64 m.mine, .int .i64 m.give, .int .i64 m.take, .int .i64 m.till] 3)) (.slice (some ⟨w.heap.size + 1, 0, none⟩) 8 8) [m.road.own, m.road.far, m.road.port, m.theirs, m.mine, m.give, m.take, m.till] := by
    have h := (OwnE.of_cel (K := intK) (B := 0) (C := (w.alloc (.cells #[.int .i64 m.road.own, .int .i64 m.road.far, .int .i64 m.road.port, .int .i64 m.theirs, .int .i64 m.mine, .int .i64 m.give, .int .i64 m.take, .int .i64 m.till] 28)).heap.size + 1) (xs := [m.road.own, m.road.far, m.road.port, m.theirs, m.mine, m.give, m.take, m.till]) (Cel.new (w.alloc (.cells #[.int .i64 m.road.own, .int .i64 m.road.far, .int .i64 m.road.port, .int .i64 m.theirs, .int .i64 m.mine, .int .i64 m.give, .int .i64 m.take, .int .i64 m.till] 28)) 3 #[.int .i64 m.road.own, .int .i64 m.road.far, .int .i64 m.road.port, .int .i64 m.theirs, .int .i64 m.mine, .int .i64 m.give, .int .i64 m.take, .int .i64 m.till]) (Nat.zero_le _) (Nat.lt_succ_self _) (by simp [maxLen])).rd
    rw [World.size_alloc] at h
    exact h
  have cN := impl_numbersOk _ _ _ hz (by show 8 ≤ 1048577; omega)
  rw [← nums_all] at cN
  generalize numsH m = res at *
  obtain ⟨k0, k1, k2, k3, k4, k5, k6, k7⟩ := cel8hv hC
  have HB := Lib.hid hbx
  clear hbx hC hz
  go_enter Try.func52, Try.ntmps52
  go_wp2_with (fail)
  clear k0 k1 k2 k3 k4 k5 k6 k7
  with_reducible refine cN.mono ?_
  rintro e w1 ⟨rfl, rfl⟩
  clear cN
  go_wp2_with (fail)
  go_ret
  exact ⟨rfl, HB.out⟩

set_option maxRecDepth 100000 in
set_option maxHeartbeats 4000000 in
theorem impl_halfsOk (v : Value) (hs : List Hv) (w : World) (hv : RdH w v hs) (hn : hs.length ≤ 1048577) :
    Calls Try.prog 19 #[v] w fun e w' => e = .returned (.bool (okH hs)) ∧ Below w.heap.size w w' := by
  obtain ⟨a, c, rfl⟩ := hv.form
  by_cases h4 : hs.length ≤ 4
  · have hok : okH hs = okFrom hs 0 := by unfold okH; rw [decide_eq_true h4, Bool.true_and]
    rw [hok]
    generalize hg : okFrom hs 0 = res
    have q4 : ¬ ((4 : Int) < (hs.length : Int)) := by omega
    have HG := Lib.hid hg
    clear hg hok
    go_enter Try.func19, Try.ntmps19
    go_wp2_with (fail)
    go_loopw [10] (fun i wr => ∃ k : Nat, k ≤ hs.length ∧ i = .int .i64 k ∧ okFrom hs k = res ∧ RdH wr (.slice a hs.length c) hs ∧ Below w.heap.size w wr) (fun i _ => hs.length - (intOf i).toNat)
    case atStart => exact ⟨0, by omega, rfl, HG.out, hv, Below.refl _ _⟩
    case round =>
      clear hv HG
      obtain ⟨k, hk, rfl, hr, hR, hB⟩ := hrel
      by_cases hlt : k < hs.length
      · have q : (0 : Int) ≤ (k : Int) ∧ (k : Int) < (hs.length : Int) := by omega
        obtain ⟨b, off, ha, -, k0, k1, k2, k3, k4, k5, k6, k7, -⟩ := hv_at (P := Try.prog) hR k hlt
        subst ha
        rw [okFrom_step hlt] at hr
        generalize hs[k] = m at *
        have hbx := below_hv wr m
        have hC0 := Cel.new wr 28 #[.int .i64 m.road.own, .int .i64 m.road.far, .int .i64 m.road.port, .int .i64 m.theirs, .int .i64 m.mine, .int .i64 m.give, .int .i64 m.take, .int .i64 m.till]
        have HX := Lib.hid (And.intro hr (And.intro (hR.below hbx) (And.intro (Below.then_ hB hbx) hC0)))
        have cN := fun W => impl_nums m W
        have cA := fun W h => impl_halfAt (.slice (some ⟨b, off, none⟩) hs.length c) hs m.road W h hn
        clear hr hR hB hbx hC0
        go_upto_region 6 with (fail)
        clear k0 k1 k2 k3 k4 k5 k6 k7
        obtain ⟨e0, e1, e2, e3⟩ := HX.out
        obtain ⟨d0, d1, d2, d3, d4, d5, d6, d7⟩ := cel8hv e3
        generalize wr.alloc (.cells #[.int .i64 m.road.own, .int .i64 m.road.far, .int .i64 m.road.port, .int .i64 m.theirs, .int .i64 m.mine, .int .i64 m.give, .int .i64 m.take, .int .i64 m.till] 28) = w2 at *
        generalize wr.heap.size = h0 at *
        have HY := Lib.hid (And.intro e0 (And.intro e1 (And.intro e2 e3)))
        clear HX e0 e1 e2 e3
        go_wp2_with (fail)
        with_reducible refine (cN _).mono ?_
        rintro e w3 ⟨rfl, hb3⟩
        have HX := Lib.hid (And.intro HY.out.1 (And.intro (HY.out.2.1.below hb3) (And.intro (Below.then_ HY.out.2.2.1 hb3) (HY.out.2.2.2.kept hb3))))
        clear HY cN d0 d1 d2 d3 d4 d5 d6 d7 hb3
        obtain ⟨d0, d1, d2, d3, d4, d5, d6, d7⟩ := cel8hv HX.out.2.2.2
        cases hp : numsH m with
        | false =>
          obtain rfl : false = res := by
            have := HX.out.1
            rw [← this]
            simp [hp]
          clear hp
          go_wp2_with (fail)
          go_ret
          exact ⟨rfl, HX.out.2.2.1⟩
        | true =>
          have hp := Lib.hid hp
          go_wp2_with (fail)
          with_reducible refine (cA _ HX.out.2.1).mono ?_
          rintro e w4 ⟨rfl, hb4⟩
          have HZ := Lib.hid (And.intro (HX.out.2.1.below hb4) (Below.then_ HX.out.2.2.1 hb4))
          obtain ⟨z, hz⟩ : ∃ z, atH hs m.road = z := ⟨_, rfl⟩
          rw [hz]
          by_cases hzk : z = (k : Int)
          · subst hzk
            have HR : Hid (okFrom hs (k + 1) = res) := Lib.hid (by have := HX.out.1; rw [← this]; simp [hp.out, hz])
            clear hz cA hb4 HX d0 d1 d2 d3 d4 d5 d6 d7
            go_wp2_with (fail)
            go_roundw
            case rel => exact ⟨k + 1, by omega, by go_num, HR.out, HZ.out.1, HZ.out.2⟩
            case measure => simp [intOf]; omega
          · obtain rfl : false = res := by
              have := HX.out.1
              rw [← this]
              simp [hz, hzk]
            have qz : (z != (k : Int)) = true := by simpa using hzk
            clear hz cA hb4 HX d0 d1 d2 d3 d4 d5 d6 d7
            go_wp2_with (fail)
            go_ret
            exact ⟨rfl, HZ.out.2⟩
      · obtain rfl : k = hs.length := by omega
        have q : ¬ (hs.length : Int) < (hs.length : Int) := by omega
        obtain rfl : true = res := by rw [← hr, okFrom_end (Nat.le_refl _)]
        clear hR hr
        go_wp2_with (fail)
        go_ret
        exact ⟨rfl, hB⟩
  · have hok : okH hs = false := by unfold okH; rw [decide_eq_false h4, Bool.false_and]
    rw [hok]
    have q4 : (4 : Int) < (hs.length : Int) := by omega
    clear hok hv
    go_enter Try.func19, Try.ntmps19
    go_wp2_with (fail)
    go_ret
    exact ⟨rfl, Below.refl _ _⟩
end Go.Proofs.Ytoeflkmhofkiaaa
