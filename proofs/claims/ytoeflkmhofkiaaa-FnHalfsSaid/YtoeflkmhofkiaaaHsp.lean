import Derived.Test.YtoeflkmhofkiaaaHto
import Derived.Test.YtoeflkmhofkiaaaRif
import Derived.Test.YtoeflkmhofkiaaaAif
import Derived.Test.YtoeflkmhofkiaaaAok
import Derived.Test.YtoeflkmhofkiaaaEk2
namespace Go.Proofs.Ytoeflkmhofkiaaa
open Go.RowKit
set_option maxRecDepth 100000

set_option maxRecDepth 100000 in
set_option maxHeartbeats 2000000 in
theorem spec_halfAt (v : Value) (hs : List Hv) (r : Rv) (w : World) (hv : RdH w v hs) (hn : hs.length ≤ 1048577) :
    Calls Try.prog 49 #[v, .agg #[.int .i64 r.own, .int .i64 r.far, .int .i64 r.port]] w fun e w' => e = .returned (.int .i64 (atH hs r)) ∧ Below w.heap.size w w' := by
  have hbx := below_rv w r
  have hC0 := Cel.new w 26 #[.int .i64 r.own, .int .i64 r.far, .int .i64 r.port]
  have hv0 := hv.below hbx
  obtain ⟨a, c, rfl⟩ := hv.form
  generalize hd : atH hs r = res
  have HD := Lib.hid hd
  clear hv hd
  go_enter Try.func49, Try.ntmps49
  go_wp2_with (fail)
  go_loopw [5] (fun i wr => ∃ k : Nat, k ≤ hs.length ∧ i = .int .i64 k ∧ (∀ j (_ : j < k) (h : j < hs.length), ¬ hs[j].road = r) ∧ RdH wr (.slice a hs.length c) hs ∧ Cel wr w.heap.size 26 #[.int .i64 r.own, .int .i64 r.far, .int .i64 r.port] ∧ Below w.heap.size w wr) (fun i _ => hs.length - (intOf i).toNat)
  case atStart => exact ⟨0, by omega, rfl, fun j hj => by omega, hv0, hC0, hbx⟩
  case round =>
    clear hv0 hC0 hbx
    obtain ⟨k, hk, rfl, hne, hR, hC, hB⟩ := hrel
    by_cases hlt : k < hs.length
    · have q : (0 : Int) ≤ (k : Int) ∧ (k : Int) < (hs.length : Int) := by omega
      obtain ⟨b, off, ha, -, k0, k1, k2, -⟩ := hv_at (P := Try.prog) hR k hlt
      subst ha
      obtain ⟨c0, c1, c2⟩ := cel3r hC
      obtain ⟨y, hy⟩ : ∃ y, hs[k].road = y := ⟨_, rfl⟩
      rw [hy] at k0 k1 k2
      have HX := Lib.hid (And.intro hy (And.intro hne (And.intro hR (And.intro hC hB))))
      clear hy hne hR hC hB
      by_cases hxy : y = r
      · have he := fun W => eql_rv y r W true (by simp [hxy])
        have hp : plH r hs = k := plH_at hlt HX.out.2.1 (HX.out.1.trans hxy)
        obtain rfl : (k : Int) = res := by rw [← HD.out, atH_in (by rw [hp]; exact hlt), hp]
        clear hxy hp HD
        go_wp2_with (fail)
        go_quiet (fail)
        go_wp2_with (fail)
        go_ret
        exact ⟨rfl, Below.then_ HX.out.2.2.2.2 (dN_rbelow _ _)⟩
      · have he := fun W => eql_rv y r W false (by simp [hxy])
        have HM := Lib.hid hxy
        clear hxy
        go_wp2_with (fail)
        go_quiet (fail)
        go_wp2_with (fail)
        go_roundw
        case rel =>
          refine ⟨k + 1, by omega, by go_num, fun j hj hl => ?_, HX.out.2.2.1.drewN, HX.out.2.2.2.1.drewN _, Below.then_ HX.out.2.2.2.2 (dN_rbelow _ _)⟩
          by_cases hjk : j = k
          · subst hjk
            rw [HX.out.1]
            exact HM.out
          · exact HX.out.2.1 j (by omega) hl
        case measure => simp [intOf]; omega
    · obtain rfl : k = hs.length := by omega
      have q : ¬ (hs.length : Int) < (hs.length : Int) := by omega
      have hp : plH r hs = hs.length := plH_none fun j h => hne j h h
      obtain rfl : (-1 : Int) = res := by rw [← HD.out, atH_out (by rw [hp]; exact Nat.lt_irrefl _)]
      have HM := Lib.hid hB
      clear hR hC hne hp hB HD
      go_wp2_with (fail)
      go_ret
      exact ⟨rfl, HM.out⟩

theorem spec_num (n : Int) (w : World) : Calls Try.prog 48 #[.int .i64 n] w fun e w' => e = .returned (.bool (numH n)) ∧ w = w' := by
  have c1 := fun W => spec_in n 0 1000000000 W
  rw [show decide ((0 : Int) ≤ n ∧ n ≤ 1000000000) = numH n from rfl] at c1
  generalize numH n = b at *
  go_enter Try.func48, Try.ntmps48
  go_wp2_with (fail)
  with_reducible refine (c1 _).mono ?_
  rintro e w1 ⟨rfl, rfl⟩
  go_wp2_with (fail)
  go_ret
  exact ⟨rfl, rfl⟩

set_option maxRecDepth 100000 in
theorem spec_road (r : Rv) (w : World) : Calls Try.prog 47 #[.agg #[.int .i64 r.own, .int .i64 r.far, .int .i64 r.port]] w fun e w' => e = .returned (.bool (roadH r)) ∧ Below w.heap.size w w' := by
  have n0 := fun W => spec_num r.own W
  have n1 := fun W => spec_num r.far W
  have n2 := fun W => spec_num r.port W
  have HB := Lib.hid (below_rv w r)
  obtain ⟨res, hres⟩ : ∃ res, roadH r = res := ⟨_, rfl⟩
  rw [hres]
  unfold roadH at hres
  generalize numH r.own = b0 at *
  generalize numH r.far = b1 at *
  generalize numH r.port = b2 at *
  subst hres
  cases b0 <;> cases b1 <;> cases b2 <;> simp only [Bool.and_true, Bool.and_false]
  all_goals
    go_enter Try.func47, Try.ntmps47
    go_wp2_with (fail)
    with_reducible refine (n0 _).mono ?_
    rintro e w1 ⟨rfl, rfl⟩
    clear n0
    go_wp2_with (fail)
    try (with_reducible refine (n1 _).mono ?_; rintro e w1 ⟨rfl, rfl⟩; clear n1; go_wp2_with (fail))
    try (with_reducible refine (n2 _).mono ?_; rintro e w1 ⟨rfl, rfl⟩; clear n2; go_wp2_with (fail))
    go_ret
    exact ⟨rfl, HB.out⟩

set_option maxRecDepth 100000 in
set_option maxHeartbeats 4000000 in
theorem spec_halfsOk (v : Value) (hs : List Hv) (w : World) (hv : RdH w v hs) (hn : hs.length ≤ 1048577) :
    Calls Try.prog 16 #[v] w fun e w' => e = .returned (.bool (okH hs)) ∧ Below w.heap.size w w' := by
  obtain ⟨a, c, rfl⟩ := hv.form
  by_cases h4 : hs.length ≤ 4
  · have hok : okH hs = okFrom hs 0 := by unfold okH; rw [decide_eq_true h4, Bool.true_and]
    rw [hok]
    generalize hg : okFrom hs 0 = res
    have q4 : ¬ ((4 : Int) < (hs.length : Int)) := by omega
    have HG := Lib.hid hg
    clear hg hok
    go_enter Try.func16, Try.ntmps16
    go_wp2_with (fail)
    go_loopw [3] (fun i wr => ∃ k : Nat, k ≤ hs.length ∧ i = .int .i64 k ∧ okFrom hs k = res ∧ RdH wr (.slice a hs.length c) hs ∧ Below w.heap.size w wr) (fun i _ => hs.length - (intOf i).toNat)
    case atStart => exact ⟨0, by omega, rfl, HG.out, hv, Below.refl _ _⟩
    case round =>
      clear hv HG
      obtain ⟨k, hk, rfl, hr, hR, hB⟩ := hrel
      by_cases hlt : k < hs.length
      · have q : (0 : Int) ≤ (k : Int) ∧ (k : Int) < (hs.length : Int) := by omega
        obtain ⟨b, off, ha, -, k0, k1, k2, k3, k4, k5, k6, k7, -⟩ := hv_at (P := Try.prog) hR k hlt
        subst ha
        rw [okFrom_step hlt] at hr
        generalize hs[k] = m at *
        have hbx := below_hv wr m
        have hC0 := Cel.new wr 28 #[.int .i64 m.road.own, .int .i64 m.road.far, .int .i64 m.road.port, .int .i64 m.theirs, .int .i64 m.mine, .int .i64 m.give, .int .i64 m.take, .int .i64 m.till]
        have HX := Lib.hid (And.intro hr (And.intro (hR.below hbx) (And.intro (Below.then_ hB hbx) hC0)))
        have cR := fun W => spec_road m.road W
        have cA := fun W h => spec_halfAt (.slice (some ⟨b, off, none⟩) hs.length c) hs m.road W h hn
        have c1 := fun W => spec_num m.theirs W
        have c2 := fun W => spec_num m.mine W
        have c3 := fun W => spec_num m.give W
        have c4 := fun W => spec_num m.take W
        have c5 := fun W => spec_num m.till W
        clear hr hR hB hbx hC0
        go_upto_region 7 with (fail)
        clear k0 k1 k2 k3 k4 k5 k6 k7
        obtain ⟨e0, e1, e2, e3⟩ := HX.out
        obtain ⟨d0, d1, d2, d3, d4, d5, d6, d7⟩ := cel8hv e3
        generalize wr.alloc (.cells #[.int .i64 m.road.own, .int .i64 m.road.far, .int .i64 m.road.port, .int .i64 m.theirs, .int .i64 m.mine, .int .i64 m.give, .int .i64 m.take, .int .i64 m.till] 28) = w2 at *
        generalize wr.heap.size = h0 at *
        have HY := Lib.hid (And.intro e0 (And.intro e1 (And.intro e2 e3)))
        clear HX e0 e1 e2 e3
        go_wp2_with (fail)
        with_reducible refine (cR _).mono ?_
        rintro e w3 ⟨rfl, hb3⟩
        have HX := Lib.hid (And.intro HY.out.1 (And.intro (HY.out.2.1.below hb3) (And.intro (Below.then_ HY.out.2.2.1 hb3) (HY.out.2.2.2.kept hb3))))
        clear HY cR d0 d1 d2 d3 d4 d5 d6 d7 hb3
        obtain ⟨d0, d1, d2, d3, d4, d5, d6, d7⟩ := cel8hv HX.out.2.2.2
        cases hp0 : roadH m.road with
        | false =>
          obtain rfl : false = res := by
            have := HX.out.1
            rw [← this]
            simp [numsH, hp0]
          go_wp2_with (fail)
          go_ret
          exact ⟨rfl, HX.out.2.2.1⟩
        | true =>
          have hp0 := Lib.hid hp0
          go_wp2_with (fail)
          with_reducible refine (c1 _).mono ?_
          rintro e w4 ⟨rfl, rfl⟩
          clear c1
          cases hp1 : numH m.theirs with
          | false =>
            obtain rfl : false = res := by
              have := HX.out.1
              rw [← this]
              simp [numsH, hp1]
            go_wp2_with (fail)
            go_ret
            exact ⟨rfl, HX.out.2.2.1⟩
          | true =>
            have hp1 := Lib.hid hp1
            go_wp2_with (fail)
            with_reducible refine (c2 _).mono ?_
            rintro e w4 ⟨rfl, rfl⟩
            clear c2
            cases hp2 : numH m.mine with
            | false =>
              obtain rfl : false = res := by
                have := HX.out.1
                rw [← this]
                simp [numsH, hp2]
              go_wp2_with (fail)
              go_ret
              exact ⟨rfl, HX.out.2.2.1⟩
            | true =>
              have hp2 := Lib.hid hp2
              go_wp2_with (fail)
              with_reducible refine (c3 _).mono ?_
              rintro e w4 ⟨rfl, rfl⟩
              clear c3
              cases hp3 : numH m.give with
              | false =>
                obtain rfl : false = res := by
                  have := HX.out.1
                  rw [← this]
                  simp [numsH, hp3]
                go_wp2_with (fail)
                go_ret
                exact ⟨rfl, HX.out.2.2.1⟩
              | true =>
                have hp3 := Lib.hid hp3
                go_wp2_with (fail)
                with_reducible refine (c4 _).mono ?_
                rintro e w4 ⟨rfl, rfl⟩
                clear c4
                cases hp4 : numH m.take with
                | false =>
                  obtain rfl : false = res := by
                    have := HX.out.1
                    rw [← this]
                    simp [numsH, hp4]
                  go_wp2_with (fail)
                  go_ret
                  exact ⟨rfl, HX.out.2.2.1⟩
                | true =>
                  have hp4 := Lib.hid hp4
                  go_wp2_with (fail)
                  with_reducible refine (c5 _).mono ?_
                  rintro e w4 ⟨rfl, rfl⟩
                  clear c5
                  cases hp5 : numH m.till with
                  | false =>
                    obtain rfl : false = res := by
                      have := HX.out.1
                      rw [← this]
                      simp [numsH, hp5]
                    go_wp2_with (fail)
                    go_ret
                    exact ⟨rfl, HX.out.2.2.1⟩
                  | true =>
                    have hp5 := Lib.hid hp5
                    go_wp2_with (fail)
                    with_reducible refine (cA _ HX.out.2.1).mono ?_
                    rintro e w4 ⟨rfl, hb4⟩
                    have HZ := Lib.hid (And.intro (HX.out.2.1.below hb4) (Below.then_ HX.out.2.2.1 hb4))
                    obtain ⟨z, hz⟩ : ∃ z, atH hs m.road = z := ⟨_, rfl⟩
                    rw [hz]
                    by_cases hzk : z = (k : Int)
                    · subst hzk
                      have HR : Hid (okFrom hs (k + 1) = res) := Lib.hid (by have := HX.out.1; rw [← this]; simp [numsH, hp0.out, hp1.out, hp2.out, hp3.out, hp4.out, hp5.out, hz])
                      clear hz cA hb4 HX d0 d1 d2 d3 d4 d5 d6 d7
                      go_wp2_with (fail)
                      go_roundw
                      case rel => exact ⟨k + 1, by omega, by go_num, HR.out, HZ.out.1, HZ.out.2⟩
                      case measure => simp [intOf]; omega
                    · obtain rfl : false = res := by
                        have := HX.out.1
                        rw [← this]
                        simp [hz, hzk]
                      have qz : (z != (k : Int)) = true := by simpa using hzk
                      clear hz cA hb4 HX d0 d1 d2 d3 d4 d5 d6 d7
                      go_wp2_with (fail)
                      go_ret
                      exact ⟨rfl, HZ.out.2⟩
      · obtain rfl : k = hs.length := by omega
        have q : ¬ (hs.length : Int) < (hs.length : Int) := by omega
        obtain rfl : true = res := by rw [← hr, okFrom_end (Nat.le_refl _)]
        clear hR hr
        go_wp2_with (fail)
        go_ret
        exact ⟨rfl, hB⟩
  · have hok : okH hs = false := by unfold okH; rw [decide_eq_false h4, Bool.false_and]
    rw [hok]
    have q4 : (4 : Int) < (hs.length : Int) := by omega
    clear hok hv
    go_enter Try.func16, Try.ntmps16
    go_wp2_with (fail)
    go_ret
    exact ⟨rfl, Below.refl _ _⟩
end Go.Proofs.Ytoeflkmhofkiaaa
