import Derived.Test.YtmokepopmfcdnaaRok
namespace Go.Proofs.Ytmokepopmfcdnaa
open Go.RowKit

theorem short_no {ws hs : List Rv} (h : ¬ (ws.length ≤ 64 ∧ hs.length ≤ 64)) : missR ws hs = [] := by
  unfold missR shortR
  rw [decide_eq_false h]
  rfl
theorem short_yes {ws hs : List Rv} (h : ws.length ≤ 64 ∧ hs.length ≤ 64) : missR ws hs = missGo hs ws := by
  unfold missR shortR
  rw [decide_eq_true h]
  rfl
theorem rd_new (W : World) (m : Rv) : RdR (W.alloc (.cells #[.int .i64 m.own, .int .i64 m.far, .int .i64 m.port] 34)) (.slice (some ⟨W.heap.size, 0, none⟩) 1 1) [m] := rd_rbox (Cel.new W 34 #[.int .i64 m.own, .int .i64 m.far, .int .i64 m.port])

set_option maxRecDepth 100000 in
set_option maxHeartbeats 2000000 in
theorem impl_missing (v v2 : Value) (ws hs : List Rv) (w : World) (hv : RdR w v ws) (hv2 : RdR w v2 hs) (hn : ws.length ≤ 1048577) (hn2 : hs.length ≤ 1048577) :
    Calls Try.prog 13 #[v, v2] w fun e w' => ∃ u, e = .returned u ∧ OwnR w' w.heap.size w'.heap.size u (missR ws hs) ∧ Below w.heap.size w w' := by
  obtain ⟨a, c, rfl⟩ := hv.form
  obtain ⟨a2, c2, rfl⟩ := hv2.form
  by_cases hs1 : ws.length ≤ 64
  · have q1 : ¬ (64 : Int) < (ws.length : Int) := by omega
    by_cases hs2 : hs.length ≤ 64
    · have q2 : ¬ (64 : Int) < (hs.length : Int) := by omega
      rw [short_yes ⟨hs1, hs2⟩]
      have hO0 : OwnR w w.heap.size w.heap.size (.slice none 0 0) [] := OwnE.nil
      have hB0 := Below.refl w.heap.size w
      go_enter Try.func13, Try.ntmps13
      go_wp2_with (fail)
      go_loopw [5, 18] (fun u i wr => ∃ k : Nat, k ≤ ws.length ∧ i = .int .i64 k ∧ OwnR wr w.heap.size wr.heap.size u (missGo hs (ws.take k)) ∧ Below w.heap.size w wr) (fun _ i _ => ws.length - (intOf i).toNat)
      case atStart => exact ⟨0, by omega, rfl, hO0, hB0⟩
      case round =>
        clear hO0 hB0
        obtain ⟨k, hk, rfl, hO, hB⟩ := hrel
        by_cases hlt : k < ws.length
        · have q : (0 : Int) ≤ (k : Int) ∧ (k : Int) < (ws.length : Int) := by omega
          obtain ⟨b, off, ha, hb, k0, k1, k2, -⟩ := rv_at (P := Try.prog) (hv.below hB) k hlt
          subst ha
          have hst := missGo_take hs ws k hlt
          have hle := missGo_len hs (ws.take k)
          rw [List.length_take] at hle
          generalize ws[k] = m at *
          obtain ⟨L', hL'⟩ : ∃ L', missGo hs (ws.take (k + 1)) = L' := ⟨_, rfl⟩
          rw [hL'] at hst
          have HLQ := Lib.hid hL'
          clear hL'
          generalize missGo hs (ws.take k) = L at *
          obtain ⟨ua, uc, rfl, -⟩ := hO.form
          have hbx := below_rv wr m
          have cC := contains_road _ hs m _ (hv2.below (Below.then_ hB hbx)) hn2
          have HX := Lib.hid (And.intro (hO.full hbx) (And.intro (Below.then_ hB hbx) (Cel.new wr 34 #[.int .i64 m.own, .int .i64 m.far, .int .i64 m.port])))
          have HL := Lib.hid hle
          clear hO hB hbx hle
          by_cases hm : m ∈ hs
          · rw [if_pos hm, List.append_nil] at hst
            rw [decide_eq_true hm] at cC
            subst hst
            clear hm
            go_wp2_with (fail)
            with_reducible refine cC.mono ?_
            rintro e w2 ⟨rfl, hb2⟩
            have HN := Lib.hid (And.intro (HX.out.1.full hb2) (Below.then_ HX.out.2.1 hb2))
            clear cC hb2 k0 k1 k2
            go_wp2_with (fail)
            go_roundw
            case rel => exact ⟨k + 1, by omega, by go_num, by rw [HLQ.out]; exact HN.out.1, HN.out.2⟩
            case measure => simp [intOf]; omega
          · rw [if_neg hm] at hst
            rw [decide_eq_false hm] at cC
            clear hm
            go_wp2_with (fail)
            with_reducible refine cC.mono ?_
            rintro e w2 ⟨rfl, hb2⟩
            obtain ⟨d0, d1, d2⟩ := cel3r (HX.out.2.2.kept hb2)
            have hb3 := below_rv w2 m
            have HN := Lib.hid (And.intro ((HX.out.1.full hb2).full hb3) (And.intro (Below.then_ (Below.then_ HX.out.2.1 hb2) hb3) (And.intro (rd_new w2 m) (Below.then_ (Below.then_ HX.out.2.1 hb2) hb3).size)))
            clear cC hb2 hb3 k0 k1 k2
            go_wp2_with (at_builtin; go_loud (refine wpList_append_els rvK rfl _ _ 29 29 rfl uRv uRv w.heap.size _ (.slice (some ⟨w2.heap.size, 0, none⟩) 1 1) L [m] rfl rfl HN.out.1 HN.out.2.2.2 HN.out.2.2.1 (by have := HL.out; simp; omega) ?_; intro u' w3 hown hgrow hloc; have HM := Lib.hid (And.intro hown (HN.out.2.1.grown hgrow HN.out.2.2.2 (fun g hg => (HN.out.1.block g hg).1))); rw [← hst] at HM; clear hown hgrow hloc))
            obtain ⟨ua2, uc2, rfl, -⟩ := HM.out.1.form
            go_wp2_with (fail)
            go_roundw
            case rel => exact ⟨k + 1, by omega, by go_num, by rw [HLQ.out]; exact HM.out.1, HM.out.2⟩
            case measure => simp [intOf]; omega
        · obtain rfl : k = ws.length := by omega
          have q : ¬ (ws.length : Int) < (ws.length : Int) := by omega
          rw [List.take_length] at hO
          have HX := Lib.hid (And.intro hO hB)
          obtain ⟨ua, uc, rfl, -⟩ := hO.form
          clear hO hB hv hv2
          go_wp2_with (fail)
          go_ret
          exact ⟨_, rfl, HX.out.1, HX.out.2⟩
    · have q2 : (64 : Int) < (hs.length : Int) := by omega
      rw [short_no (by omega)]
      have HX := Lib.hid (And.intro (show OwnR w w.heap.size w.heap.size (.slice none 0 0) [] from OwnE.nil) (Below.refl w.heap.size w))
      clear hv hv2
      go_enter Try.func13, Try.ntmps13
      go_wp2_with (fail)
      go_ret
      exact ⟨_, rfl, HX.out.1, HX.out.2⟩
  · have q1 : (64 : Int) < (ws.length : Int) := by omega
    rw [short_no (by omega)]
    have HX := Lib.hid (And.intro (show OwnR w w.heap.size w.heap.size (.slice none 0 0) [] from OwnE.nil) (Below.refl w.heap.size w))
    clear hv hv2
    go_enter Try.func13, Try.ntmps13
    go_wp2_with (fail)
    go_ret
    exact ⟨_, rfl, HX.out.1, HX.out.2⟩

theorem mtr_own (W : World) : OwnR (W.alloc (.cells #[] 34)) W.heap.size (W.alloc (.cells #[] 34)).heap.size (.slice (some ⟨W.heap.size, 0, none⟩) 0 0) [] := eown_empty rvK W

set_option maxRecDepth 100000 in
set_option maxHeartbeats 2000000 in
theorem spec_missing (v v2 : Value) (ws hs : List Rv) (w : World) (hv : RdR w v ws) (hv2 : RdR w v2 hs) (hn : ws.length ≤ 1048577) (hn2 : hs.length ≤ 1048577) :
    Calls Try.prog 26 #[v, v2] w fun e w' => ∃ u, e = .returned u ∧ OwnR w' w.heap.size w'.heap.size u (missR ws hs) ∧ Below w.heap.size w w' := by
  obtain ⟨a, c, rfl⟩ := hv.form
  obtain ⟨a2, c2, rfl⟩ := hv2.form
  by_cases hs0 : ws.length ≤ 64 ∧ hs.length ≤ 64
  · obtain ⟨hs1, hs2⟩ := hs0
    have q1 : (ws.length : Int) ≤ (64 : Int) := by omega
    have q2 : (hs.length : Int) ≤ (64 : Int) := by omega
    rw [short_yes ⟨hs1, hs2⟩]
    have hO0 := mtr_own w
    have hB0 := below_new w (.cells #[] 34)
    go_enter Try.func26, Try.ntmps26
    go_wp2_with (fail)
    go_loopw [5, 6] (fun u i wr => ∃ k : Nat, k ≤ ws.length ∧ i = .int .i64 k ∧ OwnR wr w.heap.size wr.heap.size u (missGo hs (ws.take k)) ∧ Below w.heap.size w wr) (fun _ i _ => ws.length - (intOf i).toNat)
    case atStart => exact ⟨0, by omega, rfl, hO0, hB0⟩
    case round =>
      clear hO0 hB0
      obtain ⟨k, hk, rfl, hO, hB⟩ := hrel
      by_cases hlt : k < ws.length
      · have q : (0 : Int) ≤ (k : Int) ∧ (k : Int) < (ws.length : Int) := by omega
        obtain ⟨b, off, ha, hb, k0, k1, k2, -⟩ := rv_at (P := Try.prog) (hv.below hB) k hlt
        subst ha
        have hst := missGo_take hs ws k hlt
        have hle := missGo_len hs (ws.take k)
        rw [List.length_take] at hle
        generalize ws[k] = m at *
        obtain ⟨L', hL'⟩ : ∃ L', missGo hs (ws.take (k + 1)) = L' := ⟨_, rfl⟩
        rw [hL'] at hst
        have HLQ := Lib.hid hL'
        clear hL'
        generalize missGo hs (ws.take k) = L at *
        obtain ⟨ua, uc, rfl, -⟩ := hO.form
        have cC := spec_has _ hs m _ (hv2.below hB) hn2
        have HX := Lib.hid (And.intro hO hB)
        have HL := Lib.hid hle
        clear hO hB hle
        by_cases hm : m ∈ hs
        · rw [if_pos hm, List.append_nil] at hst
          rw [decide_eq_true hm] at cC
          subst hst
          clear hm
          go_wp2_with (fail)
          with_reducible refine cC.mono ?_
          rintro e w2 ⟨rfl, hb2⟩
          have HN := Lib.hid (And.intro (HX.out.1.full hb2) (Below.then_ HX.out.2 hb2))
          clear cC hb2 k0 k1 k2
          go_wp2_with (fail)
          go_roundw
          case rel => exact ⟨k + 1, by omega, by go_num, by rw [HLQ.out]; exact HN.out.1, HN.out.2⟩
          case measure => simp [intOf]; omega
        · rw [if_neg hm] at hst
          rw [decide_eq_false hm] at cC
          clear hm
          go_wp2_with (fail)
          with_reducible refine cC.mono ?_
          rintro e w2 ⟨rfl, hb2⟩
          have d0 := keepc' k0 hb2
          have d1 := keepc' k1 hb2
          have d2 := keepc' k2 hb2
          have hb3 := below_rv w2 m
          have HN := Lib.hid (And.intro ((HX.out.1.full hb2).full hb3) (And.intro (Below.then_ (Below.then_ HX.out.2 hb2) hb3) (And.intro (rd_new w2 m) (Below.then_ (Below.then_ HX.out.2 hb2) hb3).size)))
          clear cC hb2 hb3 k0 k1 k2
          go_wp2_with (at_builtin; go_loud (refine wpList_append_els rvK rfl _ _ 29 29 rfl uRv uRv w.heap.size _ (.slice (some ⟨w2.heap.size, 0, none⟩) 1 1) L [m] rfl rfl HN.out.1 HN.out.2.2.2 HN.out.2.2.1 (by have := HL.out; simp; omega) ?_; intro u' w3 hown hgrow hloc; have HM := Lib.hid (And.intro hown (HN.out.2.1.grown hgrow HN.out.2.2.2 (fun g hg => (HN.out.1.block g hg).1))); rw [← hst] at HM; clear hown hgrow hloc))
          obtain ⟨ua2, uc2, rfl, -⟩ := HM.out.1.form
          go_wp2_with (fail)
          go_roundw
          case rel => exact ⟨k + 1, by omega, by go_num, by rw [HLQ.out]; exact HM.out.1, HM.out.2⟩
          case measure => simp [intOf]; omega
      · obtain rfl : k = ws.length := by omega
        have q : ¬ (ws.length : Int) < (ws.length : Int) := by omega
        rw [List.take_length] at hO
        have HX := Lib.hid (And.intro hO hB)
        obtain ⟨ua, uc, rfl, -⟩ := hO.form
        clear hO hB hv hv2
        go_wp2_with (fail)
        go_ret
        exact ⟨_, rfl, HX.out.1, HX.out.2⟩
  · rw [short_no hs0]
    have hO0 := mtr_own w
    have hB0 := below_new w (.cells #[] 34)
    have HX := Lib.hid (And.intro hO0 hB0)
    clear hO0 hB0 hv hv2
    by_cases hw : ws.length = 0
    · have q : ¬ (0 : Int) < (ws.length : Int) := by omega
      go_enter Try.func26, Try.ntmps26
      go_wp2_with (fail)
      go_loopw [5, 6] (fun u i wr => u = .slice (some ⟨w.heap.size, 0, none⟩) 0 0 ∧ i = .int .i64 0 ∧ wr = w.alloc (.cells #[] 34)) (fun _ i _ => 0)
      case atStart => exact ⟨rfl, rfl, rfl⟩
      case round =>
        obtain ⟨rfl, rfl, rfl⟩ := hrel
        go_wp2_with (fail)
        go_ret
        exact ⟨_, rfl, HX.out.1, HX.out.2⟩
    · have q : (0 : Int) < (ws.length : Int) := by omega
      by_cases hs1 : ws.length ≤ 64
      · have q1 : (ws.length : Int) ≤ (64 : Int) := by omega
        have q2 : ¬ (hs.length : Int) ≤ (64 : Int) := by omega
        go_enter Try.func26, Try.ntmps26
        go_wp2_with (fail)
        go_loopw [5, 6] (fun u i wr => u = .slice (some ⟨w.heap.size, 0, none⟩) 0 0 ∧ i = .int .i64 0 ∧ wr = w.alloc (.cells #[] 34)) (fun _ i _ => 0)
        case atStart => exact ⟨rfl, rfl, rfl⟩
        case round =>
          obtain ⟨rfl, rfl, rfl⟩ := hrel
          go_wp2_with (fail)
          go_ret
          exact ⟨_, rfl, HX.out.1, HX.out.2⟩
      · have q1 : ¬ (ws.length : Int) ≤ (64 : Int) := by omega
        go_enter Try.func26, Try.ntmps26
        go_wp2_with (fail)
        go_loopw [5, 6] (fun u i wr => u = .slice (some ⟨w.heap.size, 0, none⟩) 0 0 ∧ i = .int .i64 0 ∧ wr = w.alloc (.cells #[] 34)) (fun _ i _ => 0)
        case atStart => exact ⟨rfl, rfl, rfl⟩
        case round =>
          obtain ⟨rfl, rfl, rfl⟩ := hrel
          go_wp2_with (fail)
          go_ret
          exact ⟨_, rfl, HX.out.1, HX.out.2⟩
end Go.Proofs.Ytmokepopmfcdnaa
