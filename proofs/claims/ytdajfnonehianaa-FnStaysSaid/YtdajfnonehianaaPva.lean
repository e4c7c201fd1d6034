import Derived.Test.YtdajfnonehianaaPok
namespace Go.Proofs.Ytdajfnonehianaa
open Go.RowKit

theorem fin_small {x : Pc} (h0 : 0 < x.pos) (h : x.pos ≤ 2000000000) (hs : x.text.size ≤ 200) : IntKind.i64.wrap x.fin = x.fin ∧ 0 < x.fin ∧ x.fin ≤ 2000000200 := by
  unfold Pc.fin
  refine ⟨IntWalk.i64_in _ (by omega), by omega, by omega⟩
theorem sum_get {l : List Pc} {k : Nat} (h : k < l.length) : l[k].text.size ≤ sumP l := sumP_mem (List.getElem_mem h)

set_option maxRecDepth 100000 in
set_option maxHeartbeats 4000000 in
theorem impl_piecesOk (r : Int) (t : ByteArray) (v : Value) (ms : List Pc) (w : World) (hv : RdP w v ms) (hs : t.size + sumP ms ≤ 4194304) (hn : ms.length ≤ 4194304) :
    Calls Try.prog 16 #[.agg #[.int .i64 r, .string t, v]] w fun e w' => e = .returned (.bool (piecesOk ⟨r, t, ms⟩)) ∧ Below w.heap.size w w' := by
  have hB0 := below_new w (.cells #[.int .i64 r, .string t, v] 26)
  have hv0 := hv.below hB0
  have hC0 := Cel.new w 26 #[.int .i64 r, .string t, v]
  have c1 := fun W => impl_within r 0 1000000000 W
  have c2 := fun u W h => impl_heldOf r t u ms W h hs hn
  have c3 := fun u W => impl_nextOf r t u W
  obtain ⟨a, c, rfl⟩ := hv.form
  unfold piecesOk heldP nextP
  simp only
  by_cases g1 : 0 ≤ r ∧ r ≤ 1000000000
  · rw [decide_eq_true g1] at c1
    by_cases g2 : ms.length ≤ 20
    · by_cases g3 : t.size + sumP ms ≤ 200
      · rw [if_pos ⟨g1.1, g1.2, g2, g3⟩]
        have q1 : ¬ (20 : Int) < (ms.length : Int) := by omega
        have q2 : ¬ (200 : Int) < ((t.size + sumP ms : Nat) : Int) := by omega
        rw [IntWalk.i64_in (r + (t.size : Int)) (by omega)] at c3
        have y0 : 0 ≤ r + (t.size : Int) ∧ r + (t.size : Int) ≤ 2000000200 := by omega
        have hsum : sumP ms ≤ 200 := by omega
        generalize ((t.size + sumP ms : Nat) : Int) = hh at *
        generalize r + (t.size : Int) = y at *
        generalize hg : okP y ms = res
        have HG := Lib.hid hg
        have H0 := Lib.hid (And.intro hB0 (And.intro hv0 hC0))
        clear hB0 hv0 hv hC0 g1 g2 g3 hs hn hg
        go_enter Try.func16, Try.ntmps16
        go_wp2_with (fail)
        with_reducible refine (c1 _).mono ?_
        rintro e w1 ⟨rfl, rfl⟩
        go_wp2_with (fail)
        with_reducible refine (c2 _ _ H0.out.2.1).mono ?_
        rintro e w1 ⟨rfl, hb1⟩
        obtain ⟨b0, b1, b2⟩ := cel3' (H0.out.2.2.kept hb1)
        have H1 := Lib.hid (And.intro (Below.then_ H0.out.1 hb1) (And.intro (H0.out.2.1.below hb1) (H0.out.2.2.kept hb1)))
        clear H0 hb1 c1 c2
        go_wp2_with (fail)
        with_reducible refine (c3 _ _).mono ?_
        rintro e w2 ⟨rfl, hb2⟩
        obtain ⟨d0, d1, d2⟩ := cel3' (H1.out.2.2.kept hb2)
        have H2 := Lib.hid (And.intro (Below.then_ H1.out.1 hb2) (H1.out.2.1.below hb2))
        clear H1 hb2 c3 b0 b1 b2
        go_wp2_with (fail)
        go_loopw [3, 26] (fun l i wr => ∃ k : Nat, ∃ z : Int, k ≤ ms.length ∧ i = .int .i64 k ∧ l = .int .i64 z ∧ (0 ≤ z ∧ z ≤ 2000000200) ∧ okP z (ms.drop k) = res ∧ RdP wr (.slice a ms.length c) ms ∧ Below w.heap.size w wr) (fun _ i _ => ms.length - (intOf i).toNat)
        case atStart => exact ⟨0, y, by omega, rfl, rfl, y0, by rw [List.drop_zero]; exact HG.out, H2.out.2, H2.out.1⟩
        case round =>
          clear HG H2 y0 d0 d1 d2
          obtain ⟨k, z, hk, rfl, rfl, hz, hr, hR, hB⟩ := hrel
          by_cases hlt : k < ms.length
          · have q : (k : Int) < (ms.length : Int) := by omega
            have q2 : (0 : Int) ≤ (k : Int) := by omega
            obtain ⟨b, off, ha, hb, k0, k1, -⟩ := pc_at (P := Try.prog) hR k hlt
            subst ha
            rw [List.drop_eq_getElem_cons hlt] at hr
            have hms := sum_get hlt
            generalize ms[k] = m at *
            have HB0 := Lib.hid (And.intro (Below.then_ hB (below_pc wr m)) (hR.below (below_pc wr m)))
            have HC0 := Lib.hid (Cel.new wr 41 #[.int .i64 m.pos, .string m.text])
            have e1 : IntKind.i64.wrap (z + 1) = z + 1 := IntWalk.i64_in _ (by omega)
            have cw := fun W => impl_within m.pos (z + 1) 2000000000 W
            have ce := fun W => impl_end m W
            unfold okP at hr
            clear hR hB
            by_cases f1 : m.text.size = 0
            · rw [if_neg (fun h => h.1 f1)] at hr
              subst hr
              obtain ⟨s1, s2⟩ := bytes_none m.text f1
              clear cw ce e1 hms f1 HC0
              go_wp2_with (fail)
              go_ret
              exact ⟨rfl, HB0.out.1⟩
            · obtain ⟨s1, s2⟩ := bytes_some m.text f1
              by_cases f2 : z + 1 ≤ m.pos ∧ m.pos ≤ 2000000000
              · rw [if_pos ⟨f1, by omega, f2.2⟩] at hr
                rw [decide_eq_true f2] at cw
                obtain ⟨n1, n2, n3⟩ := fin_small (x := m) (by omega) f2.2 (by omega)
                rw [n1] at ce
                generalize m.fin = z2 at *
                have HR := Lib.hid hr
                clear hr f1 f2 hms n1
                go_wp2_with (fail)
                with_reducible refine (cw _).mono ?_
                rintro e w3 ⟨rfl, rfl⟩
                clear cw
                go_wp2_with (fail)
                with_reducible refine (ce _).mono ?_
                rintro e w3 ⟨rfl, hb3⟩
                have HB1 := Lib.hid (And.intro (Below.then_ HB0.out.1 hb3) (HB0.out.2.below hb3))
                clear ce hb3 HB0 HC0
                go_wp2_with (fail)
                go_roundw
                case rel => exact ⟨k + 1, z2, by omega, by go_num, rfl, by omega, HR.out, HB1.out.2, HB1.out.1⟩
                case measure => simp [intOf]; omega
              · rw [if_neg (fun h => f2 ⟨by omega, h.2.2⟩)] at hr
                subst hr
                rw [decide_eq_false f2] at cw
                clear ce hms f1 HC0 f2
                go_wp2_with (fail)
                with_reducible refine (cw _).mono ?_
                rintro e w3 ⟨rfl, rfl⟩
                go_wp2_with (fail)
                go_ret
                exact ⟨rfl, HB0.out.1⟩
          · obtain rfl : k = ms.length := by omega
            rw [List.drop_length] at hr
            have q : ¬ (ms.length : Int) < (ms.length : Int) := by omega
            obtain rfl : true = res := hr
            clear hR
            go_wp2_with (fail)
            go_ret
            exact ⟨rfl, hB⟩
      · rw [if_neg (fun h => g3 h.2.2.2)]
        have q1 : ¬ (20 : Int) < (ms.length : Int) := by omega
        have q2 : (200 : Int) < ((t.size + sumP ms : Nat) : Int) := by omega
        generalize ((t.size + sumP ms : Nat) : Int) = hh at *
        have H0 := Lib.hid (And.intro hB0 hv0)
        clear hB0 hv0 hv g1 g2 g3 hs hn c3 hC0
        go_enter Try.func16, Try.ntmps16
        go_wp2_with (fail)
        with_reducible refine (c1 _).mono ?_
        rintro e w1 ⟨rfl, rfl⟩
        go_wp2_with (fail)
        with_reducible refine (c2 _ _ H0.out.2).mono ?_
        rintro e w1 ⟨rfl, hb1⟩
        have H1 := Lib.hid (Below.then_ H0.out.1 hb1)
        clear H0 hb1 c1 c2
        go_wp2_with (fail)
        go_ret
        exact ⟨rfl, H1.out⟩
    · rw [if_neg (fun h => g2 h.2.2.1)]
      have q1 : (20 : Int) < (ms.length : Int) := by omega
      have H0 := Lib.hid hB0
      clear hB0 hv0 hv g1 g2 hs hn c2 c3 hC0
      go_enter Try.func16, Try.ntmps16
      go_wp2_with (fail)
      with_reducible refine (c1 _).mono ?_
      rintro e w1 ⟨rfl, rfl⟩
      go_wp2_with (fail)
      go_ret
      exact ⟨rfl, H0.out⟩
  · rw [if_neg (fun h => g1 ⟨h.1, h.2.1⟩)]
    rw [decide_eq_false g1] at c1
    have H0 := Lib.hid hB0
    clear hB0 hv0 hv g1 hs hn c2 c3 hC0
    go_enter Try.func16, Try.ntmps16
    go_wp2_with (fail)
    with_reducible refine (c1 _).mono ?_
    rintro e w1 ⟨rfl, rfl⟩
    go_wp2_with (fail)
    go_ret
    exact ⟨rfl, H0.out⟩

set_option maxRecDepth 100000 in
set_option maxHeartbeats 4000000 in
theorem spec_piecesOk (r : Int) (t : ByteArray) (v : Value) (ms : List Pc) (w : World) (hv : RdP w v ms) (hs : t.size + sumP ms ≤ 4194304) (hn : ms.length ≤ 4194304) :
    Calls Try.prog 17 #[.agg #[.int .i64 r, .string t, v]] w fun e w' => e = .returned (.bool (piecesOk ⟨r, t, ms⟩)) ∧ Below w.heap.size w w' := by
  have hB0 := below_new w (.cells #[.int .i64 r, .string t, v] 26)
  have hv0 := hv.below hB0
  have hC0 := Cel.new w 26 #[.int .i64 r, .string t, v]
  have c1 := fun W => spec_in r 0 1000000000 W
  have c2 := fun u W h => spec_heldOf r t u ms W h hs hn
  have c3 := fun u W => spec_nextOf r t u W
  obtain ⟨a, c, rfl⟩ := hv.form
  unfold piecesOk heldP nextP
  simp only
  by_cases g1 : 0 ≤ r ∧ r ≤ 1000000000
  · rw [decide_eq_true g1] at c1
    by_cases g2 : ms.length ≤ 20
    · by_cases g3 : t.size + sumP ms ≤ 200
      · rw [if_pos ⟨g1.1, g1.2, g2, g3⟩]
        have q1 : ¬ (20 : Int) < (ms.length : Int) := by omega
        have q2 : ¬ (200 : Int) < ((t.size + sumP ms : Nat) : Int) := by omega
        rw [IntWalk.i64_in (r + (t.size : Int)) (by omega)] at c3
        have y0 : 0 ≤ r + (t.size : Int) ∧ r + (t.size : Int) ≤ 2000000200 := by omega
        have hsum : sumP ms ≤ 200 := by omega
        generalize ((t.size + sumP ms : Nat) : Int) = hh at *
        generalize r + (t.size : Int) = y at *
        generalize hg : okP y ms = res
        have HG := Lib.hid hg
        have H0 := Lib.hid (And.intro hB0 (And.intro hv0 hC0))
        clear hB0 hv0 hv hC0 g1 g2 g3 hs hn hg
        go_enter Try.func17, Try.ntmps17
        go_wp2_with (fail)
        with_reducible refine (c1 _).mono ?_
        rintro e w1 ⟨rfl, rfl⟩
        go_wp2_with (fail)
        with_reducible refine (c2 _ _ H0.out.2.1).mono ?_
        rintro e w1 ⟨rfl, hb1⟩
        obtain ⟨b0, b1, b2⟩ := cel3' (H0.out.2.2.kept hb1)
        have H1 := Lib.hid (And.intro (Below.then_ H0.out.1 hb1) (And.intro (H0.out.2.1.below hb1) (H0.out.2.2.kept hb1)))
        clear H0 hb1 c1 c2
        go_wp2_with (fail)
        with_reducible refine (c3 _ _).mono ?_
        rintro e w2 ⟨rfl, hb2⟩
        have H2 := Lib.hid (And.intro (Below.then_ H1.out.1 hb2) (And.intro (H1.out.2.1.below hb2) (H1.out.2.2.kept hb2)))
        clear H1 hb2 c3 b0 b1 b2
        go_wp2_with (fail)
        go_loopw [3, 4] (fun l i wr => ∃ k : Nat, ∃ z : Int, k ≤ ms.length ∧ i = .int .i64 k ∧ l = .int .i64 z ∧ (0 ≤ z ∧ z ≤ 2000000200) ∧ okP z (ms.drop k) = res ∧ RdP wr (.slice a ms.length c) ms ∧ Cel wr w.heap.size 26 #[.int .i64 r, .string t, .slice a ms.length c] ∧ Below w.heap.size w wr) (fun _ i _ => ms.length - (intOf i).toNat)
        case atStart => exact ⟨0, y, by omega, rfl, rfl, y0, by rw [List.drop_zero]; exact HG.out, H2.out.2.1, H2.out.2.2, H2.out.1⟩
        case round =>
          clear HG H2 y0
          obtain ⟨k, z, hk, rfl, rfl, hz, hr, hR, hC, hB⟩ := hrel
          obtain ⟨d0, d1, d2⟩ := cel3' hC
          by_cases hlt : k < ms.length
          · have q : (k : Int) < (ms.length : Int) := by omega
            have q2 : (0 : Int) ≤ (k : Int) := by omega
            obtain ⟨b, off, ha, hb, k0, k1, -⟩ := pc_at (P := Try.prog) hR k hlt
            subst ha
            rw [List.drop_eq_getElem_cons hlt] at hr
            have hms := sum_get hlt
            generalize ms[k] = m at *
            have HB0 := Lib.hid (And.intro (Below.then_ hB (below_pc wr m)) (And.intro (hR.below (below_pc wr m)) (hC.kept (below_pc wr m))))
            unfold okP at hr
            clear hR hB hC
            by_cases f1 : m.text.size = 0
            · rw [if_neg (fun h => h.1 f1)] at hr
              subst hr
              have s1 : ((m.text.size : Int) == 0) = true := by rw [f1]; rfl
              have s2 : (m.text.size : Int) = 0 := by omega
              clear hms f1
              go_wp2_with (fail)
              go_ret
              exact ⟨rfl, HB0.out.1⟩
            · have s1 : ((m.text.size : Int) == 0) = false := by rw [beq_eq_false_iff_ne]; omega
              have s2 : ¬ (m.text.size : Int) = 0 := by omega
              by_cases f2 : m.pos ≤ z
              · rw [if_neg (fun h => by omega)] at hr
                subst hr
                clear hms f1
                go_wp2_with (fail)
                go_ret
                exact ⟨rfl, HB0.out.1⟩
              · by_cases f3 : m.pos ≤ 2000000000
                · rw [if_pos ⟨f1, by omega, f3⟩] at hr
                  obtain ⟨n1, n2, n3⟩ := fin_small (x := m) (by omega) f3 (by omega)
                  unfold Pc.fin at n1 n2 n3 hr
                  have f4 : ¬ (2000000000 : Int) < m.pos := by omega
                  generalize hz2 : m.pos + (m.text.size : Int) = z2 at *
                  have HR := Lib.hid hr
                  clear hr f1 hms
                  go_wp2_with (fail)
                  go_roundw
                  case rel => exact ⟨k + 1, z2, by omega, by go_num, by first | rfl | (rw [← hz2]), by omega, HR.out, HB0.out.2.1, HB0.out.2.2, HB0.out.1⟩
                  case measure => simp [intOf]; omega
                · rw [if_neg (fun h => f3 h.2.2)] at hr
                  subst hr
                  have f4 : (2000000000 : Int) < m.pos := by omega
                  clear hms f1 f3
                  go_wp2_with (fail)
                  go_ret
                  exact ⟨rfl, HB0.out.1⟩
          · obtain rfl : k = ms.length := by omega
            rw [List.drop_length] at hr
            have q : ¬ (ms.length : Int) < (ms.length : Int) := by omega
            obtain rfl : true = res := hr
            clear hR hC
            go_wp2_with (fail)
            go_ret
            exact ⟨rfl, hB⟩
      · rw [if_neg (fun h => g3 h.2.2.2)]
        have q1 : ¬ (20 : Int) < (ms.length : Int) := by omega
        have q2 : (200 : Int) < ((t.size + sumP ms : Nat) : Int) := by omega
        generalize ((t.size + sumP ms : Nat) : Int) = hh at *
        have H0 := Lib.hid (And.intro hB0 hv0)
        clear hB0 hv0 hv g1 g2 g3 hs hn c3 hC0
        go_enter Try.func17, Try.ntmps17
        go_wp2_with (fail)
        with_reducible refine (c1 _).mono ?_
        rintro e w1 ⟨rfl, rfl⟩
        go_wp2_with (fail)
        with_reducible refine (c2 _ _ H0.out.2).mono ?_
        rintro e w1 ⟨rfl, hb1⟩
        have H1 := Lib.hid (Below.then_ H0.out.1 hb1)
        clear H0 hb1 c1 c2
        go_wp2_with (fail)
        go_ret
        exact ⟨rfl, H1.out⟩
    · rw [if_neg (fun h => g2 h.2.2.1)]
      have q1 : (20 : Int) < (ms.length : Int) := by omega
      have H0 := Lib.hid hB0
      clear hB0 hv0 hv g1 g2 hs hn c2 c3 hC0
      go_enter Try.func17, Try.ntmps17
      go_wp2_with (fail)
      with_reducible refine (c1 _).mono ?_
      rintro e w1 ⟨rfl, rfl⟩
      go_wp2_with (fail)
      go_ret
      exact ⟨rfl, H0.out⟩
  · rw [if_neg (fun h => g1 ⟨h.1, h.2.1⟩)]
    rw [decide_eq_false g1] at c1
    have H0 := Lib.hid hB0
    clear hB0 hv0 hv g1 hs hn c2 c3 hC0
    go_enter Try.func17, Try.ntmps17
    go_wp2_with (fail)
    with_reducible refine (c1 _).mono ?_
    rintro e w1 ⟨rfl, rfl⟩
    go_wp2_with (fail)
    go_ret
    exact ⟨rfl, H0.out⟩

end Go.Proofs.Ytdajfnonehianaa
