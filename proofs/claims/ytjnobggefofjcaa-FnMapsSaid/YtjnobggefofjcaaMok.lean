import Derived.Test.YtjnobggefofjcaaMto
import Derived.Test.YtjnobggefofjcaaQuiet
namespace Go.Proofs.Ytjnobggefofjcaa
open Go.RowKit

theorem impl_within (n a b : Int) (w : World) :
    Calls Try.prog 48 #[.int .i64 n, .int .i64 a, .int .i64 b] w fun e w' => e = .returned (.bool (decide (a ≤ n ∧ n ≤ b))) ∧ w = w' := by
  by_cases h1 : a ≤ n
  · have q1 : decide (n ≥ a) = true := decide_eq_true h1
    by_cases h2 : n ≤ b
    · rw [decide_eq_true ⟨h1, h2⟩]
      go_enter Try.func48, Try.ntmps48
      go_wp2_with (fail)
      go_ret
      exact ⟨rfl, rfl⟩
    · rw [decide_eq_false (fun h => h2 h.2)]
      go_enter Try.func48, Try.ntmps48
      go_wp2_with (fail)
      go_ret
      exact ⟨rfl, rfl⟩
  · rw [decide_eq_false (fun h => h1 h.1)]
    go_enter Try.func48, Try.ntmps48
    go_wp2_with (fail)
    go_ret
    exact ⟨rfl, rfl⟩

theorem spec_in (n a b : Int) (w : World) :
    Calls Try.prog 36 #[.int .i64 n, .int .i64 a, .int .i64 b] w fun e w' => e = .returned (.bool (decide (a ≤ n ∧ n ≤ b))) ∧ w = w' := by
  by_cases h1 : a ≤ n
  · by_cases h2 : n ≤ b
    · rw [decide_eq_true ⟨h1, h2⟩]
      go_enter Try.func36, Try.ntmps36
      go_wp2_with (fail)
      go_ret
      exact ⟨rfl, rfl⟩
    · rw [decide_eq_false (fun h => h2 h.2)]
      go_enter Try.func36, Try.ntmps36
      go_wp2_with (fail)
      go_ret
      exact ⟨rfl, rfl⟩
  · rw [decide_eq_false (fun h => h1 h.1)]
    go_enter Try.func36, Try.ntmps36
    go_wp2_with (fail)
    go_ret
    exact ⟨rfl, rfl⟩

theorem below_box (w : World) (m : Mp) : Below w.heap.size w (w.alloc (.cells #[.int .i64 m.sub, .int .i64 m.seq, .int .i64 m.len] 26)) := below_new _ _

theorem impl_inlimits (m : Mp) (w : World) :
    Calls Try.prog 37 #[.agg m.cells] w fun e w' => e = .returned (.bool (decide m.fine)) ∧ Below w.heap.size w w' := by
  have HB := Lib.hid (below_box w m)
  have c1 := fun W => impl_within m.sub 0 1000000000 W
  have c2 := fun W => impl_within m.seq 0 1000000000 W
  have c3 := fun W => impl_within m.len 1 100000 W
  unfold Mp.cells
  by_cases h1 : 0 ≤ m.sub ∧ m.sub ≤ 1000000000
  · rw [decide_eq_true h1] at c1
    by_cases h2 : 0 ≤ m.seq ∧ m.seq ≤ 1000000000
    · rw [decide_eq_true h2] at c2
      have e3 : decide m.fine = decide (1 ≤ m.len ∧ m.len ≤ 100000) := decide_eq_decide.2 (by unfold Mp.fine; omega)
      rw [← e3] at c3
      generalize decide m.fine = r at *
      clear h1 h2 e3
      go_enter Try.func37, Try.ntmps37
      go_wp2_with (fail)
      with_reducible refine (c1 _).mono ?_
      rintro e w1 ⟨rfl, rfl⟩
      go_wp2_with (fail)
      with_reducible refine (c2 _).mono ?_
      rintro e w1 ⟨rfl, rfl⟩
      go_wp2_with (fail)
      with_reducible refine (c3 _).mono ?_
      rintro e w1 ⟨rfl, rfl⟩
      go_wp2_with (fail)
      go_ret
      exact ⟨rfl, HB.out⟩
    · rw [decide_eq_false h2] at c2
      have e3 : decide m.fine = false := decide_eq_false (fun h => by unfold Mp.fine at h; omega)
      rw [e3]
      clear h1 h2 e3
      go_enter Try.func37, Try.ntmps37
      go_wp2_with (fail)
      with_reducible refine (c1 _).mono ?_
      rintro e w1 ⟨rfl, rfl⟩
      go_wp2_with (fail)
      with_reducible refine (c2 _).mono ?_
      rintro e w1 ⟨rfl, rfl⟩
      go_wp2_with (fail)
      go_ret
      exact ⟨rfl, HB.out⟩
  · rw [decide_eq_false h1] at c1
    have e3 : decide m.fine = false := decide_eq_false (fun h => by unfold Mp.fine at h; omega)
    rw [e3]
    clear h1 e3
    go_enter Try.func37, Try.ntmps37
    go_wp2_with (fail)
    with_reducible refine (c1 _).mono ?_
    rintro e w1 ⟨rfl, rfl⟩
    go_wp2_with (fail)
    go_ret
    exact ⟨rfl, HB.out⟩

theorem impl_subend (m : Mp) (w : World) (hf : m.fine) :
    Calls Try.prog 33 #[.agg m.cells] w fun e w' => e = .returned (.int .i64 (m.sub + m.len)) ∧ Below w.heap.size w w' := by
  have HB := Lib.hid (below_box w m)
  have e1 : IntKind.i64.wrap (m.sub + m.len) = m.sub + m.len := IntWalk.i64_in _ (by unfold Mp.fine at hf; omega)
  unfold Mp.cells
  clear hf
  go_enter Try.func33, Try.ntmps33
  go_wp2_with (fail)
  go_ret
  exact ⟨rfl, HB.out⟩

theorem cel3 {W : World} {g : Nat} {t : TypeId} {x y z : Value} (h : Cel W g t #[x, y, z]) : W.cell? ⟨g, 0, none⟩ = some x ∧ W.cell? ⟨g, 1, none⟩ = some y ∧ W.cell? ⟨g, 2, none⟩ = some z :=
  ⟨h.cell 0, h.cell 1, h.cell 2⟩

set_option maxRecDepth 100000 in
set_option maxHeartbeats 2000000 in
theorem impl_mapsOk (v : Value) (ms : List Mp) (w : World) (hv : RdM w v ms) (hn : ms.length ≤ 9223372036854775807) :
    Calls Try.prog 17 #[v] w fun e w' => e = .returned (.bool (mapsOk ms)) ∧ Below w.heap.size w w' := by
  obtain ⟨a, c, rfl⟩ := hv.form
  unfold mapsOk
  by_cases hl : ms.length ≤ 40
  · rw [if_pos hl]
    have q0 : ¬ (40 : Int) < (ms.length : Int) := by omega
    generalize hg : okGo 0 ms = r
    have HG := Lib.hid hg
    clear hg
    go_enter Try.func17, Try.ntmps17
    go_wp2_with (fail)
    go_loopw [3, 11] (fun l i wr => ∃ k : Nat, ∃ y : Int, k ≤ ms.length ∧ i = .int .i64 k ∧ l = .int .i64 y ∧ okGo y (ms.drop k) = r ∧ RdM wr (.slice a ms.length c) ms ∧ Below w.heap.size w wr) (fun _ i _ => ms.length - (intOf i).toNat)
    case atStart => exact ⟨0, 0, by omega, rfl, rfl, by rw [List.drop_zero]; exact HG.out, hv, Below.refl _ _⟩
    case round =>
      clear HG hv
      obtain ⟨k, y, hk, rfl, rfl, hr, hR, hB⟩ := hrel
      by_cases hlt : k < ms.length
      · have q : (k : Int) < (ms.length : Int) := by omega
        have q2 : (0 : Int) ≤ (k : Int) := by omega
        obtain ⟨b, off, ha, hb, k0, k1, k2, -⟩ := hR.at (P := Try.prog) k hlt
        subst ha
        rw [List.drop_eq_getElem_cons hlt] at hr
        generalize ms[k] = m at *
        have HB0 := Lib.hid (Below.then_ hB (below_box wr m))
        have HR0 := Lib.hid (hR.below (below_box wr m))
        have HC0 := Lib.hid (Cel.new wr 26 #[.int .i64 m.sub, .int .i64 m.seq, .int .i64 m.len])
        have c1 := fun W => impl_inlimits m W
        unfold okGo at hr
        clear hR hB
        by_cases hf : m.fine
        · rw [decide_eq_true hf] at c1
          have c2 := fun W => impl_subend m W hf
          unfold Mp.cells at c1 c2
          by_cases hs : y ≤ m.sub
          · rw [if_pos ⟨hf, hs⟩] at hr
            have HR := Lib.hid hr
            have hs2 : ¬ m.sub < y := by omega
            clear hr hf hs
            go_wp2_with (fail)
            with_reducible refine (c1 _).mono ?_
            rintro e w1 ⟨rfl, hb1⟩
            have HB1 := Lib.hid (Below.then_ HB0.out hb1)
            have HR1 := Lib.hid (HR0.out.below hb1)
            have HC1 := HC0.out.kept hb1
            obtain ⟨b0, b1, b2⟩ := cel3 HC1
            clear HB0 HR0 HC0 hb1 k0 k1 k2 c1
            go_wp2_with (fail)
            with_reducible refine (c2 _).mono ?_
            rintro e w2 ⟨rfl, hb2⟩
            clear b0 b1 b2 c2
            go_wp2_with (fail)
            go_roundw
            case rel => exact ⟨k + 1, _, by omega, by go_num, rfl, HR.out, HR1.out.below hb2, Below.then_ HB1.out hb2⟩
            case measure => simp [intOf]; omega
          · rw [if_neg (fun h => hs h.2)] at hr
            subst hr
            have hs2 : m.sub < y := by omega
            clear hf hs
            go_wp2_with (fail)
            with_reducible refine (c1 _).mono ?_
            rintro e w1 ⟨rfl, hb1⟩
            have HB1 := Lib.hid (Below.then_ HB0.out hb1)
            have HC1 := HC0.out.kept hb1
            obtain ⟨b0, b1, b2⟩ := cel3 HC1
            clear HB0 HR0 HC0 hb1 k0 k1 k2 c1
            go_wp2_with (fail)
            go_ret
            exact ⟨rfl, HB1.out⟩
        · rw [decide_eq_false hf] at c1
          rw [if_neg (fun h => hf h.1)] at hr
          subst hr
          unfold Mp.cells at c1
          clear hf
          go_wp2_with (fail)
          with_reducible refine (c1 _).mono ?_
          rintro e w1 ⟨rfl, hb1⟩
          have HB1 := Lib.hid (Below.then_ HB0.out hb1)
          clear HB0 HR0 HC0 hb1 k0 k1 k2 c1
          go_wp2_with (fail)
          go_ret
          exact ⟨rfl, HB1.out⟩
      · obtain rfl : k = ms.length := by omega
        rw [List.drop_length] at hr
        have q : ¬ (ms.length : Int) < (ms.length : Int) := by omega
        obtain rfl : true = r := hr
        clear hR
        go_wp2_with (fail)
        go_ret
        exact ⟨rfl, hB⟩
  · rw [if_neg hl]
    have q0 : (40 : Int) < (ms.length : Int) := by omega
    go_enter Try.func17, Try.ntmps17
    go_wp2_with (fail)
    go_ret
    exact ⟨rfl, Below.refl _ _⟩

theorem below_drewN {B n : Nat} {w W : World} (h : Below B w W) : Below B w (W.drewN n) := ⟨h.os, h.tape, h.output, h.size, h.block⟩
theorem rdm_drewN {W : World} {n : Nat} {v : Value} {ms : List Mp} (h : RdM W v ms) : RdM (W.drewN n) v ms := h

/-- The end of the one ahead of place k. -/
def endAt (ms : List Mp) (k : Nat) : Int := if h : 0 < k ∧ k - 1 < ms.length then ms[k - 1].sub + ms[k - 1].len else 0
theorem endAt_zero (ms : List Mp) : endAt ms 0 = 0 := by unfold endAt; rw [dif_neg (by omega)]
theorem endAt_succ (ms : List Mp) (k : Nat) (h : k < ms.length) : endAt ms (k + 1) = ms[k].sub + ms[k].len := by
  unfold endAt
  rw [dif_pos ⟨by omega, by simpa using h⟩]
  simp

set_option maxRecDepth 100000 in
set_option maxHeartbeats 4000000 in
theorem spec_mapsOk (v : Value) (ms : List Mp) (w : World) (hv : RdM w v ms) (hn : ms.length ≤ 9223372036854775807) :
    Calls Try.prog 16 #[v] w fun e w' => e = .returned (.bool (mapsOk ms)) ∧ Below w.heap.size w w' := by
  obtain ⟨a, c, rfl⟩ := hv.form
  unfold mapsOk
  by_cases hl : ms.length ≤ 40
  · rw [if_pos hl]
    have q0 : ¬ (40 : Int) < (ms.length : Int) := by omega
    generalize hg : okGo 0 ms = r
    have HG := Lib.hid hg
    clear hg
    go_enter Try.func16, Try.ntmps16
    go_wp2_with (fail)
    go_loopw [3] (fun i wr => ∃ k : Nat, k ≤ ms.length ∧ i = .int .i64 k ∧ okGo (endAt ms k) (ms.drop k) = r ∧ (∀ h : 0 < k ∧ k - 1 < ms.length, ms[k - 1].fine) ∧ RdM wr (.slice a ms.length c) ms ∧ Below w.heap.size w wr) (fun i _ => ms.length - (intOf i).toNat)
    case atStart => exact ⟨0, by omega, rfl, by rw [endAt_zero, List.drop_zero]; exact HG.out, fun h => by omega, hv, Below.refl _ _⟩
    case round =>
      clear HG hv
      obtain ⟨k, hk, rfl, hr, hfp, hR, hB⟩ := hrel
      by_cases hlt : k < ms.length
      · have q : (k : Int) < (ms.length : Int) := by omega
        have q2 : (0 : Int) ≤ (k : Int) := by omega
        have hR0 := hR
        obtain ⟨b, off, ha, hb, k0, k1, k2, -⟩ := hR.at (P := Try.prog) k hlt
        subst ha
        rw [List.drop_eq_getElem_cons hlt] at hr
        have hes := endAt_succ ms k hlt
        obtain ⟨m, hmm0⟩ : ∃ m, ms[k] = m := ⟨_, rfl⟩
        rw [hmm0] at k0 k1 k2 hr hes
        have HM := Lib.hid hmm0
        clear hmm0
        have HB0 := Lib.hid (Below.then_ hB (below_box wr m))
        have HR0 := Lib.hid (hR.below (below_box wr m))
        have c1 := fun W => spec_in m.sub 0 1000000000 W
        have c2 := fun W => spec_in m.seq 0 1000000000 W
        have c3 := fun W => spec_in m.len 1 100000 W
        unfold okGo at hr
        clear hR hB
        by_cases h1 : 0 ≤ m.sub ∧ m.sub ≤ 1000000000
        · rw [decide_eq_true h1] at c1
          by_cases h2 : 0 ≤ m.seq ∧ m.seq ≤ 1000000000
          · rw [decide_eq_true h2] at c2
            by_cases h3 : 1 ≤ m.len ∧ m.len ≤ 100000
            · rw [decide_eq_true h3] at c3
              have hf : m.fine := by unfold Mp.fine; omega
              by_cases hz : k = 0
              · rw [show endAt ms k = 0 by rw [hz, endAt_zero], if_pos ⟨hf, h1.1⟩] at hr
                rw [← hes] at hr
                have HR := Lib.hid (And.intro hr hf)
                have q6 : ¬ (0 : Int) < (k : Int) := by omega
                have q8 : ¬ (0 : Nat) < k := by omega
                clear hr hf hes hfp h1 h2 h3 hR0 hz
                go_wp2_with (fail)
                go_quiet (first | ((go_at_call 36; with_reducible exact q_first (q_none c1))) | ((go_at_call 36; with_reducible exact q_first (q_none c2))) | ((go_at_call 36; with_reducible exact q_first (q_none c3))))
                go_wp2_with (fail)
                go_roundw
                case rel => exact ⟨k + 1, by omega, by go_num, HR.out.1, fun _ => by have := HR.out.2; rw [← HM.out] at this; simpa using this, rdm_drewN HR0.out, below_drewN HB0.out⟩
                case measure => simp [intOf]; omega
              · have hp : k - 1 < ms.length := by omega
                obtain ⟨p, hpk⟩ : ∃ p, k - 1 = p := ⟨_, rfl⟩
                have hpf := hfp ⟨by omega, hp⟩
                have hep : endAt ms k = ms[k - 1].sub + ms[k - 1].len := by unfold endAt; rw [dif_pos ⟨by omega, hp⟩]
                obtain ⟨_, _, ha, -, kp0, -, kp2, -⟩ := HR0.out.at (P := Try.prog) (k - 1) hp
                injection ha with ha
                injection ha with ha1 ha2
                subst ha1 ha2
                rw [hep] at hr
                clear hep hfp
                simp only [hpk] at hpf hr kp0 kp2
                generalize ms[p]'(by omega) = pm at *
                have e1 : IntKind.i64.wrap ((k : Int) - 1) = (p : Int) := by rw [IntWalk.i64_in _ (by omega)]; omega
                have e2 : (k : Int) - 1 = (p : Int) := by omega
                have q6 : (0 : Int) < (k : Int) := by omega
                have q7 : (0 : Int) ≤ (p : Int) ∧ (p : Int) < (ms.length : Int) := by omega
                have q8 : (0 : Nat) < k := by omega
                have q9 : 0 ≤ pm.sub ∧ pm.sub ≤ 1000000000 ∧ 1 ≤ pm.len ∧ pm.len ≤ 100000 := by unfold Mp.fine at hpf; omega
                by_cases hs : pm.sub + pm.len ≤ m.sub
                · rw [if_pos ⟨hf, hs⟩, ← hes] at hr
                  have HR := Lib.hid (And.intro hr hf)
                  have s1 : ¬ m.sub < pm.sub + pm.len := by omega
                  have s2 : decide (m.sub < pm.sub + pm.len) = false := decide_eq_false s1
                  clear hr hf hes h1 h2 h3 hR0 hs hpf
                  go_wp2_with (fail)
                  go_quiet (first | ((go_at_call 36; with_reducible exact q_first (q_none c1))) | ((go_at_call 36; with_reducible exact q_first (q_none c2))) | ((go_at_call 36; with_reducible exact q_first (q_none c3))))
                  go_wp2_with (fail)
                  go_roundw
                  case rel => exact ⟨k + 1, by omega, by go_num, HR.out.1, fun _ => by have := HR.out.2; rw [← HM.out] at this; simpa using this, rdm_drewN HR0.out, below_drewN HB0.out⟩
                  case measure => simp [intOf]; omega
                · rw [if_neg (fun h => hs h.2)] at hr
                  subst hr
                  have s1 : m.sub < pm.sub + pm.len := by omega
                  have s2 : decide (m.sub < pm.sub + pm.len) = true := decide_eq_true s1
                  clear hf hes h1 h2 h3 hR0 hs hpf
                  go_wp2_with (fail)
                  go_quiet (first | ((go_at_call 36; with_reducible exact q_first (q_none c1))) | ((go_at_call 36; with_reducible exact q_first (q_none c2))) | ((go_at_call 36; with_reducible exact q_first (q_none c3))))
                  go_wp2_with (fail)
                  go_ret
                  exact ⟨rfl, below_drewN HB0.out⟩
            · rw [decide_eq_false h3] at c3
              rw [if_neg (fun h => h3 (by have := h.1; unfold Mp.fine at this; omega))] at hr
              subst hr
              clear hes h1 h2 h3 hR0 hfp
              go_wp2_with (fail)
              go_quiet (first | ((go_at_call 36; with_reducible exact q_first (q_none c1))) | ((go_at_call 36; with_reducible exact q_first (q_none c2))) | ((go_at_call 36; with_reducible exact q_first (q_none c3))))
              go_wp2_with (fail)
              go_ret
              exact ⟨rfl, below_drewN HB0.out⟩
          · rw [decide_eq_false h2] at c2
            rw [if_neg (fun h => h2 (by have := h.1; unfold Mp.fine at this; omega))] at hr
            subst hr
            clear hes h1 h2 hR0 hfp
            go_wp2_with (fail)
            go_quiet (first | ((go_at_call 36; with_reducible exact q_first (q_none c1))) | ((go_at_call 36; with_reducible exact q_first (q_none c2))) | ((go_at_call 36; with_reducible exact q_first (q_none c3))))
            go_wp2_with (fail)
            go_ret
            exact ⟨rfl, below_drewN HB0.out⟩
        · rw [decide_eq_false h1] at c1
          rw [if_neg (fun h => h1 (by have := h.1; unfold Mp.fine at this; omega))] at hr
          subst hr
          clear hes h1 hR0 hfp
          go_wp2_with (fail)
          go_quiet (first | ((go_at_call 36; with_reducible exact q_first (q_none c1))) | ((go_at_call 36; with_reducible exact q_first (q_none c2))) | ((go_at_call 36; with_reducible exact q_first (q_none c3))))
          go_wp2_with (fail)
          go_ret
          exact ⟨rfl, below_drewN HB0.out⟩
      · obtain rfl : k = ms.length := by omega
        rw [List.drop_length] at hr
        have q : ¬ (ms.length : Int) < (ms.length : Int) := by omega
        obtain rfl : true = r := hr
        clear hR
        go_wp2_with (fail)
        go_ret
        exact ⟨rfl, hB⟩
  · rw [if_neg hl]
    have q0 : (40 : Int) < (ms.length : Int) := by omega
    go_enter Try.func16, Try.ntmps16
    go_wp2_with (fail)
    go_ret
    exact ⟨rfl, Below.refl _ _⟩
end Go.Proofs.Ytjnobggefofjcaa
