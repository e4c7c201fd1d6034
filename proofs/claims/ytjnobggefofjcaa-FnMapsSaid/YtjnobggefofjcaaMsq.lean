import Derived.Test.YtjnobggefofjcaaMok
namespace Go.Proofs.Ytjnobggefofjcaa
open Go.RowKit

theorem seqGo_cons (s : Int) (m : Mp) (r : List Mp) : seqGo s (m :: r) = if m.holds s then (m.seq + s - m.sub, true) else seqGo s r := by rw [seqGo]

set_option maxRecDepth 100000 in
set_option maxHeartbeats 2000000 in
theorem impl_seqAt (v : Value) (ms : List Mp) (s : Int) (w : World) (hv : RdM w v ms) (hn : ms.length ≤ 9223372036854775807) :
    Calls Try.prog 13 #[v, .int .i64 s] w fun e w' => e = .returned (.tuple #[.int .i64 (seqAt ms s).1, .bool (seqAt ms s).2]) ∧ Below w.heap.size w w' := by
  have cO := impl_mapsOk v ms w hv hn
  obtain ⟨a, c, rfl⟩ := hv.form
  unfold seqAt
  by_cases hok : mapsOk ms = true
  · have hfine := (mapsOk_fine ms hok).2
    rw [hok] at cO
    rw [if_pos hok]
    generalize hg : seqGo s ms = r
    have HG := Lib.hid hg
    clear hg hok
    go_enter Try.func13, Try.ntmps13
    go_wp2_with (fail)
    with_reducible refine cO.mono ?_
    rintro e w0 ⟨rfl, hb0⟩
    have hv0 := hv.below hb0
    clear cO
    go_wp2_with (fail)
    go_loopw [13] (fun i wr => ∃ k : Nat, k ≤ ms.length ∧ i = .int .i64 k ∧ seqGo s (ms.drop k) = r ∧ RdM wr (.slice a ms.length c) ms ∧ Below w.heap.size w wr) (fun i _ => ms.length - (intOf i).toNat)
    case atStart => exact ⟨0, by omega, rfl, by rw [List.drop_zero]; exact HG.out, hv0, hb0⟩
    case round =>
      clear HG hv hv0 hb0
      obtain ⟨k, hk, rfl, hr, hR, hB⟩ := hrel
      by_cases hlt : k < ms.length
      · have q : (k : Int) < (ms.length : Int) := by omega
        have q2 : (0 : Int) ≤ (k : Int) := by omega
        obtain ⟨b, off, ha, hb, k0, k1, k2, -⟩ := hR.at (P := Try.prog) k hlt
        subst ha
        rw [List.drop_eq_getElem_cons hlt, seqGo_cons] at hr
        have hf := hfine ms[k] (List.getElem_mem hlt)
        generalize ms[k] = m at *
        have HB0 := Lib.hid (Below.then_ hB (below_box wr m))
        have HR0 := Lib.hid (hR.below (below_box wr m))
        have HC0 := Lib.hid (Cel.new wr 26 #[.int .i64 m.sub, .int .i64 m.seq, .int .i64 m.len])
        have c2 := fun W => impl_subend m W hf
        have hfb : 0 ≤ m.sub ∧ m.sub ≤ 1000000000 ∧ 0 ≤ m.seq ∧ m.seq ≤ 1000000000 ∧ 1 ≤ m.len ∧ m.len ≤ 100000 := hf
        unfold Mp.cells at c2
        clear hR hB hfine hf
        by_cases h1 : m.sub ≤ s
        · by_cases h2 : s < m.sub + m.len
          · rw [if_pos (show m.holds s from ⟨h1, h2⟩)] at hr
            subst hr
            have h3 : -9223372036854775808 ≤ m.seq + s ∧ m.seq + s ≤ 9223372036854775807 := by omega
            have h4 : -9223372036854775808 ≤ m.seq + s - m.sub ∧ m.seq + s - m.sub ≤ 9223372036854775807 := by omega
            have e1 : IntKind.i64.wrap (m.seq + s) = m.seq + s := IntWalk.i64_in _ (by omega)
            have e2 : IntKind.i64.wrap (m.seq + s - m.sub) = m.seq + s - m.sub := IntWalk.i64_in _ (by omega)
            go_wp2_with (fail)
            with_reducible refine (c2 _).mono ?_
            rintro e w1 ⟨rfl, hb1⟩
            have HB1 := Lib.hid (Below.then_ HB0.out hb1)
            obtain ⟨b0, b1, b2⟩ := cel3 (HC0.out.kept hb1)
            clear HB0 HR0 HC0 hb1 k0 k1 k2 c2 hfb h3 h4
            go_wp2_with (fail)
            go_ret2
            exact ⟨rfl, HB1.out⟩
          · rw [if_neg (fun h : m.holds s => h2 h.2)] at hr
            have HR := Lib.hid hr
            clear hr hfb
            go_wp2_with (fail)
            with_reducible refine (c2 _).mono ?_
            rintro e w1 ⟨rfl, hb1⟩
            have HB1 := Lib.hid (Below.then_ HB0.out hb1)
            have HR1 := Lib.hid (HR0.out.below hb1)
            clear HB0 HR0 HC0 hb1 k0 k1 k2 c2
            go_wp2_with (fail)
            go_roundw
            case rel => exact ⟨k + 1, by omega, by go_num, HR.out, HR1.out, HB1.out⟩
            case measure => simp [intOf]; omega
        · rw [if_neg (fun h : m.holds s => h1 h.1)] at hr
          have HR := Lib.hid hr
          clear hr hfb c2
          go_wp2_with (fail)
          go_roundw
          case rel => exact ⟨k + 1, by omega, by go_num, HR.out, HR0.out, HB0.out⟩
          case measure => simp [intOf]; omega
      · obtain rfl : k = ms.length := by omega
        rw [List.drop_length] at hr
        have q : ¬ (ms.length : Int) < (ms.length : Int) := by omega
        obtain rfl : (0, false) = r := hr
        clear hR
        go_wp2_with (fail)
        go_ret2
        exact ⟨rfl, hB⟩
  · rw [if_neg hok]
    rw [show mapsOk ms = false by simpa using hok] at cO
    clear hok
    go_enter Try.func13, Try.ntmps13
    go_wp2_with (fail)
    with_reducible refine cO.mono ?_
    rintro e w0 ⟨rfl, hb0⟩
    go_wp2_with (fail)
    go_ret2
    exact ⟨rfl, hb0⟩

set_option maxRecDepth 100000 in
set_option maxHeartbeats 2000000 in
theorem spec_seqAt (v : Value) (ms : List Mp) (s : Int) (w : World) (hv : RdM w v ms) (hn : ms.length ≤ 9223372036854775807) (hs0 : -9223372036854775808 ≤ s) (hs1 : s ≤ 9223372036854775807) :
    Calls Try.prog 25 #[v, .int .i64 s] w fun e w' => e = .returned (.tuple #[.int .i64 (seqAt ms s).1, .bool (seqAt ms s).2]) ∧ Below w.heap.size w w' := by
  have cO := spec_mapsOk v ms w hv hn
  obtain ⟨a, c, rfl⟩ := hv.form
  unfold seqAt
  by_cases hok : mapsOk ms = true
  · have hfine := (mapsOk_fine ms hok).2
    rw [hok] at cO
    rw [if_pos hok]
    generalize hg : seqGo s ms = r
    have HG := Lib.hid hg
    clear hg hok
    go_enter Try.func25, Try.ntmps25
    go_wp2_with (fail)
    with_reducible refine cO.mono ?_
    rintro e w0 ⟨rfl, hb0⟩
    have hv0 := hv.below hb0
    clear cO
    go_wp2_with (fail)
    go_loopw [6] (fun i wr => ∃ k : Nat, k ≤ ms.length ∧ i = .int .i64 k ∧ seqGo s (ms.drop k) = r ∧ RdM wr (.slice a ms.length c) ms ∧ Below w.heap.size w wr) (fun i _ => ms.length - (intOf i).toNat)
    case atStart => exact ⟨0, by omega, rfl, by rw [List.drop_zero]; exact HG.out, hv0, hb0⟩
    case round =>
      clear HG hv hv0 hb0
      obtain ⟨k, hk, rfl, hr, hR, hB⟩ := hrel
      by_cases hlt : k < ms.length
      · have q : (k : Int) < (ms.length : Int) := by omega
        have q2 : (0 : Int) ≤ (k : Int) := by omega
        obtain ⟨b, off, ha, hb, k0, k1, k2, -⟩ := hR.at (P := Try.prog) k hlt
        subst ha
        rw [List.drop_eq_getElem_cons hlt, seqGo_cons] at hr
        have hf := hfine ms[k] (List.getElem_mem hlt)
        generalize ms[k] = m at *
        have HB0 := Lib.hid hB
        have HR0 := Lib.hid hR
        have hfb : 0 ≤ m.sub ∧ m.sub ≤ 1000000000 ∧ 0 ≤ m.seq ∧ m.seq ≤ 1000000000 ∧ 1 ≤ m.len ∧ m.len ≤ 100000 := hf
        have e0 : IntKind.i64.wrap (m.sub + m.len) = m.sub + m.len := IntWalk.i64_in _ (by omega)
        clear hR hB hfine hf
        by_cases h1 : m.sub ≤ s
        · have d1 : decide (m.sub ≤ s) = true := decide_eq_true h1
          by_cases h2 : s < m.sub + m.len
          · rw [if_pos (show m.holds s from ⟨h1, h2⟩)] at hr
            subst hr
            have d2 : decide (s < m.sub + m.len) = true := decide_eq_true h2
            have h3 : -9223372036854775808 ≤ m.seq + s ∧ m.seq + s ≤ 9223372036854775807 := by omega
            have h4 : -9223372036854775808 ≤ m.seq + s - m.sub ∧ m.seq + s - m.sub ≤ 9223372036854775807 := by omega
            have e1 : IntKind.i64.wrap (m.seq + s) = m.seq + s := IntWalk.i64_in _ (by omega)
            have e2 : IntKind.i64.wrap (m.seq + s - m.sub) = m.seq + s - m.sub := IntWalk.i64_in _ (by omega)
            clear hfb h3 h4
            go_wp2_with (fail)
            go_quiet (fail)
            go_wp2_with (fail)
            go_quiet (fail)
            go_wp2_with (fail)
            go_ret2
            exact ⟨rfl, below_drewN HB0.out⟩
          · rw [if_neg (fun h : m.holds s => h2 h.2)] at hr
            have HR := Lib.hid hr
            have d2 : decide (s < m.sub + m.len) = false := decide_eq_false h2
            clear hr hfb
            go_wp2_with (fail)
            go_quiet (fail)
            go_wp2_with (fail)
            go_roundw
            case rel => exact ⟨k + 1, by omega, by go_num, HR.out, rdm_drewN HR0.out, below_drewN HB0.out⟩
            case measure => simp [intOf]; omega
        · rw [if_neg (fun h : m.holds s => h1 h.1)] at hr
          have HR := Lib.hid hr
          have d1 : decide (m.sub ≤ s) = false := decide_eq_false h1
          clear hr hfb
          go_wp2_with (fail)
          go_quiet (fail)
          go_wp2_with (fail)
          go_roundw
          case rel => exact ⟨k + 1, by omega, by go_num, HR.out, rdm_drewN HR0.out, below_drewN HB0.out⟩
          case measure => simp [intOf]; omega
      · obtain rfl : k = ms.length := by omega
        rw [List.drop_length] at hr
        have q : ¬ (ms.length : Int) < (ms.length : Int) := by omega
        obtain rfl : (0, false) = r := hr
        clear hR
        go_wp2_with (fail)
        go_ret2
        exact ⟨rfl, hB⟩
  · rw [if_neg hok]
    rw [show mapsOk ms = false by simpa using hok] at cO
    clear hok
    go_enter Try.func25, Try.ntmps25
    go_wp2_with (fail)
    with_reducible refine cO.mono ?_
    rintro e w0 ⟨rfl, hb0⟩
    go_wp2_with (fail)
    go_ret2
    exact ⟨rfl, hb0⟩
end Go.Proofs.Ytjnobggefofjcaa
