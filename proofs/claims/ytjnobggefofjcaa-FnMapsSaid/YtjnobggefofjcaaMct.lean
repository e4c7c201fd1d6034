import Derived.Test.YtjnobggefofjcaaMap
namespace Go.Proofs.Ytjnobggefofjcaa
open Go.RowKit

theorem cutGo_snoc (s : Int) (l : List Mp) (m : Mp) : cutGo s (l ++ [m]) = cutGo s l ++ (if s < m.sub + m.len then [m] else []) := by
  unfold cutGo
  rw [List.filter_append]
  congr 1
  by_cases h : s < m.sub + m.len <;> simp [h]
theorem cutGo_len (s : Int) (l : List Mp) : (cutGo s l).length ≤ l.length := List.length_filter_le _ _

theorem below_app {w wr W2 : World} {n : Nat} {o : Obj} {v : Value} {cur : List Mp} (hB : Below w.heap.size w wr) (hO : OwnM wr w.heap.size wr.heap.size v cur) (hg : ((wr.drewN n).alloc o).grownBy W2 v.ownBlock) : Below w.heap.size w W2 :=
  below_grown ((below_drewN hB).alloc hB.size o) hg (fun g hg => (hO.block g hg).1)

set_option maxRecDepth 100000 in
set_option maxHeartbeats 4000000 in
theorem spec_cutMaps (v : Value) (ms : List Mp) (s : Int) (w : World) (hv : RdM w v ms) (hn : ms.length ≤ 1048576) :
    Calls Try.prog 26 #[v, .int .i64 s] w fun e w' => ∃ v', e = .returned v' ∧ OwnM w' w.heap.size w'.heap.size v' (cutMaps ms s) ∧ Below w.heap.size w w' := by
  have cO := fun W h => spec_mapsOk v ms W h (by omega)
  obtain ⟨a, c, rfl⟩ := hv.form
  have hbe := below_new w (.cells #[] 26)
  have ho0 := own_empty w
  have hv0 := hv.below hbe
  unfold cutMaps
  by_cases hok : mapsOk ms = true
  · have hfine := (mapsOk_fine ms hok).2
    rw [hok] at cO
    rw [if_pos hok]
    clear hok
    have HE := Lib.hid (And.intro hbe ho0)
    clear hbe ho0
    go_enter Try.func26, Try.ntmps26
    go_wp2_with (fail)
    with_reducible refine (cO _ hv0).mono ?_
    rintro e w0 ⟨rfl, hb0⟩
    have hB0 := Below.then_ HE.out.1 hb0
    have hO0 : OwnM w0 w.heap.size w0.heap.size (.slice (some ⟨w.heap.size, 0, none⟩) 0 0) [] := (HE.out.2.keep hb0 (Nat.le_refl _)).mono (Nat.le_refl _) hb0.size
    clear cO HE hb0 hv0
    go_wp2_with (fail)
    go_loopw [5, 7] (fun o i wr => ∃ k : Nat, k ≤ ms.length ∧ i = .int .i64 k ∧ OwnM wr w.heap.size wr.heap.size o (cutGo s (ms.take k)) ∧ Below w.heap.size w wr) (fun _ i _ => ms.length - (intOf i).toNat)
    case atStart => exact ⟨0, by omega, rfl, hO0, hB0⟩
    case round =>
      clear hB0 hO0
      obtain ⟨k, hk, rfl, hO, hB⟩ := hrel
      have hR := hv.below hB
      by_cases hlt : k < ms.length
      · have q : (k : Int) < (ms.length : Int) := by omega
        have q2 : (0 : Int) ≤ (k : Int) := by omega
        obtain ⟨b, off, ha, hb, k0, k1, k2, -⟩ := hR.at (P := Try.prog) k hlt
        subst ha
        have htk : cutGo s (ms.take (k + 1)) = cutGo s (ms.take k) ++ (if s < ms[k].sub + ms[k].len then [ms[k]] else []) := by rw [List.take_succ_eq_append_getElem hlt, cutGo_snoc]
        have hf := hfine ms[k] (List.getElem_mem hlt)
        have hlen : (cutGo s (ms.take k)).length ≤ ms.length := Nat.le_trans (cutGo_len _ _) (by rw [List.length_take]; omega)
        generalize ms[k] = m at *
        generalize cutGo s (ms.take k) = cur at *
        have hfb : 0 ≤ m.sub ∧ m.sub ≤ 1000000000 ∧ 0 ≤ m.seq ∧ m.seq ≤ 1000000000 ∧ 1 ≤ m.len ∧ m.len ≤ 100000 := hf
        have e0 : IntKind.i64.wrap (m.sub + m.len) = m.sub + m.len := IntWalk.i64_in _ (by omega)
        have HB := Lib.hid (And.intro hB hO)
        clear hf hR hB hO
        by_cases h2 : s < m.sub + m.len
        · rw [if_pos h2] at htk
          have HT := Lib.hid htk
          have d2 : decide (s < m.sub + m.len) = true := decide_eq_true h2
          clear htk hfb
          go_wp2_with (fail)
          go_quiet (fail)
          go_upto_region 5 with (
            at_builtin
            refine wpList_append_maps rfl _ _ 24 24 rfl uM uM w.heap.size u5 _ cur [m] rfl rfl (own_alloc (own_drewN HB.out.2) _) (by have := HB.out.1.size; simp; omega) (rd_one _ m) (by simp; omega) ?_
            intro v' w1 hown hgrow _)
          have hB2 := below_app HB.out.1 HB.out.2 hgrow
          have HN := Lib.hid (And.intro hown hB2)
          clear hown hgrow hB2 k0 k1 k2
          go_wp2_with (fail)
          go_roundw
          case rel => exact ⟨k + 1, by omega, by go_num, by rw [HT.out]; exact HN.out.1, HN.out.2⟩
          case measure => simp [intOf]; omega
        · rw [if_neg h2, List.append_nil] at htk
          have HT := Lib.hid htk
          have d2 : decide (s < m.sub + m.len) = false := decide_eq_false h2
          clear htk hfb
          go_wp2_with (fail)
          go_quiet (fail)
          go_wp2_with (fail)
          go_roundw
          case rel => exact ⟨k + 1, by omega, by go_num, by rw [HT.out]; exact own_drewN HB.out.2, below_drewN HB.out.1⟩
          case measure => simp [intOf]; omega
      · obtain rfl : k = ms.length := by omega
        rw [List.take_length] at hO
        have q : ¬ (ms.length : Int) < (ms.length : Int) := by omega
        have HB := Lib.hid (And.intro hB hO)
        clear hR hB hO
        go_wp2_with (fail)
        go_ret
        exact ⟨_, rfl, HB.out.2, HB.out.1⟩
  · rw [if_neg hok]
    rw [show mapsOk ms = false by simpa using hok] at cO
    clear hok
    have HE := Lib.hid (And.intro hbe ho0)
    clear hbe ho0
    go_enter Try.func26, Try.ntmps26
    go_wp2_with (fail)
    with_reducible refine (cO _ hv0).mono ?_
    rintro e w0 ⟨rfl, hb0⟩
    have hB0 := Below.then_ HE.out.1 hb0
    have hO0 : OwnM w0 w.heap.size w0.heap.size (.slice (some ⟨w.heap.size, 0, none⟩) 0 0) [] := (HE.out.2.keep hb0 (Nat.le_refl _)).mono (Nat.le_refl _) hb0.size
    clear cO HE hb0 hv0
    go_wp2_with (fail)
    go_loopw [5, 7] (fun o i wr => ∃ k : Nat, k ≤ ms.length ∧ i = .int .i64 k ∧ OwnM wr w.heap.size wr.heap.size o (ms.take k) ∧ Below w.heap.size w wr) (fun _ i _ => ms.length - (intOf i).toNat)
    case atStart => exact ⟨0, by omega, rfl, hO0, hB0⟩
    case round =>
      clear hB0 hO0
      obtain ⟨k, hk, rfl, hO, hB⟩ := hrel
      have hR := hv.below hB
      by_cases hlt : k < ms.length
      · have q : (k : Int) < (ms.length : Int) := by omega
        have q2 : (0 : Int) ≤ (k : Int) := by omega
        obtain ⟨b, off, ha, hb, k0, k1, k2, -⟩ := hR.at (P := Try.prog) k hlt
        subst ha
        have htk : ms.take (k + 1) = ms.take k ++ [ms[k]] := List.take_succ_eq_append_getElem hlt
        have hlen : (ms.take k).length ≤ ms.length := by rw [List.length_take]; omega
        generalize ms[k] = m at *
        generalize ms.take k = cur at *
        have HB := Lib.hid (And.intro hB hO)
        clear hR hB hO
        have HT := Lib.hid htk
        clear htk
        go_wp2_with (fail)
        go_quiet (fail)
        go_upto_region 5 with (
          at_builtin
          refine wpList_append_maps rfl _ _ 24 24 rfl uM uM w.heap.size u5 _ cur [m] rfl rfl (own_alloc (own_drewN HB.out.2) _) (by have := HB.out.1.size; simp; omega) (rd_one _ m) (by simp; omega) ?_
          intro v' w1 hown hgrow _)
        have hB2 := below_app HB.out.1 HB.out.2 hgrow
        have HN := Lib.hid (And.intro hown hB2)
        clear hown hgrow hB2 k0 k1 k2
        go_wp2_with (fail)
        go_roundw
        case rel => exact ⟨k + 1, by omega, by go_num, by rw [HT.out]; exact HN.out.1, HN.out.2⟩
        case measure => simp [intOf]; omega
      · obtain rfl : k = ms.length := by omega
        rw [List.take_length] at hO
        have q : ¬ (ms.length : Int) < (ms.length : Int) := by omega
        have HB := Lib.hid (And.intro hB hO)
        clear hR hB hO
        go_wp2_with (fail)
        go_ret
        exact ⟨_, rfl, HB.out.2, HB.out.1⟩
end Go.Proofs.Ytjnobggefofjcaa
