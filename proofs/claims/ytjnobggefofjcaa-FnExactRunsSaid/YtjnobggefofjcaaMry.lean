import Derived.Test.YtjnobggefofjcaaMrx
namespace Go.Proofs.Ytjnobggefofjcaa
open Go.RowKit

set_option maxRecDepth 100000 in
set_option maxHeartbeats 8000000 in
theorem spec_runs (v : Value) (ms : List Mp) (w : World) (hv : RdM w v ms) (hn : ms.length ≤ 1048576) :
    Calls Try.prog 27 #[v] w fun e w' => ∃ v', e = .returned v' ∧ OwnM w' w.heap.size w'.heap.size v' (runs ms) ∧ Below w.heap.size w w' := by
  have cO := fun W h => spec_mapsOk v ms W h (by omega)
  obtain ⟨a, c, rfl⟩ := hv.form
  have hbe := below_new w (.cells #[] 26)
  have ho0 := own_empty w
  have hv0 := hv.below hbe
  by_cases hok : mapsOk ms = true
  · have hfine := (mapsOk_fine ms hok).2
    rw [hok] at cO
    rw [← fold_runs ms hok]
    clear hok
    have HE := Lib.hid (And.intro hbe ho0)
    clear hbe ho0
    go_enter Try.func27, Try.ntmps27
    go_wp2_with (fail)
    with_reducible refine (cO _ hv0).mono ?_
    rintro e w0 ⟨rfl, hb0⟩
    have hB0 := Below.then_ HE.out.1 hb0
    have hO0 : OwnM w0 w.heap.size w0.heap.size (.slice (some ⟨w.heap.size, 0, none⟩) 0 0) [] := (HE.out.2.keep hb0 (Nat.le_refl _)).mono (Nat.le_refl _) hb0.size
    clear cO HE hb0 hv0
    go_wp2_with (fail)
    go_loopw [3, 4] (fun o i wr => ∃ k : Nat, k ≤ ms.length ∧ i = .int .i64 k ∧ OwnM wr w.heap.size wr.heap.size o ((ms.take k).foldl joinM []) ∧ Below w.heap.size w wr) (fun _ i _ => ms.length - (intOf i).toNat)
    case atStart => exact ⟨0, by omega, rfl, hO0, hB0⟩
    case round =>
      clear hB0 hO0
      obtain ⟨k, hk, rfl, hO, hB⟩ := hrel
      have hR := hv.below hB
      by_cases hlt : k < ms.length
      · have q : (k : Int) < (ms.length : Int) := by omega
        have q2 : (0 : Int) ≤ (k : Int) := by omega
        obtain ⟨b, off, ha, hb, k0, k1, k2, -⟩ := hR.at (P := Try.prog) k hlt
        subst ha
        have hsn := fold_snoc ms k hlt
        have hff := fold_fine (ms.take k) [] (by simp) (fun x hx => hfine x (List.mem_of_mem_take hx))
        have hll := fold_len (ms.take k) []
        rw [List.length_take] at hll
        have hfm := hfine ms[k] (List.getElem_mem hlt)
        generalize ms[k] = m at *
        generalize (ms.take k).foldl joinM [] = acc at *
        have hal : acc.length ≤ 1048576 := by simp at hll; omega
        obtain ⟨oa, oc, rfl, hform⟩ := hO.form
        have hfmb : 0 ≤ m.sub ∧ m.sub ≤ 1000000000 ∧ 0 ≤ m.seq ∧ m.seq ≤ 1000000000 ∧ 1 ≤ m.len ∧ m.len ≤ 100000 := hfm
        by_cases h0 : acc.length = 0
        · obtain rfl : acc = [] := List.eq_nil_of_length_eq_zero h0
          have hj : joinM [] m = [] ++ [m] := rfl
          rw [hj] at hsn
          have HT := Lib.hid hsn
          have HB := Lib.hid (And.intro hB hO)
          have q0 : IntKind.i64.wrap (((0 : Nat) : Int) - 1) = -1 := by decide
          have q3 : decide ((0 : Int) ≤ -1) = false := by decide
          obtain ⟨acc, hacc⟩ : ∃ acc : List Mp, acc = [] := ⟨_, rfl⟩
          clear hB hO hR hsn hj h0 hff hfm hfmb hform hll hacc acc
          go_wp2_with (fail)
          go_quiet (fail)
          go_upto_region 6 with (
            at_builtin
            refine wpList_append_maps rfl _ _ 24 24 rfl uM uM w.heap.size _ _ [] [m] rfl rfl (own_alloc (own_drewN HB.out.2) _) (by have := HB.out.1.size; simp; omega) (rd_one _ m) (by simp) ?_
            intro v' w1 hown hgrow _)
          have hB2 := below_app HB.out.1 HB.out.2 hgrow
          have HN := Lib.hid (And.intro hown hB2)
          clear hown hgrow hB2 k0 k1 k2
          go_wp2_with (fail)
          go_roundw
          case rel => exact ⟨k + 1, by omega, by go_num, by rw [HT.out]; exact HN.out.1, HN.out.2⟩
          case measure => simp [intOf]; omega
        · obtain ⟨p, hp⟩ : ∃ p, acc.length - 1 = p := ⟨_, rfl⟩
          have hpl : p < acc.length := by omega
          have hjm := joinM_at acc m (by omega)
          obtain ⟨g', rfl, hg1, hg2⟩ := hform (by omega)
          simp only [hp] at hjm
          have hlast : acc[p].fine := hff _ (List.getElem_mem hpl)
          obtain ⟨c0, c1, c2, hfz, hgw, -⟩ := hO.at p hpl
          have ff2 := hfz (p * 3 + 2)
          generalize hal2 : acc[p] = l at *
          have HA := Lib.hid hal2
          have hlb : 0 ≤ l.sub ∧ l.sub ≤ 1000000000 ∧ 0 ≤ l.seq ∧ l.seq ≤ 1000000000 ∧ 1 ≤ l.len ∧ l.len ≤ 100000 := hlast
          have q0 : IntKind.i64.wrap ((acc.length : Int) - 1) = (p : Int) := by rw [IntWalk.i64_in _ (by omega)]; omega
          have q1 : (0 : Int) ≤ (p : Int) ∧ (p : Int) < (acc.length : Int) := by omega
          have q3 : decide ((0 : Int) ≤ (p : Int)) = true := decide_eq_true q1.1
          have e1 : IntKind.i64.wrap (l.sub + l.len) = l.sub + l.len := IntWalk.i64_in _ (by omega)
          have e2 : IntKind.i64.wrap (l.seq + l.len) = l.seq + l.len := IntWalk.i64_in _ (by omega)
          have e3 : IntKind.i64.wrap (l.len + m.len) = l.len + m.len := IntWalk.i64_in _ (by omega)
          have HB := Lib.hid (And.intro hB hO)
          rw [hjm] at hsn
          clear hB hO hR hff hfm hform hll hfz hlast hjm h0 hal2
          by_cases h1 : l.sub + l.len = m.sub
          · have d1 : ((l.sub + l.len) == m.sub) = true := by simpa using h1
            have d1' : decide (l.sub + l.len = m.sub) = true := decide_eq_true h1
            by_cases h2 : l.seq + l.len = m.seq
            · have d2 : ((l.seq + l.len) == m.seq) = true := by simpa using h2
              have d2' : decide (l.seq + l.len = m.seq) = true := decide_eq_true h2
              by_cases h3 : l.len + m.len ≤ 100000
              · have d3 : decide (l.len + m.len ≤ 100000) = true := decide_eq_true h3
                rw [if_pos (show l.goesOn m from ⟨h1.symm, h2.symm, h3⟩)] at hsn
                have HT := Lib.hid hsn
                clear hsn h1 h2 hfmb hlb
                go_wp2_with (fail)
                go_quiet (fail)
                go_wp2_with (fail)
                refine wp_region_still_tail 15 (by kernel_rfl) (by kernel_rfl) ?_
                change wpStill _ _ (wr.drewN nq).drew (fun a' => wpList _ _ _ _ a' (wr.drewN nq).drew) _ _
                have c2' : (wr.drewN nq).drew.cell? ⟨g', p * 3 + 2, none⟩ = some (.int .i64 l.len) := c2
                have k2' : (wr.drewN nq).drew.cell? ⟨b, off + k * 3 + 2, none⟩ = some (.int .i64 m.len) := k2
                have ff2' : (wr.drewN nq).drew.frozen? ⟨g', p * 3 + 2, none⟩ = false := ff2
                have hO4 : OwnM (wr.drewN nq).drew w.heap.size (wr.drewN nq).drew.heap.size (.slice (some ⟨g', 0, none⟩) acc.length oc) acc := HB.out.2
                have hB4 : Below w.heap.size w (wr.drewN nq).drew := (below_drewN HB.out.1).drew
                have hp4 := hO4.putLen p hpl (l.len + m.len)
                rw [HA.out, ← HT.out] at hp4
                have hB5 := hB4.setCell (p := ⟨g', p * 3 + 2, none⟩) hg1 (.int .i64 (l.len + m.len))
                have hp5 := hp4.mono (Nat.le_refl _) (show (wr.drewN nq).drew.heap.size ≤ ((wr.drewN nq).drew.setCell ⟨g', p * 3 + 2, none⟩ (.int .i64 (l.len + m.len))).heap.size by simp)
                have HN := Lib.hid (And.intro hp5 hB5)
                clear hO4 hB4 hp4 hB5 hp5 c0 c1 c2 k0 k1 k2 ff2
                generalize (wr.drewN nq).drew = W4 at *
                simp only [List.take_succ_cons, List.take_zero, List.drop_succ_cons, List.drop_zero]
                iterate 15 still_step
                refine wpStill_nil ?_
                go_wp2_with (fail)
                go_roundw
                case rel => exact ⟨k + 1, by omega, by go_num, HN.out.1, HN.out.2⟩
                case measure => simp [intOf]; omega
              · have d3 : decide (l.len + m.len ≤ 100000) = false := decide_eq_false h3
                rw [if_neg (fun h : l.goesOn m => h3 h.2.2)] at hsn
                have HT := Lib.hid hsn
                clear hsn h1 h2 h3 hfmb hlb
                go_wp2_with (fail)
                go_quiet (fail)
                go_upto_region 6 with (
                  at_builtin
                  refine wpList_append_maps rfl _ _ 24 24 rfl uM uM w.heap.size _ _ acc [m] rfl rfl (own_alloc (own_drewN HB.out.2) _) (by have := HB.out.1.size; simp; omega) (rd_one _ m) (by simp; omega) ?_
                  intro v' w1 hown hgrow _)
                have hB2 := below_app HB.out.1 HB.out.2 hgrow
                have HN := Lib.hid (And.intro hown hB2)
                clear hown hgrow hB2 k0 k1 k2
                go_wp2_with (fail)
                go_roundw
                case rel => exact ⟨k + 1, by omega, by go_num, by rw [HT.out]; exact HN.out.1, HN.out.2⟩
                case measure => simp [intOf]; omega
            · have d2 : ((l.seq + l.len) == m.seq) = false := by simpa using h2
              have d2' : decide (l.seq + l.len = m.seq) = false := decide_eq_false h2
              rw [if_neg (fun h : l.goesOn m => h2 h.2.1.symm)] at hsn
              have HT := Lib.hid hsn
              clear hsn h1 h2 hfmb hlb
              go_wp2_with (fail)
              go_quiet (fail)
              go_upto_region 6 with (
                at_builtin
                refine wpList_append_maps rfl _ _ 24 24 rfl uM uM w.heap.size _ _ acc [m] rfl rfl (own_alloc (own_drewN HB.out.2) _) (by have := HB.out.1.size; simp; omega) (rd_one _ m) (by simp; omega) ?_
                intro v' w1 hown hgrow _)
              have hB2 := below_app HB.out.1 HB.out.2 hgrow
              have HN := Lib.hid (And.intro hown hB2)
              clear hown hgrow hB2 k0 k1 k2
              go_wp2_with (fail)
              go_roundw
              case rel => exact ⟨k + 1, by omega, by go_num, by rw [HT.out]; exact HN.out.1, HN.out.2⟩
              case measure => simp [intOf]; omega
          · have d1 : ((l.sub + l.len) == m.sub) = false := by simpa using h1
            have d1' : decide (l.sub + l.len = m.sub) = false := decide_eq_false h1
            rw [if_neg (fun h : l.goesOn m => h1 h.1.symm)] at hsn
            have HT := Lib.hid hsn
            clear hsn h1 hfmb hlb
            go_wp2_with (fail)
            go_quiet (fail)
            go_upto_region 6 with (
              at_builtin
              refine wpList_append_maps rfl _ _ 24 24 rfl uM uM w.heap.size _ _ acc [m] rfl rfl (own_alloc (own_drewN HB.out.2) _) (by have := HB.out.1.size; simp; omega) (rd_one _ m) (by simp; omega) ?_
              intro v' w1 hown hgrow _)
            have hB2 := below_app HB.out.1 HB.out.2 hgrow
            have HN := Lib.hid (And.intro hown hB2)
            clear hown hgrow hB2 k0 k1 k2
            go_wp2_with (fail)
            go_roundw
            case rel => exact ⟨k + 1, by omega, by go_num, by rw [HT.out]; exact HN.out.1, HN.out.2⟩
            case measure => simp [intOf]; omega
      · obtain rfl : k = ms.length := by omega
        rw [List.take_length] at hO
        have q : ¬ (ms.length : Int) < (ms.length : Int) := by omega
        have HB := Lib.hid (And.intro hB hO)
        clear hR hB hO
        go_wp2_with (fail)
        go_ret
        exact ⟨_, rfl, HB.out.2, HB.out.1⟩
  · rw [show mapsOk ms = false by simpa using hok] at cO
    have hr : runs ms = [] := by unfold runs; rw [if_neg hok]
    rw [hr]
    clear hok hr
    have HE := Lib.hid (And.intro hbe ho0)
    clear hbe ho0
    go_enter Try.func27, Try.ntmps27
    go_wp2_with (fail)
    with_reducible refine (cO _ hv0).mono ?_
    rintro e w0 ⟨rfl, hb0⟩
    go_wp2_with (fail)
    go_ret
    exact ⟨_, rfl, (HE.out.2.keep hb0 (Nat.le_refl _)).mono (Nat.le_refl _) hb0.size, Below.then_ HE.out.1 hb0⟩
end Go.Proofs.Ytjnobggefofjcaa
