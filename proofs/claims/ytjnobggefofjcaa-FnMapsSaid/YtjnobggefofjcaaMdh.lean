import Derived.Test.YtjnobggefofjcaaMdg
namespace Go.Proofs.Ytjnobggefofjcaa
open Go.RowKit

theorem gone_kept (s : Int) (l : List Mp) : cutGo s l = l.filter fun m => !gone s m := by
  unfold cutGo gone
  congr 1
  funext m
  by_cases h : s < m.sub + m.len
  · rw [decide_eq_true h, decide_eq_false (by omega)]; rfl
  · rw [decide_eq_false h, decide_eq_true (by omega)]; rfl

theorem goneAt_spec (s : Int) (l : List Mp) : (∀ j (h : j < l.length), j < goneAt s l → gone s l[j] = false) ∧ ∀ h : goneAt s l < l.length, gone s l[goneAt s l] = true := by
  unfold goneAt
  refine ⟨fun j h hj => ?_, fun h => List.findIdx_getElem (w := h)⟩
  have := List.not_of_lt_findIdx hj
  simpa using this
theorem cutGo_all (s : Int) (l : List Mp) (h : ∀ m ∈ l, gone s m = false) : cutGo s l = l := by
  rw [gone_kept]
  exact List.filter_eq_self.2 fun m hm => by rw [h m hm]; rfl
theorem cutGo_first (s : Int) (l : List Mp) (h : goneAt s l < l.length) : cutGo s (l.take (goneAt s l + 1)) = l.take (goneAt s l) := by
  have h1 := (goneAt_spec s l).1
  have h2 := (goneAt_spec s l).2 h
  rw [List.take_succ_eq_append_getElem h]
  have h3 : cutGo s (l.take (goneAt s l)) = l.take (goneAt s l) := cutGo_all s _ fun m hm => by
    obtain ⟨j, hj, rfl⟩ := List.getElem_of_mem hm
    rw [List.getElem_take]
    rw [List.length_take] at hj
    exact h1 j (by omega) (by omega)
  rw [cutGo_snoc, h3]
  unfold gone at h2
  rw [if_neg (by have := of_decide_eq_true h2; omega), List.append_nil]

theorem take_set_succ (l : List Mp) (i : Nat) (m : Mp) (h : i < l.length) : (l.set i m).take (i + 1) = l.take i ++ [m] := by
  rw [List.set_eq_take_append_cons_drop, if_pos h, List.take_append, List.length_take, Nat.min_eq_left (by omega), List.take_of_length_le (by rw [List.length_take]; omega)]
  have e : i + 1 - i = 1 := by omega
  rw [e]
  rfl

set_option maxRecDepth 100000 in
set_option maxHeartbeats 4000000 in
theorem impl_delete (v : Value) (ms : List Mp) (s : Int) (B C G : Nat) (w : World) (hv : OwnM w B C v ms) (hC : C ≤ w.heap.size) (hf : ∀ m ∈ ms, m.fine) (hc : w.cell? ⟨G, 0, none⟩ = some (.int .i64 s)) (hG : v.ownBlock ≠ some G) (hn : ms.length ≤ 1048576) :
    Calls Try.prog 46 #[v, .func (.func 47) #[] #[.pointer (some ⟨G, 0, none⟩)]] w fun e w' => ∃ v', e = .returned v' ∧ OwnM w' B C v' (cutGo s ms) ∧ w.grownBy w' v.ownBlock := by
  have hGw := World.block_lt_of_cell? _ _ hc
  have ci := impl_index v ms s G w hv.rd hf hc hn
  obtain ⟨a, c, rfl, hform⟩ := hv.form
  by_cases h0 : goneAt s ms < ms.length
  · rw [if_pos h0] at ci
    obtain ⟨g, rfl, hg1, hg2⟩ := hform (by omega)
    have hfirst := cutGo_first s ms h0
    have hlen0 : (ms.take (goneAt s ms)).length = goneAt s ms := by rw [List.length_take]; omega
    generalize goneAt s ms = i0 at *
    have q0 : ((i0 : Int) == -1) = false := beq_eq_false_iff_ne.2 (by omega)
    have q1 : ¬ (i0 : Int) = -1 := by omega
    have HF := Lib.hid (And.intro hfirst hlen0)
    clear hfirst hlen0
    go_enter Try.func46, Try.ntmps46
    go_wp2_with (fail)
    with_reducible refine ci.mono ?_
    rintro e w0 ⟨rfl, hb0⟩
    have hO0 := hv.keep hb0 hC
    have hgr0 : w.grownBy w0 (some g) := ⟨hb0.os, hb0.tape, hb0.output, hb0.size, fun k hk _ => hb0.block k hk⟩
    clear ci
    go_wp2_with (fail)
    go_loopw [5, 6] (fun x y wr => ∃ (i j : Nat) (cur : List Mp), i < j ∧ j ≤ ms.length ∧ x = .int .i64 i ∧ y = .int .i64 j ∧ OwnM wr B C (.slice (some ⟨g, 0, none⟩) ms.length c) cur ∧ cur.length = ms.length ∧ cur.take i = cutGo s (ms.take j) ∧ cur.drop j = ms.drop j ∧ w.grownBy wr (some g)) (fun _ y _ => ms.length - (intOf y).toNat)
    case atStart => exact ⟨i0, i0 + 1, ms, by omega, by omega, rfl, by go_num, hO0, rfl, HF.out.1.symm, rfl, hgr0⟩
    case round =>
      clear hO0 hgr0 hb0
      obtain ⟨i, j, cur, hij, hj, rfl, rfl, hO, hcl, htake, hdrop, hgr⟩ := hrel
      by_cases hlt : j < ms.length
      · have q : (j : Int) < (ms.length : Int) := by omega
        have q2 : (0 : Int) ≤ (j : Int) := by omega
        have q3 : (0 : Int) ≤ (i : Int) ∧ (i : Int) < (ms.length : Int) := by omega
        have hjc : j < cur.length := by omega
        have hmj : cur[j] = ms[j] := by
          have h1 := congrArg (fun l => l[0]?) hdrop
          simp only [List.getElem?_drop, Nat.add_zero] at h1
          rw [List.getElem?_eq_getElem hjc, List.getElem?_eq_getElem hlt] at h1
          exact Option.some.inj h1
        obtain ⟨k0, k1, k2, -, hgw, -⟩ := hO.at j hjc
        rw [hmj] at k0 k1 k2
        have htk : cutGo s (ms.take (j + 1)) = cutGo s (ms.take j) ++ (if s < ms[j].sub + ms[j].len then [ms[j]] else []) := by rw [List.take_succ_eq_append_getElem hlt, cutGo_snoc]
        have hcw : wr.cell? ⟨G, 0, none⟩ = some (.int .i64 s) := by rw [hgr.cell_far ⟨G, 0, none⟩ hGw (fun e => hG (by simpa [Value.ownBlock] using e.symm))]; exact hc
        have hbx := below_box wr ms[j]
        have hO1 := hO.keep hbx (Nat.le_trans hC hgr.size)
        have hcw1 := (hbx.cell (p := ⟨G, 0, none⟩) (World.block_lt_of_cell? _ _ hcw)).trans hcw
        have cc := impl_cutfn ms[j] s G (wr.alloc (.cells #[.int .i64 ms[j].sub, .int .i64 ms[j].seq, .int .i64 ms[j].len] 26)) (hf ms[j] (List.getElem_mem hlt)) hcw1
        have hcel := Cel.new wr 26 #[.int .i64 ms[j].sub, .int .i64 ms[j].seq, .int .i64 ms[j].len]
        have hgr1 : w.grownBy (wr.alloc (.cells #[.int .i64 ms[j].sub, .int .i64 ms[j].seq, .int .i64 ms[j].len] 26)) (some g) := hgr.trans ⟨hbx.os, hbx.tape, hbx.output, hbx.size, fun k hk _ => hbx.block k hk⟩
        generalize ms[j] = m at *
        unfold Mp.cells at cc
        have HH := Lib.hid (And.intro hO1 (And.intro hcel (And.intro htake (And.intro hdrop (And.intro htk hgr1)))))
        clear hO hO1 hcel htake hdrop htk hgr hgr1 hcw hcw1 hbx hmj
        cases hp : gone s m with
        | true =>
          rw [hp] at cc
          have hp2 : ¬ s < m.sub + m.len := by unfold gone at hp; have := of_decide_eq_true hp; omega
          have HP := Lib.hid hp2
          clear hp hp2
          go_wp2_with (fail)
          with_reducible refine cc.mono ?_
          rintro e w1 ⟨rfl, hb1⟩
          have hO2 := HH.out.1.keep hb1 (by have := HH.out.2.2.2.2.2.size; omega)
          have hgr2 := HH.out.2.2.2.2.2.trans (⟨hb1.os, hb1.tape, hb1.output, hb1.size, fun k hk _ => hb1.block k hk⟩ : World.grownBy _ w1 (some g))
          have HN := Lib.hid (And.intro hO2 hgr2)
          clear cc k0 k1 k2 hb1 hO2 hgr2
          go_wp2_with (fail)
          go_roundw
          case rel =>
            obtain ⟨-, -, htake, hdrop, htk, -⟩ := HH.out
            refine ⟨i, j + 1, cur, by omega, by omega, rfl, by go_num, HN.out.1, hcl, ?_, ?_, HN.out.2⟩
            · rw [htk, if_neg (by have := HP.out; omega), List.append_nil]; exact htake
            · have := congrArg (List.drop 1) hdrop
              simpa [List.drop_drop] using this
          case measure => simp [intOf]; omega
        | false =>
          rw [hp] at cc
          have hp2 : s < m.sub + m.len := by unfold gone at hp; have := of_decide_eq_false hp; omega
          have HP := Lib.hid hp2
          clear hp hp2
          go_wp2_with (fail)
          with_reducible refine cc.mono ?_
          rintro e w1 ⟨rfl, hb1⟩
          have hO2 := HH.out.1.keep hb1 (by have := HH.out.2.2.2.2.2.size; omega)
          have hgr2 := HH.out.2.2.2.2.2.trans (⟨hb1.os, hb1.tape, hb1.output, hb1.size, fun k hk _ => hb1.block k hk⟩ : World.grownBy _ w1 (some g))
          obtain ⟨b0, b1, b2⟩ := cel3 (HH.out.2.1.kept hb1)
          have hic : i < cur.length := by omega
          obtain ⟨c0, c1, c2, hff, hgw1, -⟩ := hO2.at i hic
          have f0 := hff (i * 3)
          have f1 := hff (i * 3 + 1)
          have f2 := hff (i * 3 + 2)
          have hput := hO2.put i hic m
          have hgp : w1.grownBy (w1.setCells g (i * 3) m.cells.toList) (some g) := ⟨rfl, rfl, rfl, by rw [setCells3_size]; exact Nat.le_refl _, fun k hk hne => setCells3_other g _ _ w1 k (fun e => hne (by rw [e]))⟩
          have hgr3 := hgr2.trans hgp
          rw [set3_cells] at hput hgr3
          have HN := Lib.hid (And.intro hput hgr3)
          generalize cur[i] = mi at *
          clear cc k0 k1 k2 hb1 hO2 hgr2 hput hgr3 hff hgp
          go_wp2_with (fail)
          go_roundw
          case rel =>
            obtain ⟨-, -, htake, hdrop, htk, -⟩ := HH.out
            refine ⟨i + 1, j + 1, cur.set i m, by omega, by omega, by go_num, by go_num, HN.out.1, by rw [List.length_set]; exact hcl, ?_, ?_, HN.out.2⟩
            · rw [htk, if_pos HP.out, take_set_succ _ _ _ hic, htake]
            · rw [List.drop_set_of_lt (by omega)]
              have := congrArg (List.drop 1) hdrop
              simpa [List.drop_drop] using this
          case measure => simp [intOf]; omega
      · obtain rfl : j = ms.length := by omega
        have q : ¬ (ms.length : Int) < (ms.length : Int) := by omega
        rw [List.take_length] at htake
        have hcap : ms.length ≤ c := by
          rcases hO.1.2 with ⟨h2, _⟩ | ⟨g', cap', cur', hv', -, -, r1, -⟩
          · cases h2
          · injection hv' with e1 e2 e3
            omega
        have hci : ¬ c = i := by omega
        have q3 : (0 : Int) ≤ (i : Int) ∧ (i : Int) ≤ (ms.length : Int) ∧ (i : Int) ≤ (c : Int) := by omega
        obtain ⟨W2, hcl2, hO2, hgr2, -⟩ := run_clear_maps hO i (c - i) (by omega)
        have HN := Lib.hid (And.intro hO2 (And.intro (hgr.trans hgr2) htake))
        have hlen : (cur.take i).length = i := by rw [List.length_take]; omega
        have HL := Lib.hid hlen
        clear hO hgr hgr2 hO2 htake hdrop hlen
        go_wp2_with (fail)
        go_ret
        exact ⟨_, rfl, by have := HN.out.1; rw [HN.out.2.2] at this; exact this, HN.out.2.1⟩
  · rw [if_neg h0] at ci
    have hall : cutGo s ms = ms := cutGo_all s ms fun m hm => by
      obtain ⟨j, hj, rfl⟩ := List.getElem_of_mem hm
      exact (goneAt_spec s ms).1 j hj (by omega)
    rw [hall]
    clear hall h0
    go_enter Try.func46, Try.ntmps46
    go_wp2_with (fail)
    with_reducible refine ci.mono ?_
    rintro e w0 ⟨rfl, hb0⟩
    have hO0 := hv.keep hb0 hC
    have hgr0 : w.grownBy w0 (Value.slice a ms.length c).ownBlock := ⟨hb0.os, hb0.tape, hb0.output, hb0.size, fun k hk _ => hb0.block k hk⟩
    have HN := Lib.hid (And.intro hO0 hgr0)
    clear ci hO0 hgr0 hb0
    go_wp2_with (fail)
    go_ret
    exact ⟨_, rfl, HN.out.1, HN.out.2⟩
end Go.Proofs.Ytjnobggefofjcaa
