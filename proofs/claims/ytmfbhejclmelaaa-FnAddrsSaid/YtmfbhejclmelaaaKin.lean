import Derived.Test.YtmfbhejclmelaaaAcv
import Derived.Test.YtmfbhejclmelaaaEk2
import Derived.Lib.AppendZerosOnto
import Derived.Lib.Overlaps
import Derived.Shelf.Spec.SlicesInsert
import Derived.Deep.RegionLawGrows
namespace Go.Proofs.Ytmfbhejclmelaaa
open Go.RowKit

theorem kown_part {W : World} {B C g n cap c : Nat} {ms : List Kk} (h : OwnE kvK W B C (.slice (some ⟨g, 0, none⟩) n cap) ms) (i m : Nat) (hm : i + m ≤ ms.length) : RdE kvK W (.slice (some ⟨g, i * 2, none⟩) m c) ((ms.drop i).take m) := by
  have := RdE.part (c' := c) h.rd i m hm
  rw [show (0 : Nat) + i * kvK.n = i * 2 by show 0 + i * 2 = i * 2; omega] at this
  exact this
theorem kestore {W : World} {B C g n cap : Nat} {xs : List Kk} (h : OwnE kvK W B C (.slice (some ⟨g, 0, none⟩) n cap) xs) (i : Nat) (ys : List Kk) (hi : i ≤ xs.length) (hc : i + ys.length ≤ cap) :
    ∃ W', (storeCells ⟨g, i * 2, none⟩ (kvK.flat ys) 0).run Try.prog W = .ok () W' ∧ OwnE kvK W' B C (.slice (some ⟨g, 0, none⟩) (max n (i + ys.length)) cap) (xs.take i ++ ys ++ xs.drop (i + ys.length)) ∧ W.grownBy W' (some g) ∧ W'.heap.size = W.heap.size := estore h i ys hi hc
theorem kflat_length (l : List Kk) : (kvK.flat l).length = l.length * 2 := eflat_length kvK l
theorem kflat_take (l : List Kk) (i : Nat) : (kvK.flat l).take (i * 2) = kvK.flat (l.take i) := eflat_take kvK l i
theorem kinfo : ∃ i, Try.prog.info? 71 = some i ∧ i.zero = some (.agg #[.int .i64 0, .int .i64 0]) ∧ i.size = 2 ∧ i.bytes = 16 := einfo kvK
theorem kzeros_flat (n : Nat) : (Builtin.zeroCells (Value.agg #[.int .i64 0, .int .i64 0]).cells n).toList = kvK.flat (List.replicate n kvK.zero) := by
  have h := ezeros kvK n
  have e : Builtin.zeroCells (Value.agg #[.int .i64 0, .int .i64 0]).cells n = madeCells (Value.agg #[.int .i64 0, .int .i64 0]).cells (n * 2) := rfl
  have h2 : (kvK.flat (List.replicate n kvK.zero)).toArray = madeCells (Value.agg #[.int .i64 0, .int .i64 0]).cells (n * 2) := h
  rw [e, ← h2]

/-- copy into a row of one's own: as many mappings as the shorter one has. -/
theorem run_copy_keys (dT sT : TypeId) (hd : Try.prog.underlying dT = some (.slice 71)) {W : World} {B C g n cap : Nat} {ms : List Kk} (h : OwnE kvK W B C (.slice (some ⟨g, 0, none⟩) n cap) ms)
    (i dLen b off sLen : Nat) (ys : List Kk) (hr : W.rangeAt b off (kvK.flat ys)) (hk : ys.length = min sLen dLen) (hi : i ≤ ms.length) (hc : i + ys.length ≤ cap) :
    ∃ W', (∀ ty dc sc, (Builtin.copy_ #[dT, sT] ty #[.slice (some ⟨g, i * 2, none⟩) dLen dc, .slice (some ⟨b, off, none⟩) sLen sc]).run Try.prog W = .ok (goInt ys.length) W') ∧
      OwnE kvK W' B C (.slice (some ⟨g, 0, none⟩) (max n (i + ys.length)) cap) (ms.take i ++ ys ++ ms.drop (i + ys.length)) ∧ W.grownBy W' (some g) ∧ W'.heap.size = W.heap.size := by
  obtain ⟨W', h1, h2, h3, h4⟩ := kestore h i ys hi hc
  refine ⟨W', fun ty dc sc => ?_, h2, h3, h4⟩
  obtain ⟨i0, hq, -, hz1, -⟩ := kinfo
  have hl := run_loadCells_list (P := Try.prog) W ⟨b, off, none⟩ (kvK.flat ys) (fun j v hv => by rw [Addr.add_mid]; exact hr j v hv)
  rw [kflat_length] at hl
  simp [Builtin.copy_, run_underlying hd, Builtin.lenOf, Builtin.firstCells, sizeOf, typeInfo, hq, hz1, ← hk, hl, h1]

theorem goInt_natK (k : Nat) : goInt k = .int .i64 (k : Int) := rfl

/-- A row that append lays anew, with zero mappings behind. -/
theorem kown_zeros (W : World) (os : List Kk) (k r : Nat) (h : os.length + k + r ≤ maxLen) :
    OwnE kvK (W.alloc (.cells ((kvK.flat os).toArray ++ Builtin.zeroCells (Value.agg #[.int .i64 0, .int .i64 0]).cells k ++ Builtin.zeroCells (Value.agg #[.int .i64 0, .int .i64 0]).cells r) 71)) W.heap.size (W.heap.size + 1) (.slice (some ⟨W.heap.size, 0, none⟩) (os.length + k) (os.length + k + r)) (os ++ List.replicate k kvK.zero) := by
  refine ⟨⟨by rw [kflat_length]; rfl, .inr ⟨W.heap.size, os.length + k + r, _, by simp, Nat.le_refl _, Cel.new W 71 _, by simp, h, ?_, ?_⟩⟩, fun g' hg' => by simp [Value.ownBlock] at hg'; omega⟩
  · show _ = (os.length + k + r) * 2
    have e : ∀ n, (Builtin.zeroCells (Value.agg #[.int .i64 0, .int .i64 0]).cells n).size = n * 2 := fun n => by simp [Builtin.zeroCells, Value.cells]
    simp only [Array.size_append, List.size_toArray, kflat_length, e]
    omega
  · have hz := kzeros_flat k
    rw [Array.toList_append, Array.toList_append, hz, eflat_append]
    have e : (os ++ List.replicate k kvK.zero).length * 2 = (kvK.flat os ++ kvK.flat (List.replicate k kvK.zero)).length := by
      simp only [List.length_append, kflat_length]; omega
    show List.take ((os ++ List.replicate k kvK.zero).length * 2) _ = _
    rw [e]
    exact List.take_left

set_option maxRecDepth 100000 in
set_option maxHeartbeats 4000000 in
/-- slices.Insert of one mapping into a row of the caller's own. -/
theorem insert_key (v : Value) (ms : List Kk) (m : Kk) (i h B : Nat) (w : World) (hv : OwnE kvK w B w.heap.size v ms) (hB : B ≤ w.heap.size) (hi : i ≤ ms.length) (hx : Cel w h 71 #[.int .i64 m.1, .int .i64 (m.2 : Int)]) (hne : v.ownBlock ≠ some h) (hn : ms.length ≤ 1048576) :
    Calls Try.prog 49 #[v, .int .i64 (i : Int), .slice (some ⟨h, 0, none⟩) 1 1] w fun e w' => ∃ v', e = .returned v' ∧ OwnE kvK w' B w'.heap.size v' (ms.take i ++ m :: ms.drop i) ∧ w.grownBy w' v.ownBlock := by
  have hrd : RdE kvK w (.slice (some ⟨h, 0, none⟩) 1 1) [m] := ⟨_, _, rfl, fun _ => ⟨h, 0, rfl, fun j u hu => by
    rw [Nat.zero_add, hx.cell j]
    match j, hu with
    | 0, hu => simpa [EK.flat, kvK] using hu
    | 1, hu => simpa [EK.flat, kvK] using hu⟩⟩

  have hhw := hx.lt
  by_cases hin : i = ms.length
  · have hres : ms.take i ++ m :: ms.drop i = ms ++ [m] := by rw [hin, List.take_length, List.drop_length]
    rw [hres]
    have HV := Lib.hid (And.intro hv hrd)
    rcases hv.1.2 with ⟨rfl, h0⟩ | ⟨g, cap, cur, rfl, hgB, hh, hcap, hcm, -⟩
    · obtain rfl : ms = [] := List.eq_nil_of_length_eq_zero h0
      obtain rfl : i = 0 := hin
      clear hres hi hn hv hrd hx
      go_enter Try.func49, Try.ntmps49
      go_wp2_with (at_builtin; refine wpList_append_els kvK rfl _ _ 53 53 rfl uKv uKv B _ _ [] [m] rfl rfl HV.out.1 hB HV.out.2 (by simp) ?_; intro v' w1 hown hgrow _; have HN := Lib.hid (And.intro hown hgrow); clear hown hgrow)
      obtain ⟨va', vc', rfl, -⟩ := HN.out.1.form
      go_wp2_with (fail)
      go_ret
      exact ⟨_, rfl, HN.out.1, HN.out.2⟩
    · subst hin
      have q1 : ((ms.length : Int) == (ms.length : Int)) = true := by simp
      have q2 : (0 : Int) ≤ (ms.length : Int) ∧ (ms.length : Int) ≤ (cap : Int) := by omega
      unfold maxLen at hcm
      clear hres hi hv hrd hx hh
      by_cases hce : cap = ms.length
      · go_enter Try.func49, Try.ntmps49
        go_wp2_with (at_builtin; refine wpList_append_els kvK rfl _ _ 53 53 rfl uKv uKv B _ _ ms [m] rfl rfl HV.out.1 hB HV.out.2 (by simp; omega) ?_; intro v' w1 hown hgrow _; have HN := Lib.hid (And.intro hown hgrow); clear hown hgrow)
        go_ret
        exact ⟨_, rfl, HN.out.1, HN.out.2⟩
      · go_enter Try.func49, Try.ntmps49
        go_wp2_with (at_builtin; refine wpList_append_els kvK rfl _ _ 53 53 rfl uKv uKv B _ _ ms [m] rfl rfl HV.out.1 hB HV.out.2 (by simp; omega) ?_; intro v' w1 hown hgrow _; have HN := Lib.hid (And.intro hown hgrow); clear hown hgrow)
        go_ret
        exact ⟨_, rfl, HN.out.1, HN.out.2⟩
  · have hlt : i < ms.length := by omega
    rcases hv.1.2 with ⟨rfl, h0⟩ | ⟨g, cap, cur, rfl, hgB, hh, hcap, hcm, hcs, hct⟩
    · omega
    · have q1 : ((i : Int) == (ms.length : Int)) = false := by simp; omega
      have q1' : ¬ ((i : Int) = (ms.length : Int)) := by omega
      have q2 : (0 : Int) ≤ (i : Int) ∧ (i : Int) ≤ (ms.length : Int) ∧ (i : Int) ≤ (cap : Int) := by omega
      have hgw : g < w.heap.size := (Array.getElem?_eq_some_iff.1 hh).1
      have hgh : h ≠ g := fun e => hne (by simp [Value.ownBlock, e])
      unfold maxLen at hcm
      have hci : ¬ cap = i := by omega
      have hpart := kown_part (c := cap) hv i (ms.length - i) (by omega)
      have hdrop : (ms.drop i).take (ms.length - i) = ms.drop i := List.take_of_length_le (by rw [List.length_drop]; omega)
      rw [hdrop] at hpart
      obtain ⟨_, _, hpe, hpr⟩ := hpart
      obtain ⟨bb, oo, hpa, hrange⟩ := hpr (by rw [List.length_drop]; omega)
      injection hpe with hpe e1 e2
      clear e1 e2
      rw [hpa] at hpe
      injection hpe with hpe
      injection hpe with hp1 hp2 hp3
      clear hp3
      subst hp1 hp2
      clear hpa hpr hdrop
      obtain ⟨_, _, hqe, hqr⟩ := hrd
      obtain ⟨b2, o2, hqa, hrange2⟩ := hqr (by simp)
      injection hqe with hqe e1 e2
      clear e1 e2
      rw [hqa] at hqe
      injection hqe with hqe
      injection hqe with hq1 hq2 hq3
      clear hq3
      subst hq1 hq2
      clear hqa hqr
      by_cases hroom : cap < ms.length + 1
      · have hz3 : (cap : Int) < (ms.length : Int) + 1 := by omega
        have hcn : cap = ms.length := by omega
        obtain ⟨i0, hi0, hz0, hzs, hzb⟩ := kinfo
        have hli : (ms.take i).length = i := by rw [List.length_take]; omega
        have hold : (Builtin.firstCells i0.size i (.slice (some ⟨g, 0, none⟩) i cap)).run Try.prog w.drew = .ok (kvK.flat (ms.take i)).toArray w.drew := by
          have hl := run_loadCells_list (P := Try.prog) w.drew ⟨g, 0, none⟩ (kvK.flat (ms.take i)) (fun j u hu => by
            rw [Addr.add_mid]
            rw [← kflat_take, List.getElem?_take] at hu
            split at hu
            · exact etake_range hh hct j u hu
            · cases hu)
          rw [kflat_length, hli] at hl
          rw [hzs]
          exact hl
        have hk1 : i + (ms.length + 1 - i) = ms.length + 1 := by omega
        have hrz := fun ty => Lib.run_append_grow_zeros (P := Try.prog) w 53 3 ty 71 i0 _ .i64 .i64 uKv Try.underlying3 hi0 hz0 (some ⟨g, 0, none⟩) i cap (kvK.flat (ms.take i)) hold (ms.length + 1 - i) (by omega) (by omega) (by omega) (by omega) (by rw [hzb]; omega) (by rw [hzb, hk1]; exact growslice_fits (by omega) (by omega))
        rw [hk1] at hrz
        have hGn : ms.length + 1 ≤ grownCap w (ms.length + 1) cap 71 := grownCap_ge w _ _ _
        have hGm := grownCap_le_maxLen w (ms.length + 1) cap 71 (by unfold maxLen; omega)
        generalize grownCap w (ms.length + 1) cap 71 = G at *
        have hOz := kown_zeros w.drew (ms.take i) (ms.length + 1 - i) (G - (ms.length + 1)) (by rw [hli, hk1]; omega)
        rw [hli, hk1, show ms.length + 1 + (G - (ms.length + 1)) = G by omega] at hOz
        have hbl := below_new w.drew (.cells ((kvK.flat (ms.take i)).toArray ++ Builtin.zeroCells (Value.agg #[.int .i64 0, .int .i64 0]).cells (ms.length + 1 - i) ++ Builtin.zeroCells (Value.agg #[.int .i64 0, .int .i64 0]).cells (G - (ms.length + 1))) 71)
        obtain ⟨W1, hW1⟩ : ∃ W1, W1 = w.drew.alloc (.cells ((kvK.flat (ms.take i)).toArray ++ Builtin.zeroCells (Value.agg #[.int .i64 0, .int .i64 0]).cells (ms.length + 1 - i) ++ Builtin.zeroCells (Value.agg #[.int .i64 0, .int .i64 0]).cells (G - (ms.length + 1))) 71) := ⟨_, rfl⟩
        rw [← hW1] at hOz hbl hrz
        have hz1 : W1.heap.size = w.heap.size + 1 := by rw [hW1]; simp
        have hbl2 : Below w.heap.size w W1 := (Below.refl _ _).drew.trans hbl
        have hOz2 : OwnE kvK W1 w.heap.size (w.heap.size + 1) (.slice (some ⟨w.heap.size, 0, none⟩) (ms.length + 1) G) (ms.take i ++ List.replicate (ms.length + 1 - i) kvK.zero) := hOz
        have hLl : (ms.take i ++ List.replicate (ms.length + 1 - i) kvK.zero).length = ms.length + 1 := by rw [List.length_append, hli, List.length_replicate]; omega
        have hr2 : W1.rangeAt h 0 (kvK.flat [m]) := erange_below hrange2 hbl2 hhw
        have hr1 : W1.rangeAt g (i * 2) (kvK.flat (ms.drop i)) := erange_below hrange hbl2 hgw
        obtain ⟨W2, cp1, hO2, hg2, hs2⟩ := run_copy_keys 53 53 uKv hOz2 i (ms.length + 1 - i) h 0 1 [m] hr2 (by simp; omega) (by omega) (by simp; omega)
        have hL2 : ((ms.take i ++ List.replicate (ms.length + 1 - i) kvK.zero).take i ++ [m] ++ (ms.take i ++ List.replicate (ms.length + 1 - i) kvK.zero).drop (i + [m].length)) = ms.take i ++ m :: List.replicate (ms.length - i) kvK.zero := by
          rw [List.take_left' hli, List.drop_append, hli, List.drop_of_length_le (by rw [hli]; simp), List.drop_replicate]
          simp only [List.length_singleton, List.nil_append, List.append_assoc, List.singleton_append]
          congr 3
          omega
        rw [hL2, show max (ms.length + 1) (i + [m].length) = ms.length + 1 by simp; omega] at hO2
        have hr1' : W2.drew.rangeAt g (i * 2) (kvK.flat (ms.drop i)) := erange_block (W' := W2.drew) hr1 (hg2.block g (by omega) (by simp; omega))
        have hO2' : OwnE kvK W2.drew w.heap.size (w.heap.size + 1) (.slice (some ⟨w.heap.size, 0, none⟩) (ms.length + 1) G) (ms.take i ++ m :: List.replicate (ms.length - i) kvK.zero) := hO2
        have hL2l : (ms.take i ++ m :: List.replicate (ms.length - i) kvK.zero).length = ms.length + 1 := by simp only [List.length_append, hli, List.length_cons, List.length_replicate]; omega
        obtain ⟨W3, cp2, hO3, hg3, hs3⟩ := run_copy_keys 53 53 uKv hO2' (i + 1) (ms.length + 1 - (i + 1)) g (i * 2) (ms.length - i) (ms.drop i) hr1' (by rw [List.length_drop]; omega) (by omega) (by rw [List.length_drop]; omega)
        have hL3 : ((ms.take i ++ m :: List.replicate (ms.length - i) kvK.zero).take (i + 1) ++ ms.drop i ++ (ms.take i ++ m :: List.replicate (ms.length - i) kvK.zero).drop (i + 1 + (ms.drop i).length)) = ms.take i ++ m :: ms.drop i := by
          have e1 : ms.take i ++ m :: List.replicate (ms.length - i) kvK.zero = (ms.take i ++ [m]) ++ List.replicate (ms.length - i) kvK.zero := by simp
          rw [show (ms.take i ++ m :: List.replicate (ms.length - i) kvK.zero).drop (i + 1 + (ms.drop i).length) = [] from List.drop_of_length_le (by rw [hL2l, List.length_drop]; omega), e1, List.take_left' (by simp only [List.length_append, hli, List.length_singleton])]
          simp
        rw [hL3, show max (ms.length + 1) (i + 1 + (ms.drop i).length) = ms.length + 1 by rw [List.length_drop]; omega] at hO3
        have hgr : w.grownBy W3 (some g) := by
          have a1 : w.grownBy W1 (some g) := ⟨hbl2.os, hbl2.tape, hbl2.output, hbl2.size, fun k hk _ => hbl2.block k hk⟩
          refine ⟨(hg3.os.trans hg2.os).trans a1.os, (hg3.tape.trans hg2.tape).trans a1.tape, (hg3.output.trans hg2.output).trans a1.output, ?_, fun k hk hne => ?_⟩
          · have : W2.drew.heap.size = W2.heap.size := rfl
            omega
          · have h3 := hg3.block k (by show k < W2.heap.size; omega) (by simp; omega)
            have h2 := hg2.block k (by omega) (by simp; omega)
            exact (h3.trans h2).trans (a1.block k hk hne)
        have hO4 : OwnE kvK W3 B W3.heap.size (.slice (some ⟨w.heap.size, 0, none⟩) (ms.length + 1) G) (ms.take i ++ m :: ms.drop i) := hO3.mono hB (by have : W2.drew.heap.size = W2.heap.size := rfl; omega)
        have HN := Lib.hid (And.intro hO4 hgr)
        have hGi : ¬ G = i := by omega
        have hGim : ¬ G = i + 1 := by omega
        have hw1 : IntKind.i64.wrap ((i : Int) + 1) = (i : Int) + 1 := by rw [IntKind.wrap_i64]; omega
        have hb1 : (0 : Int) ≤ (i : Int) + 1 := by omega
        have htn : ((i : Int) + 1).toNat = i + 1 := by omega
        have hkk : (ms.length : Int) + 1 - (i : Int) = ((ms.length + 1 - i : Nat) : Int) := by omega
        have q5 : (i : Int) ≤ (ms.length : Int) + 1 := by omega
        rw [← hkk] at hrz
        unfold maxLen at hGm
        clear hz1 hcn hi0 hz0 hzs hzb hin hi hgh hgw hgB hGn hv hh hcs hct hx hOz hOz2 hbl hbl2 hr2 hr1 hL2 hL3 hO2 hO2' hO3 hO4 hgr hg2 hg3 hs2 hs3 hold hLl hL2l hli hrange hrange2 hk1 hW1 hkk
        go_enter Try.func49, Try.ntmps49
        have hcm2 : cap ≤ 9223372036854775807 := by omega
        have hGm2 : G ≤ 9223372036854775807 := by omega
        clear hcm hGm
        go_wp2_with (first
          | (at_builtin; refine Lib.wpList_append_run _ rfl _ _ _ _ rfl _ _ rfl rfl _ _ (hrz _) ?_)
          | (refine wpList_copy_runI _ rfl _ _ 53 53 rfl _ _ rfl rfl (cp1 _ _ _) ?_))
        go_region_law (refine step_copy_runI rfl _ _ 53 53 rfl (.slice (some ⟨w.heap.size, (i + 1) * 2, none⟩) (ms.length + 1 - (i + 1)) (G - (i + 1))) (.slice (some ⟨g, i * 2, none⟩) (ms.length - i) (cap - i)) (by simp [Act.eval, Act.put]) (by simp [Act.eval, Act.put]) (cp2 _ _ _) ?_)
        all_goals
          go_wp2_with (fail)
          go_ret
          exact ⟨_, rfl, HN.out.1, HN.out.2⟩
      · have hz3 : ¬ (cap : Int) < (ms.length : Int) + 1 := by omega
        have hOd : OwnE kvK w.drew B w.drew.heap.size (.slice (some ⟨g, 0, none⟩) ms.length cap) ms := hv
        have hr1 : w.drew.rangeAt g (i * 2) (kvK.flat (ms.drop i)) := hrange
        obtain ⟨W2, cp1, hO2, hg2, hs2⟩ := run_copy_keys 53 53 uKv hOd (i + 1) (ms.length + 1 - (i + 1)) g (i * 2) (ms.length + 1 - i) (ms.drop i) hr1 (by rw [List.length_drop]; omega) (by omega) (by rw [List.length_drop]; omega)
        have hL2 : (ms.take (i + 1) ++ ms.drop i ++ ms.drop (i + 1 + (ms.drop i).length)) = ms.take (i + 1) ++ ms.drop i := by
          rw [show ms.drop (i + 1 + (ms.drop i).length) = [] from List.drop_of_length_le (by rw [List.length_drop]; omega), List.append_nil]
        rw [hL2, show max ms.length (i + 1 + (ms.drop i).length) = ms.length + 1 by rw [List.length_drop]; omega] at hO2
        have hr2 : W2.rangeAt h 0 (kvK.flat [m]) := erange_block (W := w) hrange2 (by
          have := hg2.block h (by show h < w.heap.size; exact hhw) (by simp; exact hgh)
          exact this)
        have hl1 : (ms.take (i + 1)).length = i + 1 := by rw [List.length_take]; omega
        obtain ⟨W3, cp2, hO3, hg3, hs3⟩ := run_copy_keys 53 53 uKv hO2 i (ms.length + 1 - i) h 0 1 [m] hr2 (by simp; omega) (by rw [List.length_append, hl1]; omega) (by simp; omega)
        have hL3 : ((ms.take (i + 1) ++ ms.drop i).take i ++ [m] ++ (ms.take (i + 1) ++ ms.drop i).drop (i + [m].length)) = ms.take i ++ m :: ms.drop i := by
          rw [List.length_singleton, List.drop_left' hl1, List.take_append_of_le_length (by rw [hl1]; omega), List.take_take, Nat.min_eq_left (by omega)]
          simp
        rw [hL3, show max (ms.length + 1) (i + [m].length) = ms.length + 1 by simp; omega] at hO3
        have hgr : w.grownBy W3 (some g) := by
          refine ⟨hg3.os.trans hg2.os, hg3.tape.trans hg2.tape, hg3.output.trans hg2.output, ?_, fun k hk hne => ?_⟩
          · have : w.drew.heap.size = w.heap.size := rfl
            omega
          · have h2 := hg2.block k hk hne
            have h3 := hg3.block k (by have : w.drew.heap.size = w.heap.size := rfl; omega) hne
            exact h3.trans h2
        have hO4 : OwnE kvK W3 B W3.heap.size (.slice (some ⟨g, 0, none⟩) (ms.length + 1) cap) (ms.take i ++ m :: ms.drop i) := hO3.mono (Nat.le_refl _) (by have : w.drew.heap.size = w.heap.size := rfl; omega)
        have HN := Lib.hid (And.intro hO4 hgr)
        have hov : ∀ lb cb, (callFunc 55 #[.slice (some ⟨h, 0, none⟩) 1 1, .slice (some ⟨g, (i + 1) * 2, none⟩) lb cb]).run Try.prog w = .ok (.value (.bool false)) w := fun lb cb => by
          rw [run_callFunc_extern (P := Try.prog) Try.func55 (by kernel_rfl) (by kernel_rfl) (by kernel_rfl) (e := Extern.SlicesOverlaps.overlaps #[53, 53] #[4]) (by kernel_rfl),
            Lib.run_overlaps_apart w 53 4 71 uKv 2 (fun w => by obtain ⟨i0, hi0, -, hz1, -⟩ := kinfo; simp [sizeOf, typeInfo, hi0, hz1]) ⟨h, 0, none⟩ ⟨g, (i + 1) * 2, none⟩ 1 1 lb cb hgh 71 71 2 cur.size (by simp only [World.shape?]; rw [show w.heap[h]? = _ from hx]; rfl) (by have hh' : w.heap[g]? = some (.cells cur 71 (0, 0)) := hh; simp only [World.shape?, hh']) (by have hcs2 : cur.size = cap * 2 := hcs; omega) (hx.frozen 0) (hx.frozen 2)]
          rfl
        have hw1 : IntKind.i64.wrap ((i : Int) + 1) = (i : Int) + 1 := by rw [IntKind.wrap_i64]; omega
        have hb1 : (0 : Int) ≤ (i : Int) + 1 := by omega
        have htn : ((i : Int) + 1).toNat = i + 1 := by omega
        have q5 : (i : Int) ≤ (ms.length : Int) + 1 := by omega
        have hci2 : ¬ cap = i + 1 := by omega
        have q6 : (i : Int) + 1 ≤ (ms.length : Int) + 1 ∧ (ms.length : Int) + 1 ≤ (cap : Int) := by omega
        have hcm2 : cap ≤ 9223372036854775807 := by omega
        clear hin hi hgh hgw hgB hv hh hcs hct hx hOd hr1 hr2 hL2 hL3 hO2 hO3 hO4 hgr hg2 hg3 hs2 hs3 hrange hrange2 hl1 hcm
        go_enter Try.func49, Try.ntmps49
        go_wp2_with (simp only [hov])
        go_region_law (refine step_copy_runI rfl _ _ 53 53 rfl (.slice (some ⟨g, (i + 1) * 2, none⟩) (ms.length + 1 - (i + 1)) (cap - (i + 1))) (.slice (some ⟨g, i * 2, none⟩) (ms.length + 1 - i) (cap - i)) (by simp [Act.eval, Act.put]) (by simp [Act.eval, Act.put]) (cp1 _ _ _) ?_)
        all_goals
          go_wp2_with (refine wpList_copy_runI _ rfl _ _ 53 53 rfl _ _ rfl rfl (cp2 _ _ _) ?_)
          go_wp2_with (fail)
          go_ret
          exact ⟨_, rfl, HN.out.1, HN.out.2⟩
end Go.Proofs.Ytmfbhejclmelaaa
