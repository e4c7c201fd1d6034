import Derived.Test.YtjnobggefofjcaaMds
import Derived.Test.YtjnobggefofjcaaMrv
namespace Go.Proofs.Ytjnobggefofjcaa
open Go.RowKit

theorem flat_setSub (l : List Mp) (i : Nat) (h : i < l.length) (x : Int) : (flat l).set (i * 3) (.int .i64 x) = flat (l.set i ⟨x, l[i].seq, l[i].len⟩) := by
  induction l generalizing i with
  | nil => simp at h
  | cons m r ih =>
    cases i with
    | zero => simp [flat]
    | succ i =>
      rw [show (i + 1) * 3 = i * 3 + 3 by omega]
      simp only [flat, List.set_cons_succ, List.getElem_cons_succ]
      rw [ih i (by simpa using h)]

theorem OwnM.putSub {W : World} {B C g n cap : Nat} {ms : List Mp} (h : OwnM W B C (.slice (some ⟨g, 0, none⟩) n cap) ms) (i : Nat) (hi : i < ms.length) (x : Int) :
    OwnM (W.setCell ⟨g, i * 3, none⟩ (.int .i64 x)) B C (.slice (some ⟨g, 0, none⟩) n cap) (ms.set i ⟨x, ms[i].seq, ms[i].len⟩) := by
  obtain ⟨⟨h1, h2⟩, h3⟩ := h
  rcases h2 with ⟨h2, _⟩ | ⟨g', cap', cur, hv, hg, hh, r1, r2, r3, r4⟩
  · cases h2
  · injection hv with e1 e2 e3
    injection e1 with e1
    injection e1 with e1
    subst e1 e2 e3
    refine ⟨⟨by rw [flat_length], .inr ⟨g, cap, cur.setIfInBounds (i * 3) (.int .i64 x), by simp, hg, Cel.set (show Cel W g _ cur from hh) _ _, by simpa using r1, r2, by simpa using r3, ?_⟩⟩, h3⟩
    rw [Array.toList_setIfInBounds, List.length_set, List.take_set, r4, flat_setSub _ _ hi]

theorem flat_setSeq (l : List Mp) (i : Nat) (h : i < l.length) (x : Int) : (flat l).set (i * 3 + 1) (.int .i64 x) = flat (l.set i ⟨l[i].sub, x, l[i].len⟩) := by
  induction l generalizing i with
  | nil => simp at h
  | cons m r ih =>
    cases i with
    | zero => simp [flat]
    | succ i =>
      rw [show (i + 1) * 3 + 1 = i * 3 + 1 + 3 by omega]
      simp only [flat, List.set_cons_succ, List.getElem_cons_succ]
      rw [ih i (by simpa using h)]

theorem OwnM.putSeq {W : World} {B C g n cap : Nat} {ms : List Mp} (h : OwnM W B C (.slice (some ⟨g, 0, none⟩) n cap) ms) (i : Nat) (hi : i < ms.length) (x : Int) :
    OwnM (W.setCell ⟨g, i * 3 + 1, none⟩ (.int .i64 x)) B C (.slice (some ⟨g, 0, none⟩) n cap) (ms.set i ⟨ms[i].sub, x, ms[i].len⟩) := by
  obtain ⟨⟨h1, h2⟩, h3⟩ := h
  rcases h2 with ⟨h2, _⟩ | ⟨g', cap', cur, hv, hg, hh, r1, r2, r3, r4⟩
  · cases h2
  · injection hv with e1 e2 e3
    injection e1 with e1
    injection e1 with e1
    subst e1 e2 e3
    refine ⟨⟨by rw [flat_length], .inr ⟨g, cap, cur.setIfInBounds (i * 3 + 1) (.int .i64 x), by simp, hg, Cel.set (show Cel W g _ cur from hh) _ _, by simpa using r1, r2, by simpa using r3, ?_⟩⟩, h3⟩
    rw [Array.toList_setIfInBounds, List.length_set, List.take_set, r4, flat_setSeq _ _ hi]

set_option maxHeartbeats 4000000 in
set_option maxRecDepth 100000 in
theorem any_dr (g : Nat) (v : Value) (n : Nat) (w : World) (hd : Dr w g v n) :
    Calls Try.prog 29 #[.pointer (some ⟨g, 0, none⟩)] w fun e w' => ∃ u ms, e = .returned u ∧ OwnM w' w.heap.size w'.heap.size u ms ∧ ms.length ≤ 50 ∧ Dr w' g v n ∧ Grew g w w' := by
  have hg := hd.blk
  have cM := maps_dr g v n w hd
  have cb9 := fun W h => bel_dr g v n 9 9 rfl W h (by omega) (by omega)
  have cb4 := fun W h => bel_dr g v n 4 4 rfl W h (by omega) (by omega)
  have co := fun W h => once_dr g v n 8 8 rfl W h (by omega) (by omega)
  clear hd
  go_enter Try.func29, Try.ntmps29
  go_wp2_with (fail)
  with_reducible refine cM.mono ?_
  rintro e w1 ⟨u, ms, rfl, hO, hl, d1, hG⟩
  obtain ⟨ua, uc, rfl, hf⟩ := hO.form
  clear cM
  by_cases h0 : 0 < ms.length
  · obtain ⟨g', rfl, hg'1, -⟩ := hf h0
    clear hf
    have q1 : (0 : Int) < (ms.length : Int) := by omega
    have cbl := fun W h => bel_dr g v n ms.length (ms.length : Int) rfl W h h0 (by omega)
    have H1 := Lib.hid (And.intro hO hG)
    clear hO hG
    go_wp2_with (fail)
    with_reducible refine (co _ d1).mono ?_
    rintro e w2 ⟨bb, rfl, d2, o2⟩
    have H2 := Lib.hid (And.intro ((H1.out.1.only o2 hg).mono (Nat.le_refl _) (Nat.le_of_eq o2.size.symm)) (H1.out.2.only o2))
    clear H1 d1 o2
    cases bb with
    | false =>
      have H3 := Lib.hid (And.intro d2 hl)
      clear d2
      go_wp2_with (fail)
      go_ret
      exact ⟨_, _, rfl, H2.out.1, by have := H3.out.2; omega, H3.out.1, H2.out.2⟩
    | true =>
      go_wp2_with (fail)
      with_reducible refine (cbl _ d2).mono ?_
      rintro e w25 ⟨k, hk, rfl, d25, o25⟩
      have H25 := Lib.hid (And.intro ((H2.out.1.only o25 hg).mono (Nat.le_refl _) (Nat.le_of_eq o25.size.symm)) (H2.out.2.only o25))
      clear H2 d2 o25 cbl
      go_wp2_with (fail)
      with_reducible refine (cb4 _ d25).mono ?_
      rintro e w3 ⟨r, hr, rfl, d3, o3⟩
      have H3 := Lib.hid (And.intro ((H25.out.1.only o3 hg).mono (Nat.le_refl _) (Nat.le_of_eq o3.size.symm)) (H25.out.2.only o3))
      clear H25 d25 o3
      obtain h | h | h | h : r = 0 ∨ r = 1 ∨ r = 2 ∨ r = 3 := by omega
      · subst h
        have hb6 := below_new w3 (.cells #[.int .i64 0, .int .i64 (-1), .int .i64 50, .int .i64 100001] 3)
        have hz3 := H3.out.2.size
        have cp := pick_any g v n _ (d3.kept hb6) w3.heap.size 4 4 _ [0, -1, 50, 100001] rfl rfl (Cel.new w3 3 #[.int .i64 0, .int .i64 (-1), .int .i64 50, .int .i64 100001]) (by omega) (by omega) (by omega)
        have H6 := Lib.hid (And.intro (H3.out.1.keep hb6 (Nat.le_refl _)) (And.intro (H3.out.2.then (hb6.mono hz3)) hb6.size))
        clear H3 d3 hb6
        go_wp2_with (fail)
        with_reducible refine cp.mono ?_
        rintro e w7 ⟨z, rfl, d7, o7⟩
        have hO7 := H6.out.1.only o7 hg
        have H7 := Lib.hid (And.intro (hO7.mono (Nat.le_refl _) (show w3.heap.size ≤ w7.heap.size by rw [o7.size]; exact H6.out.2.2)) (And.intro (H6.out.2.1.only o7) d7))
        clear cp H6 o7 d7
        obtain ⟨k0, k1, k2, kf, -, -⟩ := hO7.at k hk
        have f2 := kf (k * 3 + 2)
        have hb8 : Below w.heap.size w7 (w7.setCell ⟨g', k * 3 + 2, none⟩ (.int .i64 z)) := (Below.refl _ _).setCell (p := ⟨g', k * 3 + 2, none⟩) hg'1 _
        have hO8 := H7.out.1.putLen k hk z
        have H8 := Lib.hid (And.intro (hO8.mono (Nat.le_refl _) (show w7.heap.size ≤ (w7.setCell ⟨g', k * 3 + 2, none⟩ (.int .i64 z)).heap.size by simp)) (And.intro (H7.out.2.1.then hb8) (H7.out.2.2.then hb8 hg)))
        have q : (k : Int) < (ms.length : Int) := by omega
        have q0 : (0 : Int) ≤ (k : Int) := by omega
        clear hb8 hO8 H7 kf hO7
        go_wp2_with (fail)
        go_ret
        exact ⟨_, _, rfl, H8.out.1, by rw [List.length_set]; omega, H8.out.2.2, H8.out.2.1⟩
      · subst h
        go_wp2_with (fail)
        with_reducible refine (cb9 _ d3).mono ?_
        rintro e w7 ⟨z0, -, rfl, d7, o7⟩
        generalize (z0 : Int) = z
        have hO7 := H3.out.1.only o7 hg
        have H7 := Lib.hid (And.intro (hO7.mono (Nat.le_refl _) (Nat.le_of_eq o7.size.symm)) (And.intro (H3.out.2.only o7) d7))
        clear H3 o7 d3 d7
        obtain ⟨k0, k1, k2, kf, -, -⟩ := hO7.at k hk
        have f0 := kf (k * 3)
        have hb8 : Below w.heap.size w7 (w7.setCell ⟨g', k * 3, none⟩ (.int .i64 z)) := (Below.refl _ _).setCell (p := ⟨g', k * 3, none⟩) hg'1 _
        have hO8 := H7.out.1.putSub k hk z
        have H8 := Lib.hid (And.intro (hO8.mono (Nat.le_refl _) (show w7.heap.size ≤ (w7.setCell ⟨g', k * 3, none⟩ (.int .i64 z)).heap.size by simp)) (And.intro (H7.out.2.1.then hb8) (H7.out.2.2.then hb8 hg)))
        have q : (k : Int) < (ms.length : Int) := by omega
        have q0 : (0 : Int) ≤ (k : Int) := by omega
        clear hb8 hO8 H7 kf hO7
        go_wp2_with (fail)
        go_ret
        exact ⟨_, _, rfl, H8.out.1, by rw [List.length_set]; omega, H8.out.2.2, H8.out.2.1⟩
      · subst h
        have hb6 := below_new w3 (.cells #[.int .i64 (-1), .int .i64 1000000001] 3)
        have hz3 := H3.out.2.size
        have cp := pick_any g v n _ (d3.kept hb6) w3.heap.size 2 2 _ [-1, 1000000001] rfl rfl (Cel.new w3 3 #[.int .i64 (-1), .int .i64 1000000001]) (by omega) (by omega) (by omega)
        have H6 := Lib.hid (And.intro (H3.out.1.keep hb6 (Nat.le_refl _)) (And.intro (H3.out.2.then (hb6.mono hz3)) hb6.size))
        clear H3 d3 hb6
        go_wp2_with (fail)
        with_reducible refine cp.mono ?_
        rintro e w7 ⟨z, rfl, d7, o7⟩
        have hO7 := H6.out.1.only o7 hg
        have H7 := Lib.hid (And.intro (hO7.mono (Nat.le_refl _) (show w3.heap.size ≤ w7.heap.size by rw [o7.size]; exact H6.out.2.2)) (And.intro (H6.out.2.1.only o7) d7))
        clear cp H6 o7 d7
        obtain ⟨k0, k1, k2, kf, -, -⟩ := hO7.at k hk
        have f1 := kf (k * 3 + 1)
        have hb8 : Below w.heap.size w7 (w7.setCell ⟨g', k * 3 + 1, none⟩ (.int .i64 z)) := (Below.refl _ _).setCell (p := ⟨g', k * 3 + 1, none⟩) hg'1 _
        have hO8 := H7.out.1.putSeq k hk z
        have H8 := Lib.hid (And.intro (hO8.mono (Nat.le_refl _) (show w7.heap.size ≤ (w7.setCell ⟨g', k * 3 + 1, none⟩ (.int .i64 z)).heap.size by simp)) (And.intro (H7.out.2.1.then hb8) (H7.out.2.2.then hb8 hg)))
        have q : (k : Int) < (ms.length : Int) := by omega
        have q0 : (0 : Int) ≤ (k : Int) := by omega
        clear hb8 hO8 H7 kf hO7
        go_wp2_with (fail)
        go_ret
        exact ⟨_, _, rfl, H8.out.1, by rw [List.length_set]; omega, H8.out.2.2, H8.out.2.1⟩
      · subst h
        have HL := Lib.hid (And.intro hl d3)
        clear hl d3
        go_wp2_with (fail)
        go_loopw [3, 5] (fun o i wr => ∃ (j : Nat) (ms' : List Mp), j ≤ 36 ∧ i = .int .i64 j ∧ ms'.length ≤ 7 + j ∧ OwnM wr w.heap.size wr.heap.size o ms' ∧ Dr wr g v n ∧ Grew g w wr) (fun _ i _ => 36 - (intOf i).toNat)
        case atStart => exact ⟨0, ms, by omega, rfl, HL.out.1, H3.out.1, HL.out.2, H3.out.2⟩
        case round =>
          clear H3 HL
          obtain ⟨j, ms', hj, rfl, hl, hO, hD, hG⟩ := hrel
          by_cases hlt : j < 36
          · have q : (j : Int) < 36 := by omega
            have hb5 := below_new wr (.cells #[.int .i64 (1000 + (j : Int)), .int .i64 5, .int .i64 1] 26)
            have e4 : IntKind.i64.wrap (1000 + (j : Int)) = 1000 + (j : Int) := IntWalk.i64_in _ (by omega)
            have H5 := Lib.hid (And.intro (own_alloc hO (.cells #[.int .i64 (1000 + (j : Int)), .int .i64 5, .int .i64 1] 26)) (And.intro (hG.then (hb5.mono hG.size)) (And.intro (hD.kept hb5) (And.intro hl (show w.heap.size ≤ (wr.alloc (.cells #[.int .i64 (1000 + (j : Int)), .int .i64 5, .int .i64 1] 26)).heap.size by have := hG.size; simp; omega)))))
            clear hb5 hO hD hG hl
            go_upto_region 7 with (
              at_builtin
              refine wpList_append_maps rfl _ _ 24 24 rfl uM uM w.heap.size u3 _ ms' [⟨1000 + (j : Int), 5, 1⟩] rfl rfl H5.out.1 H5.out.2.2.2.2 (rd_one _ _) (by have := H5.out.2.2.2.1; simp; omega) ?_
              intro v' w6 hown hgrow _)
            have hb6 := (Below.refl w.heap.size _).grown hgrow H5.out.2.2.2.2 (fun j hj => (H5.out.1.block j hj).1)
            have H6 := Lib.hid (And.intro hown (And.intro (H5.out.2.1.then hb6) (And.intro (H5.out.2.2.1.then hb6 hg) H5.out.2.2.2.1)))
            clear hown hgrow hb6 H5
            go_wp2_with (fail)
            go_roundw
            case rel => exact ⟨j + 1, _, by omega, by go_num, by have := H6.out.2.2.2; simp; omega, H6.out.1, H6.out.2.2.1, H6.out.2.1⟩
            case measure => simp [intOf]; omega
          · have q : ¬ (j : Int) < 36 := by omega
            have H6 := Lib.hid (And.intro hO (And.intro hG (And.intro hD hl)))
            clear hO hG hD hl
            go_wp2_with (fail)
            go_ret
            exact ⟨_, rfl, _, H6.out.1, by have := H6.out.2.2.2; omega, H6.out.2.2.1, H6.out.2.1⟩
  · have q1 : ¬ (0 : Int) < (ms.length : Int) := by omega
    have H1 := Lib.hid (And.intro hO (And.intro hG (And.intro d1 hl)))
    clear hO hG d1 hl hf h0
    go_wp2_with (fail)
    go_ret
    exact ⟨_, _, rfl, H1.out.1, by have := H1.out.2.2.2; omega, H1.out.2.2.1, H1.out.2.1⟩
end Go.Proofs.Ytjnobggefofjcaa
