import Derived.Test.YtjnobggefofjcaaMdr
namespace Go.Proofs.Ytjnobggefofjcaa
open Go.RowKit

set_option maxHeartbeats 4000000 in
set_option maxRecDepth 100000 in
theorem maps_dr (g : Nat) (v : Value) (n : Nat) (w : World) (hd : Dr w g v n) :
    Calls Try.prog 39 #[.pointer (some ⟨g, 0, none⟩)] w fun e w' => ∃ u ms, e = .returned u ∧ OwnM w' w.heap.size w'.heap.size u ms ∧ ms.length ≤ 7 ∧ Dr w' g v n ∧ Grew g w w' := by
  have hg := hd.blk
  have hb0 := below_new w (.cells #[] 26)
  have hd0 := hd.kept hb0
  have hO0 := own_empty w
  have cb5 := fun W h => bel_dr g v n 5 5 rfl W h (by omega) (by omega)
  have cb7 := fun W h => bel_dr g v n 7 7 rfl W h (by omega) (by omega)
  have cb9 := fun W h => bel_dr g v n 9 9 rfl W h (by omega) (by omega)
  have cb50 := fun W h => bel_dr g v n 50 50 rfl W h (by omega) (by omega)
  have cb60 := fun W h => bel_dr g v n 60 60 rfl W h (by omega) (by omega)
  have co := fun W h => once_dr g v n 2 2 rfl W h (by omega) (by omega)
  have HE := Lib.hid (And.intro hO0 (Grew.then (Grew.refl g w) hb0))
  clear hb0 hO0 hd
  go_enter Try.func39, Try.ntmps39
  go_wp2_with (fail)
  with_reducible refine (cb9 _ hd0).mono ?_
  rintro e w1 ⟨r1, -, rfl, d1, o1⟩
  have HE1 := Lib.hid (And.intro ((HE.out.1.only o1 hg).mono (Nat.le_refl _) (Nat.le_of_eq o1.size.symm)) (HE.out.2.only o1))
  clear HE o1 hd0
  go_wp2_with (fail)
  with_reducible refine (cb50 _ d1).mono ?_
  rintro e w2 ⟨r2, -, rfl, d2, o2⟩
  have HE2 := Lib.hid (And.intro ((HE1.out.1.only o2 hg).mono (Nat.le_refl _) (Nat.le_of_eq o2.size.symm)) (And.intro d2 (HE1.out.2.only o2)))
  clear HE1 o2 d1 d2
  go_wp2_with (fail)
  go_loopw [3, 4, 5, 6] (fun o s q i wr => ∃ (k : Nat) (a b : Int) (ms : List Mp), k ≤ 7 ∧ i = .int .i64 k ∧ s = .int .i64 a ∧ q = .int .i64 b ∧ ms.length = k ∧ OwnM wr w.heap.size wr.heap.size o ms ∧ Dr wr g v n ∧ Grew g w wr) (fun _ _ _ i _ => 7 - (intOf i).toNat)
  case atStart => exact ⟨0, _, _, [], by omega, rfl, rfl, rfl, rfl, HE2.out.1, HE2.out.2.1, HE2.out.2.2⟩
  case round =>
    clear HE2
    obtain ⟨k, a, b, ms, hk, rfl, rfl, rfl, hl, hO, hD, hG⟩ := hrel
    have HH := Lib.hid (And.intro hO (And.intro hG hl))
    clear hO hG hl
    go_wp2_with (fail)
    with_reducible refine (cb7 _ hD).mono ?_
    rintro e w3 ⟨r3, hr3, rfl, d3, o3⟩
    have H3 := Lib.hid (And.intro ((HH.out.1.only o3 hg).mono (Nat.le_refl _) (Nat.le_of_eq o3.size.symm)) (And.intro (HH.out.2.1.only o3) HH.out.2.2))
    clear HH o3 hD
    by_cases hlt : k < r3
    · have q : (k : Int) < (r3 : Int) := by omega
      go_wp2_with (fail)
      with_reducible refine (cb9 _ d3).mono ?_
      rintro e w4 ⟨r4, hr4, rfl, d4, o4⟩
      have hb5 := below_new w4 (.cells #[.int .i64 a, .int .i64 b, .int .i64 (1 + (r4 : Int))] 26)
      have hz4 : w.heap.size ≤ w4.heap.size := (H3.out.2.1.only o4).size
      have e4 : IntKind.i64.wrap (1 + (r4 : Int)) = 1 + (r4 : Int) := IntWalk.i64_in _ (by omega)
      have H5 := Lib.hid (And.intro (own_alloc ((H3.out.1.only o4 hg).mono (Nat.le_refl _) (Nat.le_of_eq o4.size.symm)) (.cells #[.int .i64 a, .int .i64 b, .int .i64 (1 + (r4 : Int))] 26)) (And.intro ((H3.out.2.1.only o4).then (hb5.mono hz4)) (And.intro (d4.then (hb5.mono hz4) hg) (And.intro H3.out.2.2 (show w.heap.size ≤ (w4.alloc (.cells #[.int .i64 a, .int .i64 b, .int .i64 (1 + (r4 : Int))] 26)).heap.size by simp; omega)))))
      clear H3 o4 d3 d4 hb5 hz4
      go_upto_region 9 with (
        at_builtin
        refine wpList_append_maps rfl _ _ 24 24 rfl uM uM w.heap.size u3 _ ms [⟨a, b, 1 + (r4 : Int)⟩] rfl rfl H5.out.1 H5.out.2.2.2.2 (rd_one _ _) (by have := H5.out.2.2.2.1; simp; omega) ?_
        intro v' w6 hown hgrow _)
      have hb6 := (Below.refl w.heap.size _).grown hgrow H5.out.2.2.2.2 (fun j hj => (H5.out.1.block j hj).1)
      have d6 := H5.out.2.2.1.then hb6 hg
      have H6 := Lib.hid (And.intro hown (And.intro (H5.out.2.1.then hb6) H5.out.2.2.2.1))
      clear hown hgrow hb6 H5
      go_wp2_with (fail)
      with_reducible refine (co _ d6).mono ?_
      rintro e w7 ⟨bb, rfl, d7, o7⟩
      have H7 := Lib.hid (And.intro ((H6.out.1.only o7 hg).mono (Nat.le_refl _) (Nat.le_of_eq o7.size.symm)) (And.intro (H6.out.2.1.only o7) H6.out.2.2))
      clear H6 o7 d6
      cases bb with
      | true =>
        go_wp2_with (fail)
        with_reducible refine (cb5 _ d7).mono ?_
        rintro e w8 ⟨r8, -, rfl, d8, o8⟩
        have H8 := Lib.hid (And.intro ((H7.out.1.only o8 hg).mono (Nat.le_refl _) (Nat.le_of_eq o8.size.symm)) (And.intro (H7.out.2.1.only o8) H7.out.2.2))
        clear H7 o8 d7
        go_wp2_with (fail)
        with_reducible refine (cb60 _ d8).mono ?_
        rintro e w9 ⟨r9, -, rfl, d9, o9⟩
        have H9 := Lib.hid (And.intro ((H8.out.1.only o9 hg).mono (Nat.le_refl _) (Nat.le_of_eq o9.size.symm)) (And.intro (H8.out.2.1.only o9) (And.intro d9 H8.out.2.2)))
        clear H8 o9 d8 d9
        go_wp2_with (fail)
        go_roundw
        case rel => exact ⟨k + 1, _, _, _, by omega, by go_num, rfl, rfl, by rw [List.length_append, H9.out.2.2.2]; rfl, H9.out.1, H9.out.2.2.1, H9.out.2.1⟩
        case measure => simp [intOf]; omega
      | false =>
        have H9 := Lib.hid (And.intro H7.out.1 (And.intro H7.out.2.1 (And.intro d7 H7.out.2.2)))
        clear H7 d7
        go_wp2_with (fail)
        go_roundw
        case rel => exact ⟨k + 1, _, _, _, by omega, by go_num, rfl, rfl, by rw [List.length_append, H9.out.2.2.2]; rfl, H9.out.1, H9.out.2.2.1, H9.out.2.1⟩
        case measure => simp [intOf]; omega
    · have q : ¬ (k : Int) < (r3 : Int) := by omega
      have H9 := Lib.hid (And.intro H3.out.1 (And.intro H3.out.2.1 (And.intro d3 H3.out.2.2)))
      clear H3 d3
      go_wp2_with (fail)
      go_ret
      exact ⟨_, _, rfl, H9.out.1, by rw [H9.out.2.2.2]; omega, H9.out.2.2.1, H9.out.2.1⟩
end Go.Proofs.Ytjnobggefofjcaa
