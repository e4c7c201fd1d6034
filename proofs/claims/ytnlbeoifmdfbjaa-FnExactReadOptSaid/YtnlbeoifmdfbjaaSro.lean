import Derived.Test.YtnlbeoifmdfbjaaSpu
import Derived.Test.YtnlbeoifmdfbjaaNatS
import Derived.StillTailTactics
import Derived.Deep.AppendLies
import Derived.Deep.RegionLaw
namespace Go.Proofs.Ytnlbeoifmdfbjaa
open Go.RowKit
attribute [-go_sem] loadCells loadCellsFrom

theorem wide_in (k : Int) (j : Nat) (hj : j < shN k) : 1 ≤ wideOf (widOf (shapeOf k) j) ∧ wideOf (widOf (shapeOf k) j) ≤ 20 := by
  have h4 := (shape_even k).2
  by_cases h : 1 ≤ k ∧ k ≤ 10
  · rcases kind_ten k h with rfl | rfl | rfl | rfl | rfl | rfl | rfl | rfl | rfl | rfl
    all_goals
      have hc : j = 0 ∨ j = 1 ∨ j = 2 ∨ j = 3 := by omega
      rcases hc with rfl | rfl | rfl | rfl
      all_goals first | (revert hj; decide +kernel) | (decide +kernel)
  · rw [shN_out k h] at hj
    omega

theorem offUp_le (k : Int) (i j : Nat) (hij : i ≤ j) (hj : j ≤ shN k) : offUp (shapeOf k) i ≤ offUp (shapeOf k) j := by
  induction j with
  | zero => obtain rfl : i = 0 := by omega
            exact Int.le_refl _
  | succ j ih =>
    by_cases h : i = j + 1
    · subst h; exact Int.le_refl _
    · have h1 := ih (by omega) (by omega)
      have h2 := wide_in k j (by omega)
      rw [offUp_succ]
      omega
theorem offUp_nn (k : Int) (j : Nat) (hj : j ≤ shN k) : 0 ≤ offUp (shapeOf k) j := by
  have := offUp_le k 0 j (by omega) hj
  rw [offUp_zero] at this
  exact this

theorem spec_numP (x : ByteArray) (m : Int) (w : World) (hm : 0 ≤ m) (hx : (x.size : Int) = m) (hs : x.size ≤ 1048576) :
    Calls Try.prog 58 #[.string x, .int .i64 0, .int .i64 m] w fun e w' => ∃ ok, e = .returned (.tuple #[.int .i64 (numP x m), .bool ok]) ∧ w = w' := by
  unfold numP
  by_cases h : 1 ≤ m ∧ m ≤ 6
  · rw [if_pos h]
    have hp : Part x 0 m := ⟨by omega, by omega, by omega⟩
    rw [nAt_yes x 0 m hp]
    refine (spec_num_yes x 0 m w (by omega) h.1 h.2 hp).mono ?_
    rintro e w' ⟨rfl, rfl⟩
    exact ⟨true, rfl, rfl⟩
  · rw [if_neg h]
    refine (spec_num_out x 0 m w h).mono ?_
    rintro e w' ⟨rfl, rfl⟩
    exact ⟨false, rfl, rfl⟩

theorem kindOnly (K : Int) : ({ Ov.zero with kind := K } : Ov).cells (.slice none 0 0) = #[.int .i64 K, .int .i64 0, .int .i64 0, .int .i64 0, .int .i64 0, .int .i64 0, .int .i64 0, .int .i64 0, .int .i64 0, .int .i64 0, .bool false, .string ⟨#[]⟩, .string ⟨#[]⟩, .slice none 0 0] := by unfold Ov.cells Ov.zero; rfl

theorem read_no (s : ByteArray) (a : Int) (h : ¬ Sro s a) : readO s a = Ov.zero ∧ readP s a = -1 := by
  have hr : readOk s a = false := by
    cases hs : readOk s a with
    | false => rfl
    | true => exact absurd (read_sro s a hs) h
  unfold readO readP
  rw [hr]
  exact ⟨rfl, rfl⟩
theorem read_yes (s : ByteArray) (a : Int) (h : Sro s a) : readO s a = sroC s a ∧ readP s a = a + 2 + nAt s (a + 1) 1 := by
  obtain ⟨h1, h2, h3⟩ := sro_read s a h
  unfold readO readP
  rw [h1, h2, h3]
  exact ⟨rfl, rfl⟩

theorem rdt_all {w W : World} {g0 g2 : Nat} {o : Ov} {v : Value} (h : Rdt w W g0 g2 o v) : Rdt w W g0 g2 o v ∧ (loadCells ⟨g2, 0, none⟩ 14).run Try.prog W = .ok (o.cells v) W :=
  ⟨h, Cel.loadRow h.c 14 (Ov.cells_size _ _) (P := Try.prog)⟩
theorem rdt_keep {w W W' : World} {g0 g2 : Nat} {o : Ov} {v : Value} (h : Rdt w W g0 g2 o v ∧ (loadCells ⟨g2, 0, none⟩ 14).run Try.prog W = .ok (o.cells v) W) (hb : Below W.heap.size W W') :
    Rdt w W' g0 g2 o v ∧ (loadCells ⟨g2, 0, none⟩ 14).run Try.prog W' = .ok (o.cells v) W' := rdt_all (h.1.kept hb)
theorem rdt_drew {w W : World} {g0 g2 : Nat} {o : Ov} {v : Value} (h : Rdt w W g0 g2 o v) : Rdt w W.drew g0 g2 o v ∧ (loadCells ⟨g2, 0, none⟩ 14).run Try.prog W.drew = .ok (o.cells v) W.drew :=
  rdt_all ⟨h.z, h.c, h.r, h.b.drew⟩

set_option maxRecDepth 100000 in
set_option maxHeartbeats 16000000 in
theorem spec_read_on (s : ByteArray) (a : Int) (w : World) (hs : s.size ≤ 1048576) (p1 : Part s a 1) (p2 : Part s (a + 1) 1) (hk : 1 ≤ nAt s a 1 ∧ nAt s a 1 ≤ 10) (p3 : Part s (a + 2) (nAt s (a + 1) 1)) :
    Calls Try.prog 24 #[.string s, .int .i64 a] w fun e w' => ∃ v, e = .returned (.tuple #[.agg ((readO s a).cells v), .int .i64 (readP s a)]) ∧ IRow w' w.heap.size w'.heap.size v (readO s a).ids ∧ Below w.heap.size w w' := by
  have hB := below_new w (.cells #[.int .i64 0, .int .i64 0, .int .i64 0, .int .i64 0, .int .i64 0, .int .i64 0, .int .i64 0, .int .i64 0, .int .i64 0, .int .i64 0, .bool false, .string ⟨#[]⟩, .string ⟨#[]⟩, .slice none 0 0] 26)
  have hZ : Cel (w.alloc (.cells #[.int .i64 0, .int .i64 0, .int .i64 0, .int .i64 0, .int .i64 0, .int .i64 0, .int .i64 0, .int .i64 0, .int .i64 0, .int .i64 0, .bool false, .string ⟨#[]⟩, .string ⟨#[]⟩, .slice none 0 0] 26)) w.heap.size 26 #[.int .i64 0, .int .i64 0, .int .i64 0, .int .i64 0, .int .i64 0, .int .i64 0, .int .i64 0, .int .i64 0, .int .i64 0, .int .i64 0, .bool false, .string ⟨#[]⟩, .string ⟨#[]⟩, .slice none 0 0] := Cel.new _ _ _
  have hsz : (w.alloc (.cells #[.int .i64 0, .int .i64 0, .int .i64 0, .int .i64 0, .int .i64 0, .int .i64 0, .int .i64 0, .int .i64 0, .int .i64 0, .int .i64 0, .bool false, .string ⟨#[]⟩, .string ⟨#[]⟩, .slice none 0 0] 26)).heap.size = w.heap.size + 1 := by simp
  have ha0 := p1.1
  have ha1 := p1.2.2
  have c1 := fun W => spec_num_yes s a 1 W (by omega) (by decide) (by decide) p1
  rw [← nAt_yes s a 1 p1] at c1
  have c2 := fun W => spec_num_yes s (a + 1) 1 W (by omega) (by decide) (by decide) p2
  rw [← nAt_yes s (a + 1) 1 p2] at c2
  have ci := fun W => spec_in (nAt s a 1) 1 10 W
  rw [decide_eq_true hk] at ci
  have c3 := fun W => spec_text_yes s (a + 2) (nAt s (a + 1) 1) W (by omega) p3
  rw [← tAt_yes s (a + 2) (nAt s (a + 1) 1) p3] at c3
  have csh := fun W => spec_shape (nAt s a 1) hk.1 hk.2 W
  obtain ⟨M, hM, eM⟩ := nAt_byte s (a + 1)
  have htz : ((tAt s (a + 2) (nAt s (a + 1) 1)).size : Int) = nAt s (a + 1) 1 := by
    rw [tAt_yes _ _ _ p3, part_size _ _ _ p3]
    have := p3.2.1
    omega
  have hyes : offUp (shapeOf (nAt s a 1)) (shN (nAt s a 1)) ≤ ((tAt s (a + 2) (nAt s (a + 1) 1)).size : Int) → ¬ optTx (sroC s a) = ⟨#[]⟩ → optTx (sroC s a) = s.extract a.toNat (a + 2 + nAt s (a + 1) 1).toNat → Sro s a := fun h1 h2 h3 => ⟨p1, p2, hk, p3, h1, h2, h3⟩
  have hno : ¬ offUp (shapeOf (nAt s a 1)) (shN (nAt s a 1)) ≤ ((tAt s (a + 2) (nAt s (a + 1) 1)).size : Int) → ¬ Sro s a := fun h1 h => h1 h.off
  have hno2 : optTx (sroC s a) = ⟨#[]⟩ → ¬ Sro s a := fun h1 h => h.ne h1
  have hno3 : ¬ optTx (sroC s a) = s.extract a.toNat (a + 2 + nAt s (a + 1) 1).toNat → ¬ Sro s a := fun h1 h => h1 h.eq
  have hpe : a + 2 + nAt s (a + 1) 1 ≤ (s.size : Int) := p3.2.2
  have hsl := slice_part s a (a + 2 + nAt s (a + 1) 1) ha0 (by have := p3.2.1; omega) hpe
  have hC : sroC s a = candOf (nAt s a 1) (tAt s (a + 2) (nAt s (a + 1) 1)) := rfl
  have hyR := read_yes s a
  generalize s.extract a.toNat (a + 2 + nAt s (a + 1) 1).toNat = E at *
  generalize sroC s a = C at *
  generalize tAt s (a + 2) (nAt s (a + 1) 1) = t at *
  generalize nAt s (a + 1) 1 = m at *
  generalize nAt s a 1 = K at *
  obtain ⟨he, h4⟩ := shape_even K
  have hm0 : 0 ≤ m ∧ m ≤ 255 := by omega
  have HS := Lib.hid (And.intro hyes (And.intro hno (And.intro hno2 (And.intro hno3 (And.intro hC hyR)))))
  clear hyes hno hno2 hno3 hC hyR p1 p2 p3 eM hM
  have hWn := wide_in K
  have hOl := offUp_le K
  have hOn := offUp_nn K
  have hLt := let_ok K
  generalize hsh : shapeOf K = sh at *
  generalize hnn : shN K = n at *
  have HW := Lib.hid (And.intro hWn (And.intro hOl (And.intro hOn (And.intro hLt (And.intro hsh hnn)))))
  clear hWn hOl hOn hLt hsh hnn
  have H4 := Lib.hid h4
  have HE := Lib.hid he
  clear h4 he
  go_enter Try.func24, Try.ntmps24
  go_wp2_with (fail)
  generalize (w.alloc (.cells #[.int .i64 0, .int .i64 0, .int .i64 0, .int .i64 0, .int .i64 0, .int .i64 0, .int .i64 0, .int .i64 0, .int .i64 0, .int .i64 0, .bool false, .string ⟨#[]⟩, .string ⟨#[]⟩, .slice none 0 0] 26)) = W at *
  with_reducible refine (c1 _).mono ?_
  rintro e w1 ⟨rfl, rfl⟩
  go_wp2_with (fail)
  with_reducible refine (c2 _).mono ?_
  rintro e w1 ⟨rfl, rfl⟩
  go_wp2_with (fail)
  with_reducible refine (ci _).mono ?_
  rintro e w1 ⟨rfl, rfl⟩
  go_wp2_with (fail)
  with_reducible refine (c3 _).mono ?_
  rintro e w1 ⟨rfl, rfl⟩
  clear c1 c2 ci c3
  have hc2 := Cel.new W 26 #[.int .i64 K, .int .i64 0, .int .i64 0, .int .i64 0, .int .i64 0, .int .i64 0, .int .i64 0, .int .i64 0, .int .i64 0, .int .i64 0, .bool false, .string ⟨#[]⟩, .string ⟨#[]⟩, .slice none 0 0]
  have hZ2 := hZ.alloc (.cells #[.int .i64 K, .int .i64 0, .int .i64 0, .int .i64 0, .int .i64 0, .int .i64 0, .int .i64 0, .int .i64 0, .int .i64 0, .int .i64 0, .bool false, .string ⟨#[]⟩, .string ⟨#[]⟩, .slice none 0 0] 26)
  have hB2 : Below w.heap.size w (W.alloc (.cells #[.int .i64 K, .int .i64 0, .int .i64 0, .int .i64 0, .int .i64 0, .int .i64 0, .int .i64 0, .int .i64 0, .int .i64 0, .int .i64 0, .bool false, .string ⟨#[]⟩, .string ⟨#[]⟩, .slice none 0 0] 26)) := Below.then_ hB (below_new W _)
  clear hB hZ
  rw [hsz] at hc2
  go_wp2_with (fail)
  generalize W.alloc (.cells #[.int .i64 K, .int .i64 0, .int .i64 0, .int .i64 0, .int .i64 0, .int .i64 0, .int .i64 0, .int .i64 0, .int .i64 0, .int .i64 0, .bool false, .string ⟨#[]⟩, .string ⟨#[]⟩, .slice none 0 0] 26) = W2 at *
  rw [← kindOnly] at hc2
  clear hsz
  with_reducible refine (csh _).mono ?_
  rintro e w3 ⟨rfl, hb3⟩
  have hZ3 := hZ2.kept hb3
  have hC3 := hc2.kept hb3
  have hB3 := Below.then_ hB2 hb3
  clear hZ2 hc2 hB2 hb3 csh
  go_wp2_with (fail)
  go_loopw [14, 15] (fun k i wr => ∃ j x : Nat, x = 2 * j ∧ j ≤ n ∧ i = .int .i64 x ∧ k = .int .i64 (offUp sh j) ∧ offUp sh j ≤ (t.size : Int) ∧ Cel wr w.heap.size 26 #[.int .i64 0, .int .i64 0, .int .i64 0, .int .i64 0, .int .i64 0, .int .i64 0, .int .i64 0, .int .i64 0, .int .i64 0, .int .i64 0, .bool false, .string ⟨#[]⟩, .string ⟨#[]⟩, .slice none 0 0] ∧ Cel wr (w.heap.size + 1) 26 ((candUp K t sh j).cells (.slice none 0 0)) ∧ Below w.heap.size w wr) (fun _ i _ => 8 - (intOf i).toNat)
  case atStart => exact ⟨0, 0, rfl, by omega, rfl, by rw [offUp_zero], by rw [offUp_zero]; omega, hZ3, by rw [candUp_zero]; exact hC3, hB3⟩
  case round =>
    clear hZ3 hC3 hB3
    obtain ⟨j, x, hx, hj, rfl, rfl, hof, hZ, hCd, hB⟩ := hrel
    obtain ⟨hWn, hOl, hOn, hLt, hsh, hnn⟩ := HW.out
    have h4 := H4.out
    have he := HE.out
    have hoff0 := hOn j hj
    have qb : (x : Int) ≤ 8 := by omega
    by_cases hlt : j < n
    · have q0 : (x : Int) + 1 < (sh.size : Int) := by omega
      have q1 : x < sh.size := by omega
      have q2 : x + 1 < sh.size := by omega
      have q3 : (0 : Int) ≤ (x : Int) ∧ (x : Int) < (sh.size : Int) := by omega
      have e2 : ((x : Int) + 1).toNat = x + 1 := by omega
      have hlet : letOf sh j = ((sh[x]'q1).toNat : Int) := by unfold letOf; rw [getElem!_pos sh (2 * j) (by omega)]; simp [hx]
      have hwid : widOf sh j = ((sh[x + 1]'q2).toNat : Int) := by unfold widOf; rw [getElem!_pos sh (2 * j + 1) (by omega)]; simp [hx]
      have hw255 : ((sh[x + 1]'q2).toNat : Int) ≤ 255 := by have := (sh[x + 1]'q2).toNat_lt; omega
      have hw := hWn j hlt
      have hl := hLt j hlt
      have hos := offUp_succ sh j
      have hcs := candUp_succ K t sh j
      have hmono := hOl (j + 1) n (by omega) (Nat.le_refl _)
      have cw := fun W => spec_wide ((sh[x + 1]'q2).toNat : Int) (by omega) hw255 W
      rw [hlet, hwid] at hcs
      rw [hlet] at hl
      rw [hwid] at hos hw
      rw [hos] at hmono
      have HX := Lib.hid hx
      clear hlet hwid hx hWn hOl hOn hLt hsh hnn he
      generalize wideOf ((sh[x + 1]'q2).toNat : Int) = wd at *
      generalize offUp sh j = y at *
      by_cases hp : Part t y wd
      · have cp := fun W => spec_text_yes t y wd W (by omega) hp
        rw [← tAt_yes t y wd hp] at cp
        have hpz : ((tAt t y wd).size : Int) = wd := by
          rw [tAt_yes _ _ _ hp, part_size _ _ _ hp]
          omega
        generalize tAt t y wd = p at *
        have cnp := fun W => spec_numP p wd W (by omega) hpz (by omega)
        generalize numP p wd = v at *
        have cput := fun W => spec_put (candUp K t sh j) none 0 0 ((sh[x]'q1).toNat : Int) v p W hl
        rw [← hcs] at cput
        have HC := Lib.hid hcs
        generalize hc1 : candUp K t sh (j + 1) = C1 at *
        generalize candUp K t sh j = C0 at *
        have HO := Lib.hid (And.intro hos (And.intro hmono hc1))
        have hyw : y + wd ≤ (t.size : Int) := hp.2.2
        clear hos hmono hc1 hcs hp hl
        go_wp2_with (fail)
        with_reducible refine (cw _).mono ?_
        rintro e w4 ⟨rfl, rfl⟩
        go_wp2_with (fail)
        with_reducible refine (cp _).mono ?_
        rintro e w5 ⟨rfl, rfl⟩
        go_wp2_with (fail)
        with_reducible refine (cnp _).mono ?_
        rintro e w6 ⟨ok, rfl, rfl⟩
        go_wp2_with (fail)
        refine wp_region_still_tail 6 (by kernel_rfl) (by kernel_rfl) ?_
        change wpStill _ _ wr.drew (fun a' => wpList _ _ _ _ a' wr.drew) _ _
        have hZ4 : Cel wr.drew w.heap.size 26 #[.int .i64 0, .int .i64 0, .int .i64 0, .int .i64 0, .int .i64 0, .int .i64 0, .int .i64 0, .int .i64 0, .int .i64 0, .int .i64 0, .bool false, .string ⟨#[]⟩, .string ⟨#[]⟩, .slice none 0 0] := hZ
        have hC4 : Cel wr.drew (w.heap.size + 1) 26 (C0.cells (.slice none 0 0)) := hCd
        have hB4 : Below w.heap.size w wr.drew := hB.drew
        clear hZ hCd hB cw cp cnp
        generalize wr.drew = W4 at *
        have f4 := Cel.loadRow hC4 14 (Ov.cells_size _ _) (P := Try.prog)
        simp only [List.take_succ_cons, List.take_zero, List.drop_succ_cons, List.drop_zero]
        iterate 6 still_step
        refine wpStill_nil ?_
        go_wp2_with (fail)
        with_reducible refine (cput _).mono ?_
        rintro e w7 ⟨rfl, hb7⟩
        have hZ5 := hZ4.kept hb7
        have hC5 := hC4.kept hb7
        have hB5 := Below.then_ hB4 hb7
        have hcz : w7.heap[w.heap.size + 1]? = some (.cells (C0.cells (.slice none 0 0)) 26 (0, 0)) := hC5
        have one := C1.cells_one none 0 0
        have hss : (C0.cells (.slice none 0 0)).size = (C1.cells (.slice none 0 0)).size := by rw [Ov.cells_size, Ov.cells_size]
        have hC6 := hC5.row (C1.cells (.slice none 0 0))
        have hZ6 : Cel (w7.setRow (w.heap.size + 1) (C1.cells (.slice none 0 0))) w.heap.size 26 #[.int .i64 0, .int .i64 0, .int .i64 0, .int .i64 0, .int .i64 0, .int .i64 0, .int .i64 0, .int .i64 0, .int .i64 0, .int .i64 0, .bool false, .string ⟨#[]⟩, .string ⟨#[]⟩, .slice none 0 0] := by
          show (w7.heap.modify _ _)[w.heap.size]? = _
          rw [Array.getElem?_modify, if_neg (by omega)]
          exact hZ5
        have hB6 := below_setRow (g := w.heap.size + 1) hB5 (by omega) (C1.cells (.slice none 0 0))
        clear hZ4 hC4 hB4 f4 hb7 cput hZ5 hC5 hB5
        go_upto_region 22 with (with_reducible refine wpList_store_row rfl 26 _ _ rfl _ rfl _ rfl 26 _ hcz (sizeOpt' _ _) hss one ?_)
        clear hcz one hss
        generalize w7.setRow (w.heap.size + 1) (C1.cells (.slice none 0 0)) = W8 at *
        go_wp2_with (fail)
        go_roundw
        case rel =>
          obtain ⟨hos, hmono, hc1⟩ := HO.out
          exact ⟨j + 1, x + 2, by have := HX.out; omega, by omega, by go_num, by rw [hos], by rw [hos]; exact hyw, hZ6, by rw [hc1]; exact hC6, hB6⟩
        case measure => have := HX.out; simp [intOf]; omega
      · have hn : ¬ Sro s a := HS.out.2.1 (by
          have h2 : ¬ (y + wd ≤ (t.size : Int)) := fun h => hp ⟨hoff0, by omega, h⟩
          omega)
        have cp := fun W => spec_text_no t y wd W (by omega) (by omega) (by omega) hp
        clear hp hos hmono hcs hl HS
        go_wp2_with (fail)
        with_reducible refine (cw _).mono ?_
        rintro e w4 ⟨rfl, rfl⟩
        go_wp2_with (fail)
        with_reducible refine (cp _).mono ?_
        rintro e w5 ⟨rfl, rfl⟩
        have hz : wr.heap[w.heap.size]? = some (.cells #[.int .i64 0, .int .i64 0, .int .i64 0, .int .i64 0, .int .i64 0, .int .i64 0, .int .i64 0, .int .i64 0, .int .i64 0, .int .i64 0, .bool false, .string ⟨#[]⟩, .string ⟨#[]⟩, .slice none 0 0] 26 (0, 0)) := hZ
        obtain ⟨n1, n2⟩ := read_no s a hn
        have hi0 : (Try.prog.info? 26).map (·.size) = some (#[.int .i64 0, .int .i64 0, .int .i64 0, .int .i64 0, .int .i64 0, .int .i64 0, .int .i64 0, .int .i64 0, .int .i64 0, .int .i64 0, .bool false, .string ⟨#[]⟩, .string ⟨#[]⟩, .slice none 0 0] : Array Value).size := by kernel_rfl
        have one0 : (#[.int .i64 0, .int .i64 0, .int .i64 0, .int .i64 0, .int .i64 0, .int .i64 0, .int .i64 0, .int .i64 0, .int .i64 0, .int .i64 0, .bool false, .string ⟨#[]⟩, .string ⟨#[]⟩, .slice none 0 0] : Array Value).all (·.oneCell') = true := by kernel_rfl
        go_upto_region 90 with (with_reducible refine wpList_store_row rfl 26 _ _ rfl w.heap.size rfl _ rfl 26 _ hz hi0 rfl one0 ?_)
        skip
        refine bodyPost_ret (Cel.result_tmp (g := w.heap.size) (t := 26) (cs := #[.int .i64 0, .int .i64 0, .int .i64 0, .int .i64 0, .int .i64 0, .int .i64 0, .int .i64 0, .int .i64 0, .int .i64 0, .int .i64 0, .bool false, .string ⟨#[]⟩, .string ⟨#[]⟩, .slice none 0 0]) ?hh rfl _ rfl Try.underlying26 rfl hi0) rfl ?zz
        case hh => exact Cel.row hZ _
        case zz => rw [n1, n2]; exact ⟨.slice none 0 0, by rw [zeros_eq]; rfl, IRow.none, below_setRow hB (Nat.le_refl _) _⟩

    · obtain rfl : j = n := by omega
      have q0 : ¬ ((x : Int) + 1 < (sh.size : Int)) := by omega
      clear he hx hWn hOl hOn hLt H4 HE
      go_wp2_with (fail)
      have hCe := HS.out.2.2.2.2.1
      have hci := candUp_ids K t sh j
      unfold candOf at hCe
      rw [hsh, hnn] at hCe
      by_cases h8 : K = 8
      · subst h8
        rw [if_pos rfl] at hCe
        have hn0 : j = 0 := by rw [← hnn]; exact shn_8
        have ho0 : offUp sh j = 0 := by rw [hn0]; exact offUp_zero sh
        have hcel : ∀ v, C.cells v = (candUp 8 t sh j).cells v := fun v => by rw [hCe]; unfold Ov.cells; rfl
        have hids : C.ids = bytesOf t := by rw [hCe]
        have hbl : (bytesOf t).length = t.size := by unfold bytesOf; rw [List.length_map, list_size]
        rw [← hcel] at hCd
        clear hCe hci hcel hsh hnn hn0
        go_loopw [14] (fun k wr => ∃ p : Nat, p ≤ t.size ∧ k = .int .i64 p ∧ ∃ va vc, IRow wr (w.heap.size + 2) wr.heap.size (.slice va p vc) ((bytesOf t).take p) ∧ Cel wr w.heap.size 26 #[.int .i64 0, .int .i64 0, .int .i64 0, .int .i64 0, .int .i64 0, .int .i64 0, .int .i64 0, .int .i64 0, .int .i64 0, .int .i64 0, .bool false, .string ⟨#[]⟩, .string ⟨#[]⟩, .slice none 0 0] ∧ Cel wr (w.heap.size + 1) 26 (C.cells (.slice va p vc)) ∧ Below w.heap.size w wr) (fun k _ => t.size - (intOf k).toNat)
        case atStart => exact ⟨0, by omega, by rw [ho0]; rfl, none, 0, by rw [List.take_zero]; exact IRow.none, hZ, hCd, hB⟩
        case round =>
          clear hZ hCd hB
          obtain ⟨p, hp, rfl, va, vc, hr, hZ, hCd, hB⟩ := hrel
          by_cases hpt : p < t.size
          · have q6 : (p : Int) < (t.size : Int) := by omega
            have q7 : (0 : Int) ≤ (p : Int) ∧ (p : Int) < (t.size : Int) := by omega
            have c13 := (hCd.cell 13).trans (C.ats (.slice va p vc)).2.2.2.2.2.2.2.2.2.2.2.2.2
            have f13 := hCd.frozen 13
            have hg12 := hCd.lt
            have hown : wr.ownsRow (w.heap.size + 2) 3 1 (.slice va p vc) p (((bytesOf t).take p).map (Value.int .i64)) := by
              have h1 := hr.1
              rw [List.length_take, hbl, Nat.min_eq_left hp] at h1
              exact h1
            have hbt : (bytesOf t).take (p + 1) = (bytesOf t).take p ++ [((t[p]'hpt).toNat : Int)] := by
              rw [List.take_succ_eq_append_getElem (by omega)]
              unfold bytesOf
              rw [List.getElem_map]
              rfl
            have e3 : IntKind.i64.wrap ((t[p]'hpt).toNat : Int) = ((t[p]'hpt).toNat : Int) := by
              have := (t[p]'hpt).toNat_lt
              exact IntWalk.i64_in _ ⟨by omega, by omega⟩
            have hroom1 : p + 1 ≤ maxLen := by unfold maxLen; omega
            have hroom2 : (p + 1) * 8 ≤ 140737488355328 := by omega
            have hne0 : some w.heap.size ≠ (Value.slice va p vc).ownBlock := fun e => by have := (hr.block _ e.symm).1; omega
            have hne1 : some (w.heap.size + 1) ≠ (Value.slice va p vc).ownBlock := fun e => by have := (hr.block _ e.symm).1; omega
            have hob : ∀ g, (Value.slice va p vc).ownBlock = some g → w.heap.size ≤ g := fun g e => by have := (hr.block _ e).1; omega
            obtain ⟨i0, hi, hz0, hz1, hz2⟩ := info_parts infoI
            have HS' := Lib.hid (And.intro hob (And.intro hbt hids))
            clear hob hbt hids ho0 hbl
            go_wp2_with (fail)
            go_region_law (first
              | (refine step_append_lies _ (by rfl) _ _ _ (by rfl) (w.heap.size + 2) 3 i0 _ 1 8 Try.underlying24 hi hz0 hz1 hz2 rfl (by omega) _ _ _ (by rfl) ((hown.alloc _).drew)
                  ⟨wr.heap.size, 0, none⟩ 1 1 [.int .i64 ((t[p]'hpt).toNat : Int)] (by rfl) (by rfl) (World.news_of_block (cs := #[.int .i64 ((t[p]'hpt).toNat : Int)]) (t := 3) (fr := (0, 0)) (heap_alloc_new wr _)) (by simp [Value.oneCell'])
                  (by omega) hroom1 hroom2 (by simp; omega) (wr.heap.size + 1) (by simp) ?_
                 intro gg cap w1 hown1 hgrow hat hlt2
                 have hC1 : Cel w1 (w.heap.size + 1) 26 (C.cells (.slice va p vc)) := Cel.grown ((hCd.alloc _).drew) hgrow hne1
                 have hZ1 : Cel w1 w.heap.size 26 #[.int .i64 0, .int .i64 0, .int .i64 0, .int .i64 0, .int .i64 0, .int .i64 0, .int .i64 0, .int .i64 0, .int .i64 0, .int .i64 0, .bool false, .string ⟨#[]⟩, .string ⟨#[]⟩, .slice none 0 0] := Cel.grown ((hZ.alloc _).drew) hgrow hne0
                 have c13' := (hC1.cell 13).trans (C.ats (.slice va p vc)).2.2.2.2.2.2.2.2.2.2.2.2.2
                 have f13' := hC1.frozen 13))
            all_goals
              obtain ⟨hob, hbt, hids⟩ := HS'.out
              have hB1 : Below w.heap.size w w1 := ((hB.alloc hB.size _).drew).grown hgrow (by simp; omega) hob
              have hC2 := hC1.set 13 (.slice (some ⟨gg, 0, none⟩) (p + 1) cap)
              rw [Ov.cells_set] at hC2
              have hZ2 := hZ1.other ⟨w.heap.size + 1, 13, none⟩ (.slice (some ⟨gg, 0, none⟩) (p + 1) cap) (by simp)
              have hB2 := hB1.setCell (p := ⟨w.heap.size + 1, 13, none⟩) (by simp) (.slice (some ⟨gg, 0, none⟩) (p + 1) cap)
              have hr1 : IRow w1 (w.heap.size + 2) w1.heap.size (.slice (some ⟨gg, 0, none⟩) (p + 1) cap) ((bytesOf t).take (p + 1)) := by
                refine ⟨?_, fun g hg => by simp [Value.ownBlock] at hg; omega⟩
                rw [hbt, List.map_append, List.length_append, List.length_take]
                have hbl : (bytesOf t).length = t.size := by unfold bytesOf; rw [List.length_map, list_size]
                rw [hbl, Nat.min_eq_left hp]
                exact hown1
              have hr2 : IRow (w1.setCell ⟨w.heap.size + 1, 13, none⟩ (.slice (some ⟨gg, 0, none⟩) (p + 1) cap)) (w.heap.size + 2) w1.heap.size (.slice (some ⟨gg, 0, none⟩) (p + 1) cap) ((bytesOf t).take (p + 1)) :=
                hr1.keepAt (fun g hg => Below.heap_setCell _ _ _ _ (by have := (hr1.block g hg).1; simp; omega))
              have hr3 := hr2.wider (Nat.le_refl _) (show w1.heap.size ≤ (w1.setCell ⟨w.heap.size + 1, 13, none⟩ (.slice (some ⟨gg, 0, none⟩) (p + 1) cap)).heap.size by simp)
              clear hC1 hZ1 hB1 hr1 hr2 hown1 hgrow hat hlt2 c13' f13' hown hr hZ hCd hB c13 f13 hne0 hne1 hob hbt hi hz0 hz1 hz2
              generalize w1.setCell ⟨w.heap.size + 1, 13, none⟩ (.slice (some ⟨gg, 0, none⟩) (p + 1) cap) = W9 at *
              go_wp2_with (fail)
              go_roundw
              case rel => exact ⟨p + 1, by omega, by go_num, _, _, hr3, hZ2, hC2, hB2⟩
              case measure => simp [intOf]; omega
          · have q6 : ¬ (p : Int) < (t.size : Int) := by omega
            have hpl : p = C.ids.length := by rw [hids, hbl]; omega
            have hle : C.ids.length ≤ 1048576 := by omega
            have hR : Rdt w wr w.heap.size (w.heap.size + 1) C (.slice va p vc) := ⟨hZ, hCd, by
              rw [hids, ← List.take_of_length_le (l := bytesOf t) (i := p) (by omega)]
              exact hr.wider (by omega) (Nat.le_refl _), hB⟩
            clear hZ hCd hB hr ho0
            go_wp2_with (fail)
            clear q6 hids hbl hp hpt
            subst hpl
            obtain ⟨hyes, -, hno2, hno3, -, hyR⟩ := HS.out
            have co := fun W (h : Rdt w W w.heap.size (w.heap.size + 1) C (.slice va C.ids.length vc)) => spec_optText C (.slice va C.ids.length vc) W h.r.rd hle
            have S0 := rdt_drew hR
            have x2 : IntKind.i64.wrap (a + 2) = a + 2 := IntWalk.i64_in _ (by omega)
            have x3 : IntKind.i64.wrap (a + 2 + m) = a + 2 + m := IntWalk.i64_in _ (by omega)
            have e1 := empty_b1 (optTx C)
            by_cases ht : optTx C = ⟨#[]⟩
            · have hn := hno2 ht
              rw [decide_eq_true ht] at e1
              have e3 : (optTx C).toList = [] := by simpa using e1
              clear hyes hno2 hno3 hyR ht hR HS
              generalize optTx C = tx at *
              refine wp_region_held_drew (S := fun W => Rdt w W w.heap.size (w.heap.size + 1) C (.slice va C.ids.length vc) ∧ (loadCells ⟨w.heap.size + 1, 0, none⟩ 14).run Try.prog W = .ok (C.cells (.slice va C.ids.length vc)) W) (by kernel_rfl) S0 (fun hHeld => ?_)
              refine take_yes (i := 0) (oi := { dst := some 117, op := Op.load 26 (Operand.tmp 12), type := 26, pos := "l06_options.go:193", after := #[], guard := none }) (v := .agg (C.cells (.slice va C.ids.length vc))) rfl (by kernel_rfl) (by kernel_rfl) (by kernel_rfl) (fun _ _ _ h => h) (by rfl) (fun w hSw => by (try dsimp only at hSw); go_simp) (by assumption) ?_
              try simp only [Act.put, List.setIfInBounds_toArray, List.set_cons_zero, List.set_cons_succ]
              refine wpAnyH_ready (rs := [1]) (by kernel_rfl) (by simp) ?_
              refine AllReadyH.cons (o := { dst := some 118, op := Op.call { callee := Callee.value (Operand.func 48), args := #[Operand.tmp 117], argTypes := #[26] }, type := 9, pos := "l06_options.go:193", after := #[{ on := 0, ground := Ground.data }], guard := none }) rfl (fun K hK => ?_) AllReadyH.nil
              go_simp
              with_reducible refine (co _ (by assumption : _ ∧ _).1).mono ?_
              rintro e w21 ⟨rfl, hb1⟩
              refine hK.out _ _ (rdt_keep (by assumption) hb1) (fun hHeld => ?_)
              clear hK K
              try simp only [Act.put, List.setIfInBounds_toArray, List.set_cons_zero, List.set_cons_succ]
              refine take_yes (i := 2) (oi := { dst := some 119, op := Op.binOp BinOp.eql 9 (Operand.tmp 118) (Operand.const (Value.string { data := #[] })) 9, type := 4, pos := "l06_options.go:193", after := #[{ on := 1, ground := Ground.data }], guard := none }) (v := .bool true) rfl (by kernel_rfl) (by kernel_rfl) (by kernel_rfl) (fun _ _ _ h => h) (by rfl) (fun w hSw => by (try dsimp only at hSw); go_simp) (by assumption) ?_
              try simp only [Act.put, List.setIfInBounds_toArray, List.set_cons_zero, List.set_cons_succ]
              refine take_yes (i := 3) (oi := { dst := some 120, op := Op.move (Operand.tmp 119), type := 4, pos := "l06_options.go:193", after := #[{ on := 2, ground := Ground.data }, { on := 1, ground := Ground.chain }], guard := none }) (v := .bool true) rfl (by kernel_rfl) (by kernel_rfl) (by kernel_rfl) (fun _ _ _ h => h) (by rfl) (fun w hSw => by (try dsimp only at hSw); go_simp) (by assumption) ?_
              try simp only [Act.put, List.setIfInBounds_toArray, List.set_cons_zero, List.set_cons_succ]
              refine take_no (i := 4) (oi := { dst := some 121, op := Op.load 26 (Operand.tmp 12), type := 26, pos := "l06_options.go:193", after := #[{ on := 3, ground := Ground.guard }], guard := some (3, false) }) rfl (by kernel_rfl) (by kernel_rfl) (by kernel_rfl) (fun _ _ _ h => h) (by rfl) (by assumption) ?_
              try simp only [Act.put, List.setIfInBounds_toArray, List.set_cons_zero, List.set_cons_succ]
              refine take_no (i := 5) (oi := { dst := some 122, op := Op.call { callee := Callee.value (Operand.func 48), args := #[Operand.tmp 121], argTypes := #[26] }, type := 9, pos := "l06_options.go:193", after := #[{ on := 4, ground := Ground.data }, { on := 3, ground := Ground.chain }, { on := 3, ground := Ground.guard }], guard := some (3, false) }) rfl (by kernel_rfl) (by kernel_rfl) (by kernel_rfl) (fun _ _ _ h => h) (by rfl) (by assumption) ?_
              try simp only [Act.put, List.setIfInBounds_toArray, List.set_cons_zero, List.set_cons_succ]
              refine take_no (i := 6) (oi := { dst := some 123, op := Op.move (Operand.tmp 0), type := 9, pos := "l06_options.go:193", after := #[{ on := 3, ground := Ground.guard }], guard := some (3, false) }) rfl (by kernel_rfl) (by kernel_rfl) (by kernel_rfl) (fun _ _ _ h => h) (by rfl) (by assumption) ?_
              try simp only [Act.put, List.setIfInBounds_toArray, List.set_cons_zero, List.set_cons_succ]
              refine take_no (i := 7) (oi := { dst := some 124, op := Op.move (Operand.tmp 1), type := 3, pos := "l06_options.go:193", after := #[{ on := 3, ground := Ground.guard }], guard := some (3, false) }) rfl (by kernel_rfl) (by kernel_rfl) (by kernel_rfl) (fun _ _ _ h => h) (by rfl) (by assumption) ?_
              try simp only [Act.put, List.setIfInBounds_toArray, List.set_cons_zero, List.set_cons_succ]
              refine take_no (i := 8) (oi := { dst := some 125, op := Op.move (Operand.tmp 1), type := 3, pos := "l06_options.go:193", after := #[{ on := 3, ground := Ground.guard }], guard := some (3, false) }) rfl (by kernel_rfl) (by kernel_rfl) (by kernel_rfl) (fun _ _ _ h => h) (by rfl) (by assumption) ?_
              try simp only [Act.put, List.setIfInBounds_toArray, List.set_cons_zero, List.set_cons_succ]
              refine take_no (i := 9) (oi := { dst := some 126, op := Op.binOp BinOp.add 3 (Operand.tmp 125) (Operand.const (Value.int IntKind.i64 2)) 3, type := 3, pos := "l06_options.go:193", after := #[{ on := 8, ground := Ground.data }, { on := 3, ground := Ground.guard }], guard := some (3, false) }) rfl (by kernel_rfl) (by kernel_rfl) (by kernel_rfl) (fun _ _ _ h => h) (by rfl) (by assumption) ?_
              try simp only [Act.put, List.setIfInBounds_toArray, List.set_cons_zero, List.set_cons_succ]
              refine take_no (i := 10) (oi := { dst := some 127, op := Op.move (Operand.tmp 8), type := 3, pos := "l06_options.go:193", after := #[{ on := 3, ground := Ground.guard }], guard := some (3, false) }) rfl (by kernel_rfl) (by kernel_rfl) (by kernel_rfl) (fun _ _ _ h => h) (by rfl) (by assumption) ?_
              try simp only [Act.put, List.setIfInBounds_toArray, List.set_cons_zero, List.set_cons_succ]
              refine take_no (i := 11) (oi := { dst := some 128, op := Op.binOp BinOp.add 3 (Operand.tmp 126) (Operand.tmp 127) 3, type := 3, pos := "l06_options.go:193", after := #[{ on := 9, ground := Ground.data }, { on := 10, ground := Ground.data }, { on := 3, ground := Ground.guard }], guard := some (3, false) }) rfl (by kernel_rfl) (by kernel_rfl) (by kernel_rfl) (fun _ _ _ h => h) (by rfl) (by assumption) ?_
              try simp only [Act.put, List.setIfInBounds_toArray, List.set_cons_zero, List.set_cons_succ]
              refine take_no (i := 12) (oi := { dst := some 129, op := Op.slice 9 (Operand.tmp 123) (some (Operand.tmp 124)) (some (Operand.tmp 128)) none, type := 9, pos := "l06_options.go:193", after := #[{ on := 6, ground := Ground.data }, { on := 7, ground := Ground.data }, { on := 11, ground := Ground.data }, { on := 3, ground := Ground.guard }], guard := some (3, false) }) rfl (by kernel_rfl) (by kernel_rfl) (by kernel_rfl) (fun _ _ _ h => h) (by rfl) (by assumption) ?_
              try simp only [Act.put, List.setIfInBounds_toArray, List.set_cons_zero, List.set_cons_succ]
              refine take_no (i := 13) (oi := { dst := some 130, op := Op.binOp BinOp.neq 9 (Operand.tmp 122) (Operand.tmp 129) 9, type := 4, pos := "l06_options.go:193", after := #[{ on := 5, ground := Ground.data }, { on := 12, ground := Ground.data }, { on := 3, ground := Ground.guard }], guard := some (3, false) }) rfl (by kernel_rfl) (by kernel_rfl) (by kernel_rfl) (fun _ _ _ h => h) (by rfl) (by assumption) ?_
              try simp only [Act.put, List.setIfInBounds_toArray, List.set_cons_zero, List.set_cons_succ]
              refine take_yes (i := 14) (oi := { dst := some 131, op := Op.pick (Operand.tmp 120) (Operand.const (Value.bool true)) (Operand.tmp 130), type := 4, pos := "l06_options.go:193", after := #[{ on := 3, ground := Ground.data }, { on := 13, ground := Ground.data }], guard := none }) (v := .bool true) rfl (by kernel_rfl) (by kernel_rfl) (by kernel_rfl) (fun _ _ _ h => h) (by rfl) (fun w hSw => by (try dsimp only at hSw); go_simp) (by assumption) ?_
              try simp only [Act.put, List.setIfInBounds_toArray, List.set_cons_zero, List.set_cons_succ]
              refine wpAnyH_done (by kernel_rfl) ?_ _
              have hR1 : Rdt w w21 w.heap.size (w.heap.size + 1) C (.slice va C.ids.length vc) := (by assumption : Rdt w w21 w.heap.size (w.heap.size + 1) C (.slice va C.ids.length vc) ∧ _).1
              have hz : w21.heap[w.heap.size]? = some (.cells #[.int .i64 0, .int .i64 0, .int .i64 0, .int .i64 0, .int .i64 0, .int .i64 0, .int .i64 0, .int .i64 0, .int .i64 0, .int .i64 0, .bool false, .string ⟨#[]⟩, .string ⟨#[]⟩, .slice none 0 0] 26 (0, 0)) := hR1.z
              clear S0 hb1
              obtain ⟨n1, n2⟩ := read_no s a hn
              have hi0 : (Try.prog.info? 26).map (·.size) = some (#[.int .i64 0, .int .i64 0, .int .i64 0, .int .i64 0, .int .i64 0, .int .i64 0, .int .i64 0, .int .i64 0, .int .i64 0, .int .i64 0, .bool false, .string ⟨#[]⟩, .string ⟨#[]⟩, .slice none 0 0] : Array Value).size := by kernel_rfl
              have one0 : (#[.int .i64 0, .int .i64 0, .int .i64 0, .int .i64 0, .int .i64 0, .int .i64 0, .int .i64 0, .int .i64 0, .int .i64 0, .int .i64 0, .bool false, .string ⟨#[]⟩, .string ⟨#[]⟩, .slice none 0 0] : Array Value).all (·.oneCell') = true := by kernel_rfl
              go_upto_region 90 with (with_reducible refine wpList_store_row rfl 26 _ _ rfl w.heap.size rfl _ rfl 26 _ hz hi0 rfl one0 ?_)
              skip
              refine bodyPost_ret (Cel.result_tmp (g := w.heap.size) (t := 26) (cs := #[.int .i64 0, .int .i64 0, .int .i64 0, .int .i64 0, .int .i64 0, .int .i64 0, .int .i64 0, .int .i64 0, .int .i64 0, .int .i64 0, .bool false, .string ⟨#[]⟩, .string ⟨#[]⟩, .slice none 0 0]) ?hh rfl _ rfl Try.underlying26 rfl hi0) rfl ?zz
              case hh => exact Cel.row hR1.z _
              case zz => rw [n1, n2]; exact ⟨.slice none 0 0, by rw [zeros_eq]; rfl, IRow.none, below_setRow hR1.b (Nat.le_refl _) _⟩
            
            · by_cases hE : optTx C = E
              · have hn := hyes hof ht hE
                obtain ⟨r1, r2⟩ := hyR hn
                rw [decide_eq_false ht] at e1
                have e3 : ¬ (optTx C).toList = [] := fun h => by rw [h] at e1; cases e1
                have e2 := extract_bytes (optTx C) E
                rw [decide_eq_true hE] at e2
                have e4 : (optTx C).toList = E.toList := by rw [hE]
                have e5 : ¬ E.toList = [] := by rw [← e4]; exact e3
                clear hyes hno2 hno3 hyR ht hR HS hE
                generalize optTx C = tx at *
                refine wp_region_held_drew (S := fun W => Rdt w W w.heap.size (w.heap.size + 1) C (.slice va C.ids.length vc) ∧ (loadCells ⟨w.heap.size + 1, 0, none⟩ 14).run Try.prog W = .ok (C.cells (.slice va C.ids.length vc)) W) (by kernel_rfl) S0 (fun hHeld => ?_)
                refine take_yes (i := 0) (oi := { dst := some 117, op := Op.load 26 (Operand.tmp 12), type := 26, pos := "l06_options.go:193", after := #[], guard := none }) (v := .agg (C.cells (.slice va C.ids.length vc))) rfl (by kernel_rfl) (by kernel_rfl) (by kernel_rfl) (fun _ _ _ h => h) (by rfl) (fun w hSw => by (try dsimp only at hSw); go_simp) (by assumption) ?_
                try simp only [Act.put, List.setIfInBounds_toArray, List.set_cons_zero, List.set_cons_succ]
                refine wpAnyH_ready (rs := [1]) (by kernel_rfl) (by simp) ?_
                refine AllReadyH.cons (o := { dst := some 118, op := Op.call { callee := Callee.value (Operand.func 48), args := #[Operand.tmp 117], argTypes := #[26] }, type := 9, pos := "l06_options.go:193", after := #[{ on := 0, ground := Ground.data }], guard := none }) rfl (fun K hK => ?_) AllReadyH.nil
                go_simp
                with_reducible refine (co _ (by assumption : _ ∧ _).1).mono ?_
                rintro e w21 ⟨rfl, hb1⟩
                refine hK.out _ _ (rdt_keep (by assumption) hb1) (fun hHeld => ?_)
                clear hK K
                try simp only [Act.put, List.setIfInBounds_toArray, List.set_cons_zero, List.set_cons_succ]
                refine take_yes (i := 2) (oi := { dst := some 119, op := Op.binOp BinOp.eql 9 (Operand.tmp 118) (Operand.const (Value.string { data := #[] })) 9, type := 4, pos := "l06_options.go:193", after := #[{ on := 1, ground := Ground.data }], guard := none }) (v := .bool false) rfl (by kernel_rfl) (by kernel_rfl) (by kernel_rfl) (fun _ _ _ h => h) (by rfl) (fun w hSw => by (try dsimp only at hSw); go_simp) (by assumption) ?_
                try simp only [Act.put, List.setIfInBounds_toArray, List.set_cons_zero, List.set_cons_succ]
                refine take_yes (i := 3) (oi := { dst := some 120, op := Op.move (Operand.tmp 119), type := 4, pos := "l06_options.go:193", after := #[{ on := 2, ground := Ground.data }, { on := 1, ground := Ground.chain }], guard := none }) (v := .bool false) rfl (by kernel_rfl) (by kernel_rfl) (by kernel_rfl) (fun _ _ _ h => h) (by rfl) (fun w hSw => by (try dsimp only at hSw); go_simp) (by assumption) ?_
                try simp only [Act.put, List.setIfInBounds_toArray, List.set_cons_zero, List.set_cons_succ]
                refine take_yes (i := 4) (oi := { dst := some 121, op := Op.load 26 (Operand.tmp 12), type := 26, pos := "l06_options.go:193", after := #[{ on := 3, ground := Ground.guard }], guard := some (3, false) }) (v := .agg (C.cells (.slice va C.ids.length vc))) rfl (by kernel_rfl) (by kernel_rfl) (by kernel_rfl) (fun _ _ _ h => h) (by rfl) (fun w hSw => by (try dsimp only at hSw); go_simp) (by assumption) ?_
                try simp only [Act.put, List.setIfInBounds_toArray, List.set_cons_zero, List.set_cons_succ]
                refine take_yes (i := 6) (oi := { dst := some 123, op := Op.move (Operand.tmp 0), type := 9, pos := "l06_options.go:193", after := #[{ on := 3, ground := Ground.guard }], guard := some (3, false) }) (v := .string s) rfl (by kernel_rfl) (by kernel_rfl) (by kernel_rfl) (fun _ _ _ h => h) (by rfl) (fun w hSw => by (try dsimp only at hSw); go_simp) (by assumption) ?_
                try simp only [Act.put, List.setIfInBounds_toArray, List.set_cons_zero, List.set_cons_succ]
                refine take_yes (i := 7) (oi := { dst := some 124, op := Op.move (Operand.tmp 1), type := 3, pos := "l06_options.go:193", after := #[{ on := 3, ground := Ground.guard }], guard := some (3, false) }) (v := .int .i64 a) rfl (by kernel_rfl) (by kernel_rfl) (by kernel_rfl) (fun _ _ _ h => h) (by rfl) (fun w hSw => by (try dsimp only at hSw); go_simp) (by assumption) ?_
                try simp only [Act.put, List.setIfInBounds_toArray, List.set_cons_zero, List.set_cons_succ]
                refine take_yes (i := 8) (oi := { dst := some 125, op := Op.move (Operand.tmp 1), type := 3, pos := "l06_options.go:193", after := #[{ on := 3, ground := Ground.guard }], guard := some (3, false) }) (v := .int .i64 a) rfl (by kernel_rfl) (by kernel_rfl) (by kernel_rfl) (fun _ _ _ h => h) (by rfl) (fun w hSw => by (try dsimp only at hSw); go_simp) (by assumption) ?_
                try simp only [Act.put, List.setIfInBounds_toArray, List.set_cons_zero, List.set_cons_succ]
                refine take_yes (i := 9) (oi := { dst := some 126, op := Op.binOp BinOp.add 3 (Operand.tmp 125) (Operand.const (Value.int IntKind.i64 2)) 3, type := 3, pos := "l06_options.go:193", after := #[{ on := 8, ground := Ground.data }, { on := 3, ground := Ground.guard }], guard := some (3, false) }) (v := .int .i64 (a + 2)) rfl (by kernel_rfl) (by kernel_rfl) (by kernel_rfl) (fun _ _ _ h => h) (by rfl) (fun w hSw => by (try dsimp only at hSw); go_simp) (by assumption) ?_
                try simp only [Act.put, List.setIfInBounds_toArray, List.set_cons_zero, List.set_cons_succ]
                refine take_yes (i := 10) (oi := { dst := some 127, op := Op.move (Operand.tmp 8), type := 3, pos := "l06_options.go:193", after := #[{ on := 3, ground := Ground.guard }], guard := some (3, false) }) (v := .int .i64 m) rfl (by kernel_rfl) (by kernel_rfl) (by kernel_rfl) (fun _ _ _ h => h) (by rfl) (fun w hSw => by (try dsimp only at hSw); go_simp) (by assumption) ?_
                try simp only [Act.put, List.setIfInBounds_toArray, List.set_cons_zero, List.set_cons_succ]
                refine take_yes (i := 11) (oi := { dst := some 128, op := Op.binOp BinOp.add 3 (Operand.tmp 126) (Operand.tmp 127) 3, type := 3, pos := "l06_options.go:193", after := #[{ on := 9, ground := Ground.data }, { on := 10, ground := Ground.data }, { on := 3, ground := Ground.guard }], guard := some (3, false) }) (v := .int .i64 (a + 2 + m)) rfl (by kernel_rfl) (by kernel_rfl) (by kernel_rfl) (fun _ _ _ h => h) (by rfl) (fun w hSw => by (try dsimp only at hSw); go_simp) (by assumption) ?_
                try simp only [Act.put, List.setIfInBounds_toArray, List.set_cons_zero, List.set_cons_succ]
                refine take_yes (i := 12) (oi := { dst := some 129, op := Op.slice 9 (Operand.tmp 123) (some (Operand.tmp 124)) (some (Operand.tmp 128)) none, type := 9, pos := "l06_options.go:193", after := #[{ on := 6, ground := Ground.data }, { on := 7, ground := Ground.data }, { on := 11, ground := Ground.data }, { on := 3, ground := Ground.guard }], guard := some (3, false) }) (v := .string E) rfl (by kernel_rfl) (by kernel_rfl) (by kernel_rfl) (fun _ _ _ h => h) (by rfl) (fun w hSw => by (try dsimp only at hSw); go_simp) (by assumption) ?_
                try simp only [Act.put, List.setIfInBounds_toArray, List.set_cons_zero, List.set_cons_succ]
                refine wpAnyH_ready (rs := [5]) (by kernel_rfl) (by simp) ?_
                refine AllReadyH.cons (o := { dst := some 122, op := Op.call { callee := Callee.value (Operand.func 48), args := #[Operand.tmp 121], argTypes := #[26] }, type := 9, pos := "l06_options.go:193", after := #[{ on := 4, ground := Ground.data }, { on := 3, ground := Ground.chain }, { on := 3, ground := Ground.guard }], guard := some (3, false) }) rfl (fun K hK => ?_) AllReadyH.nil
                go_simp
                with_reducible refine (co _ (by assumption : _ ∧ _).1).mono ?_
                rintro e w25 ⟨rfl, hb2⟩
                refine hK.out _ _ (rdt_keep (by assumption) hb2) (fun hHeld => ?_)
                clear hK K
                try simp only [Act.put, List.setIfInBounds_toArray, List.set_cons_zero, List.set_cons_succ]
                refine take_yes (i := 13) (oi := { dst := some 130, op := Op.binOp BinOp.neq 9 (Operand.tmp 122) (Operand.tmp 129) 9, type := 4, pos := "l06_options.go:193", after := #[{ on := 5, ground := Ground.data }, { on := 12, ground := Ground.data }, { on := 3, ground := Ground.guard }], guard := some (3, false) }) (v := .bool false) rfl (by kernel_rfl) (by kernel_rfl) (by kernel_rfl) (fun _ _ _ h => h) (by rfl) (fun w hSw => by (try dsimp only at hSw); go_simp) (by assumption) ?_
                try simp only [Act.put, List.setIfInBounds_toArray, List.set_cons_zero, List.set_cons_succ]
                refine take_yes (i := 14) (oi := { dst := some 131, op := Op.pick (Operand.tmp 120) (Operand.const (Value.bool true)) (Operand.tmp 130), type := 4, pos := "l06_options.go:193", after := #[{ on := 3, ground := Ground.data }, { on := 13, ground := Ground.data }], guard := none }) (v := .bool false) rfl (by kernel_rfl) (by kernel_rfl) (by kernel_rfl) (fun _ _ _ h => h) (by rfl) (fun w hSw => by (try dsimp only at hSw); go_simp) (by assumption) ?_
                try simp only [Act.put, List.setIfInBounds_toArray, List.set_cons_zero, List.set_cons_succ]
                refine wpAnyH_done (by kernel_rfl) ?_ _
                have hR2 : Rdt w w25 w.heap.size (w.heap.size + 1) C (.slice va C.ids.length vc) := (by assumption : Rdt w w25 w.heap.size (w.heap.size + 1) C (.slice va C.ids.length vc) ∧ _).1
                have hz : w25.heap[w.heap.size]? = some (.cells #[.int .i64 0, .int .i64 0, .int .i64 0, .int .i64 0, .int .i64 0, .int .i64 0, .int .i64 0, .int .i64 0, .int .i64 0, .int .i64 0, .bool false, .string ⟨#[]⟩, .string ⟨#[]⟩, .slice none 0 0] 26 (0, 0)) := hR2.z
                have f7 := Cel.loadRow hR2.c 14 (Ov.cells_size _ _) (P := Try.prog)
                have one := C.cells_one va C.ids.length vc
                have hss : (#[.int .i64 0, .int .i64 0, .int .i64 0, .int .i64 0, .int .i64 0, .int .i64 0, .int .i64 0, .int .i64 0, .int .i64 0, .int .i64 0, .bool false, .string ⟨#[]⟩, .string ⟨#[]⟩, .slice none 0 0] : Array Value).size = (C.cells (.slice va C.ids.length vc)).size := by rw [Ov.cells_size]; rfl
                clear S0 hb1 hb2
                go_upto_region 91 with (with_reducible refine wpList_store_row rfl 26 _ _ rfl w.heap.size rfl _ rfl 26 _ hz (sizeOpt' _ _) hss one ?_)
                skip
                refine bodyPost_ret (Cel.result_tmp (g := w.heap.size) (t := 26) (cs := C.cells (.slice va C.ids.length vc)) ?hh rfl _ rfl Try.underlying26 rfl (sizeOpt' _ _)) rfl ?zz
                case hh => exact Cel.row hR2.z _
                case zz =>
                  rw [r1, r2]
                  refine ⟨(.slice va C.ids.length vc), by go_num, ?_, below_setRow hR2.b (Nat.le_refl _) _⟩
                  refine (hR2.r.keepAt (fun g hg => ?_)).wider (by omega) (by simp [World.setRow])
                  have := hR2.r.block g hg
                  show (w25.heap.modify _ _)[g]? = _
                  rw [Array.getElem?_modify, if_neg (by omega)]
              · have hn := hno3 hE
                rw [decide_eq_false ht] at e1
                have e3 : ¬ (optTx C).toList = [] := fun h => by rw [h] at e1; cases e1
                have e2 := extract_bytes (optTx C) E
                rw [decide_eq_false hE] at e2
                have e4 : ¬ (optTx C).toList = E.toList := fun h => by rw [h] at e2; simp at e2
                clear hyes hno2 hno3 hyR ht hR HS hE
                generalize optTx C = tx at *
                refine wp_region_held_drew (S := fun W => Rdt w W w.heap.size (w.heap.size + 1) C (.slice va C.ids.length vc) ∧ (loadCells ⟨w.heap.size + 1, 0, none⟩ 14).run Try.prog W = .ok (C.cells (.slice va C.ids.length vc)) W) (by kernel_rfl) S0 (fun hHeld => ?_)
                refine take_yes (i := 0) (oi := { dst := some 117, op := Op.load 26 (Operand.tmp 12), type := 26, pos := "l06_options.go:193", after := #[], guard := none }) (v := .agg (C.cells (.slice va C.ids.length vc))) rfl (by kernel_rfl) (by kernel_rfl) (by kernel_rfl) (fun _ _ _ h => h) (by rfl) (fun w hSw => by (try dsimp only at hSw); go_simp) (by assumption) ?_
                try simp only [Act.put, List.setIfInBounds_toArray, List.set_cons_zero, List.set_cons_succ]
                refine wpAnyH_ready (rs := [1]) (by kernel_rfl) (by simp) ?_
                refine AllReadyH.cons (o := { dst := some 118, op := Op.call { callee := Callee.value (Operand.func 48), args := #[Operand.tmp 117], argTypes := #[26] }, type := 9, pos := "l06_options.go:193", after := #[{ on := 0, ground := Ground.data }], guard := none }) rfl (fun K hK => ?_) AllReadyH.nil
                go_simp
                with_reducible refine (co _ (by assumption : _ ∧ _).1).mono ?_
                rintro e w21 ⟨rfl, hb1⟩
                refine hK.out _ _ (rdt_keep (by assumption) hb1) (fun hHeld => ?_)
                clear hK K
                try simp only [Act.put, List.setIfInBounds_toArray, List.set_cons_zero, List.set_cons_succ]
                refine take_yes (i := 2) (oi := { dst := some 119, op := Op.binOp BinOp.eql 9 (Operand.tmp 118) (Operand.const (Value.string { data := #[] })) 9, type := 4, pos := "l06_options.go:193", after := #[{ on := 1, ground := Ground.data }], guard := none }) (v := .bool false) rfl (by kernel_rfl) (by kernel_rfl) (by kernel_rfl) (fun _ _ _ h => h) (by rfl) (fun w hSw => by (try dsimp only at hSw); go_simp) (by assumption) ?_
                try simp only [Act.put, List.setIfInBounds_toArray, List.set_cons_zero, List.set_cons_succ]
                refine take_yes (i := 3) (oi := { dst := some 120, op := Op.move (Operand.tmp 119), type := 4, pos := "l06_options.go:193", after := #[{ on := 2, ground := Ground.data }, { on := 1, ground := Ground.chain }], guard := none }) (v := .bool false) rfl (by kernel_rfl) (by kernel_rfl) (by kernel_rfl) (fun _ _ _ h => h) (by rfl) (fun w hSw => by (try dsimp only at hSw); go_simp) (by assumption) ?_
                try simp only [Act.put, List.setIfInBounds_toArray, List.set_cons_zero, List.set_cons_succ]
                refine take_yes (i := 4) (oi := { dst := some 121, op := Op.load 26 (Operand.tmp 12), type := 26, pos := "l06_options.go:193", after := #[{ on := 3, ground := Ground.guard }], guard := some (3, false) }) (v := .agg (C.cells (.slice va C.ids.length vc))) rfl (by kernel_rfl) (by kernel_rfl) (by kernel_rfl) (fun _ _ _ h => h) (by rfl) (fun w hSw => by (try dsimp only at hSw); go_simp) (by assumption) ?_
                try simp only [Act.put, List.setIfInBounds_toArray, List.set_cons_zero, List.set_cons_succ]
                refine take_yes (i := 6) (oi := { dst := some 123, op := Op.move (Operand.tmp 0), type := 9, pos := "l06_options.go:193", after := #[{ on := 3, ground := Ground.guard }], guard := some (3, false) }) (v := .string s) rfl (by kernel_rfl) (by kernel_rfl) (by kernel_rfl) (fun _ _ _ h => h) (by rfl) (fun w hSw => by (try dsimp only at hSw); go_simp) (by assumption) ?_
                try simp only [Act.put, List.setIfInBounds_toArray, List.set_cons_zero, List.set_cons_succ]
                refine take_yes (i := 7) (oi := { dst := some 124, op := Op.move (Operand.tmp 1), type := 3, pos := "l06_options.go:193", after := #[{ on := 3, ground := Ground.guard }], guard := some (3, false) }) (v := .int .i64 a) rfl (by kernel_rfl) (by kernel_rfl) (by kernel_rfl) (fun _ _ _ h => h) (by rfl) (fun w hSw => by (try dsimp only at hSw); go_simp) (by assumption) ?_
                try simp only [Act.put, List.setIfInBounds_toArray, List.set_cons_zero, List.set_cons_succ]
                refine take_yes (i := 8) (oi := { dst := some 125, op := Op.move (Operand.tmp 1), type := 3, pos := "l06_options.go:193", after := #[{ on := 3, ground := Ground.guard }], guard := some (3, false) }) (v := .int .i64 a) rfl (by kernel_rfl) (by kernel_rfl) (by kernel_rfl) (fun _ _ _ h => h) (by rfl) (fun w hSw => by (try dsimp only at hSw); go_simp) (by assumption) ?_
                try simp only [Act.put, List.setIfInBounds_toArray, List.set_cons_zero, List.set_cons_succ]
                refine take_yes (i := 9) (oi := { dst := some 126, op := Op.binOp BinOp.add 3 (Operand.tmp 125) (Operand.const (Value.int IntKind.i64 2)) 3, type := 3, pos := "l06_options.go:193", after := #[{ on := 8, ground := Ground.data }, { on := 3, ground := Ground.guard }], guard := some (3, false) }) (v := .int .i64 (a + 2)) rfl (by kernel_rfl) (by kernel_rfl) (by kernel_rfl) (fun _ _ _ h => h) (by rfl) (fun w hSw => by (try dsimp only at hSw); go_simp) (by assumption) ?_
                try simp only [Act.put, List.setIfInBounds_toArray, List.set_cons_zero, List.set_cons_succ]
                refine take_yes (i := 10) (oi := { dst := some 127, op := Op.move (Operand.tmp 8), type := 3, pos := "l06_options.go:193", after := #[{ on := 3, ground := Ground.guard }], guard := some (3, false) }) (v := .int .i64 m) rfl (by kernel_rfl) (by kernel_rfl) (by kernel_rfl) (fun _ _ _ h => h) (by rfl) (fun w hSw => by (try dsimp only at hSw); go_simp) (by assumption) ?_
                try simp only [Act.put, List.setIfInBounds_toArray, List.set_cons_zero, List.set_cons_succ]
                refine take_yes (i := 11) (oi := { dst := some 128, op := Op.binOp BinOp.add 3 (Operand.tmp 126) (Operand.tmp 127) 3, type := 3, pos := "l06_options.go:193", after := #[{ on := 9, ground := Ground.data }, { on := 10, ground := Ground.data }, { on := 3, ground := Ground.guard }], guard := some (3, false) }) (v := .int .i64 (a + 2 + m)) rfl (by kernel_rfl) (by kernel_rfl) (by kernel_rfl) (fun _ _ _ h => h) (by rfl) (fun w hSw => by (try dsimp only at hSw); go_simp) (by assumption) ?_
                try simp only [Act.put, List.setIfInBounds_toArray, List.set_cons_zero, List.set_cons_succ]
                refine take_yes (i := 12) (oi := { dst := some 129, op := Op.slice 9 (Operand.tmp 123) (some (Operand.tmp 124)) (some (Operand.tmp 128)) none, type := 9, pos := "l06_options.go:193", after := #[{ on := 6, ground := Ground.data }, { on := 7, ground := Ground.data }, { on := 11, ground := Ground.data }, { on := 3, ground := Ground.guard }], guard := some (3, false) }) (v := .string E) rfl (by kernel_rfl) (by kernel_rfl) (by kernel_rfl) (fun _ _ _ h => h) (by rfl) (fun w hSw => by (try dsimp only at hSw); go_simp) (by assumption) ?_
                try simp only [Act.put, List.setIfInBounds_toArray, List.set_cons_zero, List.set_cons_succ]
                refine wpAnyH_ready (rs := [5]) (by kernel_rfl) (by simp) ?_
                refine AllReadyH.cons (o := { dst := some 122, op := Op.call { callee := Callee.value (Operand.func 48), args := #[Operand.tmp 121], argTypes := #[26] }, type := 9, pos := "l06_options.go:193", after := #[{ on := 4, ground := Ground.data }, { on := 3, ground := Ground.chain }, { on := 3, ground := Ground.guard }], guard := some (3, false) }) rfl (fun K hK => ?_) AllReadyH.nil
                go_simp
                with_reducible refine (co _ (by assumption : _ ∧ _).1).mono ?_
                rintro e w25 ⟨rfl, hb2⟩
                refine hK.out _ _ (rdt_keep (by assumption) hb2) (fun hHeld => ?_)
                clear hK K
                try simp only [Act.put, List.setIfInBounds_toArray, List.set_cons_zero, List.set_cons_succ]
                refine take_yes (i := 13) (oi := { dst := some 130, op := Op.binOp BinOp.neq 9 (Operand.tmp 122) (Operand.tmp 129) 9, type := 4, pos := "l06_options.go:193", after := #[{ on := 5, ground := Ground.data }, { on := 12, ground := Ground.data }, { on := 3, ground := Ground.guard }], guard := some (3, false) }) (v := .bool true) rfl (by kernel_rfl) (by kernel_rfl) (by kernel_rfl) (fun _ _ _ h => h) (by rfl) (fun w hSw => by (try dsimp only at hSw); go_simp) (by assumption) ?_
                try simp only [Act.put, List.setIfInBounds_toArray, List.set_cons_zero, List.set_cons_succ]
                refine take_yes (i := 14) (oi := { dst := some 131, op := Op.pick (Operand.tmp 120) (Operand.const (Value.bool true)) (Operand.tmp 130), type := 4, pos := "l06_options.go:193", after := #[{ on := 3, ground := Ground.data }, { on := 13, ground := Ground.data }], guard := none }) (v := .bool true) rfl (by kernel_rfl) (by kernel_rfl) (by kernel_rfl) (fun _ _ _ h => h) (by rfl) (fun w hSw => by (try dsimp only at hSw); go_simp) (by assumption) ?_
                try simp only [Act.put, List.setIfInBounds_toArray, List.set_cons_zero, List.set_cons_succ]
                refine wpAnyH_done (by kernel_rfl) ?_ _
                have hR2 : Rdt w w25 w.heap.size (w.heap.size + 1) C (.slice va C.ids.length vc) := (by assumption : Rdt w w25 w.heap.size (w.heap.size + 1) C (.slice va C.ids.length vc) ∧ _).1
                have hz : w25.heap[w.heap.size]? = some (.cells #[.int .i64 0, .int .i64 0, .int .i64 0, .int .i64 0, .int .i64 0, .int .i64 0, .int .i64 0, .int .i64 0, .int .i64 0, .int .i64 0, .bool false, .string ⟨#[]⟩, .string ⟨#[]⟩, .slice none 0 0] 26 (0, 0)) := hR2.z
                clear S0 hb1 hb2
                obtain ⟨n1, n2⟩ := read_no s a hn
                have hi0 : (Try.prog.info? 26).map (·.size) = some (#[.int .i64 0, .int .i64 0, .int .i64 0, .int .i64 0, .int .i64 0, .int .i64 0, .int .i64 0, .int .i64 0, .int .i64 0, .int .i64 0, .bool false, .string ⟨#[]⟩, .string ⟨#[]⟩, .slice none 0 0] : Array Value).size := by kernel_rfl
                have one0 : (#[.int .i64 0, .int .i64 0, .int .i64 0, .int .i64 0, .int .i64 0, .int .i64 0, .int .i64 0, .int .i64 0, .int .i64 0, .int .i64 0, .bool false, .string ⟨#[]⟩, .string ⟨#[]⟩, .slice none 0 0] : Array Value).all (·.oneCell') = true := by kernel_rfl
                go_upto_region 90 with (with_reducible refine wpList_store_row rfl 26 _ _ rfl w.heap.size rfl _ rfl 26 _ hz hi0 rfl one0 ?_)
                skip
                refine bodyPost_ret (Cel.result_tmp (g := w.heap.size) (t := 26) (cs := #[.int .i64 0, .int .i64 0, .int .i64 0, .int .i64 0, .int .i64 0, .int .i64 0, .int .i64 0, .int .i64 0, .int .i64 0, .int .i64 0, .bool false, .string ⟨#[]⟩, .string ⟨#[]⟩, .slice none 0 0]) ?hh rfl _ rfl Try.underlying26 rfl hi0) rfl ?zz
                case hh => exact Cel.row hR2.z _
                case zz => rw [n1, n2]; exact ⟨.slice none 0 0, by rw [zeros_eq]; rfl, IRow.none, below_setRow hR2.b (Nat.le_refl _) _⟩
            
      · rw [if_neg h8] at hCe
        rw [← hCe] at hCd hci
        have hR : Rdt w wr w.heap.size (w.heap.size + 1) C (.slice none 0 0) := ⟨hZ, hCd, by rw [hci]; exact IRow.none, hB⟩
        clear hZ hCd hB hCe
        go_loopw [14] (fun k wr => ∃ y : Int, k = .int .i64 y ∧ Rdt w wr w.heap.size (w.heap.size + 1) C (.slice none 0 0)) (fun _ _ => 0)
        case atStart => exact ⟨_, rfl, hR⟩
        case round =>
          clear hR
          obtain ⟨y, rfl, hR⟩ := hrel
          go_wp2_with (fail)
          have hlen : C.ids.length = 0 := by rw [hci]; rfl
          have hle : C.ids.length ≤ 1048576 := by omega
          have hva : ∃ va vc, (Value.slice none 0 0) = .slice va C.ids.length vc := ⟨none, 0, by rw [hlen]⟩
          obtain ⟨va, vc, hvv⟩ := hva
          rw [hvv] at hR
          clear hvv hlen hci
          obtain ⟨hyes, -, hno2, hno3, -, hyR⟩ := HS.out
          have co := fun W (h : Rdt w W w.heap.size (w.heap.size + 1) C (.slice va C.ids.length vc)) => spec_optText C (.slice va C.ids.length vc) W h.r.rd hle
          have S0 := rdt_drew hR
          have x2 : IntKind.i64.wrap (a + 2) = a + 2 := IntWalk.i64_in _ (by omega)
          have x3 : IntKind.i64.wrap (a + 2 + m) = a + 2 + m := IntWalk.i64_in _ (by omega)
          have e1 := empty_b1 (optTx C)
          by_cases ht : optTx C = ⟨#[]⟩
          · have hn := hno2 ht
            rw [decide_eq_true ht] at e1
            have e3 : (optTx C).toList = [] := by simpa using e1
            clear hyes hno2 hno3 hyR ht hR HS
            generalize optTx C = tx at *
            refine wp_region_held_drew (S := fun W => Rdt w W w.heap.size (w.heap.size + 1) C (.slice va C.ids.length vc) ∧ (loadCells ⟨w.heap.size + 1, 0, none⟩ 14).run Try.prog W = .ok (C.cells (.slice va C.ids.length vc)) W) (by kernel_rfl) S0 (fun hHeld => ?_)
            refine take_yes (i := 0) (oi := { dst := some 117, op := Op.load 26 (Operand.tmp 12), type := 26, pos := "l06_options.go:193", after := #[], guard := none }) (v := .agg (C.cells (.slice va C.ids.length vc))) rfl (by kernel_rfl) (by kernel_rfl) (by kernel_rfl) (fun _ _ _ h => h) (by rfl) (fun w hSw => by (try dsimp only at hSw); go_simp) (by assumption) ?_
            try simp only [Act.put, List.setIfInBounds_toArray, List.set_cons_zero, List.set_cons_succ]
            refine wpAnyH_ready (rs := [1]) (by kernel_rfl) (by simp) ?_
            refine AllReadyH.cons (o := { dst := some 118, op := Op.call { callee := Callee.value (Operand.func 48), args := #[Operand.tmp 117], argTypes := #[26] }, type := 9, pos := "l06_options.go:193", after := #[{ on := 0, ground := Ground.data }], guard := none }) rfl (fun K hK => ?_) AllReadyH.nil
            go_simp
            with_reducible refine (co _ (by assumption : _ ∧ _).1).mono ?_
            rintro e w21 ⟨rfl, hb1⟩
            refine hK.out _ _ (rdt_keep (by assumption) hb1) (fun hHeld => ?_)
            clear hK K
            try simp only [Act.put, List.setIfInBounds_toArray, List.set_cons_zero, List.set_cons_succ]
            refine take_yes (i := 2) (oi := { dst := some 119, op := Op.binOp BinOp.eql 9 (Operand.tmp 118) (Operand.const (Value.string { data := #[] })) 9, type := 4, pos := "l06_options.go:193", after := #[{ on := 1, ground := Ground.data }], guard := none }) (v := .bool true) rfl (by kernel_rfl) (by kernel_rfl) (by kernel_rfl) (fun _ _ _ h => h) (by rfl) (fun w hSw => by (try dsimp only at hSw); go_simp) (by assumption) ?_
            try simp only [Act.put, List.setIfInBounds_toArray, List.set_cons_zero, List.set_cons_succ]
            refine take_yes (i := 3) (oi := { dst := some 120, op := Op.move (Operand.tmp 119), type := 4, pos := "l06_options.go:193", after := #[{ on := 2, ground := Ground.data }, { on := 1, ground := Ground.chain }], guard := none }) (v := .bool true) rfl (by kernel_rfl) (by kernel_rfl) (by kernel_rfl) (fun _ _ _ h => h) (by rfl) (fun w hSw => by (try dsimp only at hSw); go_simp) (by assumption) ?_
            try simp only [Act.put, List.setIfInBounds_toArray, List.set_cons_zero, List.set_cons_succ]
            refine take_no (i := 4) (oi := { dst := some 121, op := Op.load 26 (Operand.tmp 12), type := 26, pos := "l06_options.go:193", after := #[{ on := 3, ground := Ground.guard }], guard := some (3, false) }) rfl (by kernel_rfl) (by kernel_rfl) (by kernel_rfl) (fun _ _ _ h => h) (by rfl) (by assumption) ?_
            try simp only [Act.put, List.setIfInBounds_toArray, List.set_cons_zero, List.set_cons_succ]
            refine take_no (i := 5) (oi := { dst := some 122, op := Op.call { callee := Callee.value (Operand.func 48), args := #[Operand.tmp 121], argTypes := #[26] }, type := 9, pos := "l06_options.go:193", after := #[{ on := 4, ground := Ground.data }, { on := 3, ground := Ground.chain }, { on := 3, ground := Ground.guard }], guard := some (3, false) }) rfl (by kernel_rfl) (by kernel_rfl) (by kernel_rfl) (fun _ _ _ h => h) (by rfl) (by assumption) ?_
            try simp only [Act.put, List.setIfInBounds_toArray, List.set_cons_zero, List.set_cons_succ]
            refine take_no (i := 6) (oi := { dst := some 123, op := Op.move (Operand.tmp 0), type := 9, pos := "l06_options.go:193", after := #[{ on := 3, ground := Ground.guard }], guard := some (3, false) }) rfl (by kernel_rfl) (by kernel_rfl) (by kernel_rfl) (fun _ _ _ h => h) (by rfl) (by assumption) ?_
            try simp only [Act.put, List.setIfInBounds_toArray, List.set_cons_zero, List.set_cons_succ]
            refine take_no (i := 7) (oi := { dst := some 124, op := Op.move (Operand.tmp 1), type := 3, pos := "l06_options.go:193", after := #[{ on := 3, ground := Ground.guard }], guard := some (3, false) }) rfl (by kernel_rfl) (by kernel_rfl) (by kernel_rfl) (fun _ _ _ h => h) (by rfl) (by assumption) ?_
            try simp only [Act.put, List.setIfInBounds_toArray, List.set_cons_zero, List.set_cons_succ]
            refine take_no (i := 8) (oi := { dst := some 125, op := Op.move (Operand.tmp 1), type := 3, pos := "l06_options.go:193", after := #[{ on := 3, ground := Ground.guard }], guard := some (3, false) }) rfl (by kernel_rfl) (by kernel_rfl) (by kernel_rfl) (fun _ _ _ h => h) (by rfl) (by assumption) ?_
            try simp only [Act.put, List.setIfInBounds_toArray, List.set_cons_zero, List.set_cons_succ]
            refine take_no (i := 9) (oi := { dst := some 126, op := Op.binOp BinOp.add 3 (Operand.tmp 125) (Operand.const (Value.int IntKind.i64 2)) 3, type := 3, pos := "l06_options.go:193", after := #[{ on := 8, ground := Ground.data }, { on := 3, ground := Ground.guard }], guard := some (3, false) }) rfl (by kernel_rfl) (by kernel_rfl) (by kernel_rfl) (fun _ _ _ h => h) (by rfl) (by assumption) ?_
            try simp only [Act.put, List.setIfInBounds_toArray, List.set_cons_zero, List.set_cons_succ]
            refine take_no (i := 10) (oi := { dst := some 127, op := Op.move (Operand.tmp 8), type := 3, pos := "l06_options.go:193", after := #[{ on := 3, ground := Ground.guard }], guard := some (3, false) }) rfl (by kernel_rfl) (by kernel_rfl) (by kernel_rfl) (fun _ _ _ h => h) (by rfl) (by assumption) ?_
            try simp only [Act.put, List.setIfInBounds_toArray, List.set_cons_zero, List.set_cons_succ]
            refine take_no (i := 11) (oi := { dst := some 128, op := Op.binOp BinOp.add 3 (Operand.tmp 126) (Operand.tmp 127) 3, type := 3, pos := "l06_options.go:193", after := #[{ on := 9, ground := Ground.data }, { on := 10, ground := Ground.data }, { on := 3, ground := Ground.guard }], guard := some (3, false) }) rfl (by kernel_rfl) (by kernel_rfl) (by kernel_rfl) (fun _ _ _ h => h) (by rfl) (by assumption) ?_
            try simp only [Act.put, List.setIfInBounds_toArray, List.set_cons_zero, List.set_cons_succ]
            refine take_no (i := 12) (oi := { dst := some 129, op := Op.slice 9 (Operand.tmp 123) (some (Operand.tmp 124)) (some (Operand.tmp 128)) none, type := 9, pos := "l06_options.go:193", after := #[{ on := 6, ground := Ground.data }, { on := 7, ground := Ground.data }, { on := 11, ground := Ground.data }, { on := 3, ground := Ground.guard }], guard := some (3, false) }) rfl (by kernel_rfl) (by kernel_rfl) (by kernel_rfl) (fun _ _ _ h => h) (by rfl) (by assumption) ?_
            try simp only [Act.put, List.setIfInBounds_toArray, List.set_cons_zero, List.set_cons_succ]
            refine take_no (i := 13) (oi := { dst := some 130, op := Op.binOp BinOp.neq 9 (Operand.tmp 122) (Operand.tmp 129) 9, type := 4, pos := "l06_options.go:193", after := #[{ on := 5, ground := Ground.data }, { on := 12, ground := Ground.data }, { on := 3, ground := Ground.guard }], guard := some (3, false) }) rfl (by kernel_rfl) (by kernel_rfl) (by kernel_rfl) (fun _ _ _ h => h) (by rfl) (by assumption) ?_
            try simp only [Act.put, List.setIfInBounds_toArray, List.set_cons_zero, List.set_cons_succ]
            refine take_yes (i := 14) (oi := { dst := some 131, op := Op.pick (Operand.tmp 120) (Operand.const (Value.bool true)) (Operand.tmp 130), type := 4, pos := "l06_options.go:193", after := #[{ on := 3, ground := Ground.data }, { on := 13, ground := Ground.data }], guard := none }) (v := .bool true) rfl (by kernel_rfl) (by kernel_rfl) (by kernel_rfl) (fun _ _ _ h => h) (by rfl) (fun w hSw => by (try dsimp only at hSw); go_simp) (by assumption) ?_
            try simp only [Act.put, List.setIfInBounds_toArray, List.set_cons_zero, List.set_cons_succ]
            refine wpAnyH_done (by kernel_rfl) ?_ _
            have hR1 : Rdt w w21 w.heap.size (w.heap.size + 1) C (.slice va C.ids.length vc) := (by assumption : Rdt w w21 w.heap.size (w.heap.size + 1) C (.slice va C.ids.length vc) ∧ _).1
            have hz : w21.heap[w.heap.size]? = some (.cells #[.int .i64 0, .int .i64 0, .int .i64 0, .int .i64 0, .int .i64 0, .int .i64 0, .int .i64 0, .int .i64 0, .int .i64 0, .int .i64 0, .bool false, .string ⟨#[]⟩, .string ⟨#[]⟩, .slice none 0 0] 26 (0, 0)) := hR1.z
            clear S0 hb1
            obtain ⟨n1, n2⟩ := read_no s a hn
            have hi0 : (Try.prog.info? 26).map (·.size) = some (#[.int .i64 0, .int .i64 0, .int .i64 0, .int .i64 0, .int .i64 0, .int .i64 0, .int .i64 0, .int .i64 0, .int .i64 0, .int .i64 0, .bool false, .string ⟨#[]⟩, .string ⟨#[]⟩, .slice none 0 0] : Array Value).size := by kernel_rfl
            have one0 : (#[.int .i64 0, .int .i64 0, .int .i64 0, .int .i64 0, .int .i64 0, .int .i64 0, .int .i64 0, .int .i64 0, .int .i64 0, .int .i64 0, .bool false, .string ⟨#[]⟩, .string ⟨#[]⟩, .slice none 0 0] : Array Value).all (·.oneCell') = true := by kernel_rfl
            go_upto_region 90 with (with_reducible refine wpList_store_row rfl 26 _ _ rfl w.heap.size rfl _ rfl 26 _ hz hi0 rfl one0 ?_)
            skip
            refine bodyPost_ret (Cel.result_tmp (g := w.heap.size) (t := 26) (cs := #[.int .i64 0, .int .i64 0, .int .i64 0, .int .i64 0, .int .i64 0, .int .i64 0, .int .i64 0, .int .i64 0, .int .i64 0, .int .i64 0, .bool false, .string ⟨#[]⟩, .string ⟨#[]⟩, .slice none 0 0]) ?hh rfl _ rfl Try.underlying26 rfl hi0) rfl ?zz
            case hh => exact Cel.row hR1.z _
            case zz => rw [n1, n2]; exact ⟨.slice none 0 0, by rw [zeros_eq]; rfl, IRow.none, below_setRow hR1.b (Nat.le_refl _) _⟩
          
          · by_cases hE : optTx C = E
            · have hn := hyes hof ht hE
              obtain ⟨r1, r2⟩ := hyR hn
              rw [decide_eq_false ht] at e1
              have e3 : ¬ (optTx C).toList = [] := fun h => by rw [h] at e1; cases e1
              have e2 := extract_bytes (optTx C) E
              rw [decide_eq_true hE] at e2
              have e4 : (optTx C).toList = E.toList := by rw [hE]
              have e5 : ¬ E.toList = [] := by rw [← e4]; exact e3
              clear hyes hno2 hno3 hyR ht hR HS hE
              generalize optTx C = tx at *
              refine wp_region_held_drew (S := fun W => Rdt w W w.heap.size (w.heap.size + 1) C (.slice va C.ids.length vc) ∧ (loadCells ⟨w.heap.size + 1, 0, none⟩ 14).run Try.prog W = .ok (C.cells (.slice va C.ids.length vc)) W) (by kernel_rfl) S0 (fun hHeld => ?_)
              refine take_yes (i := 0) (oi := { dst := some 117, op := Op.load 26 (Operand.tmp 12), type := 26, pos := "l06_options.go:193", after := #[], guard := none }) (v := .agg (C.cells (.slice va C.ids.length vc))) rfl (by kernel_rfl) (by kernel_rfl) (by kernel_rfl) (fun _ _ _ h => h) (by rfl) (fun w hSw => by (try dsimp only at hSw); go_simp) (by assumption) ?_
              try simp only [Act.put, List.setIfInBounds_toArray, List.set_cons_zero, List.set_cons_succ]
              refine wpAnyH_ready (rs := [1]) (by kernel_rfl) (by simp) ?_
              refine AllReadyH.cons (o := { dst := some 118, op := Op.call { callee := Callee.value (Operand.func 48), args := #[Operand.tmp 117], argTypes := #[26] }, type := 9, pos := "l06_options.go:193", after := #[{ on := 0, ground := Ground.data }], guard := none }) rfl (fun K hK => ?_) AllReadyH.nil
              go_simp
              with_reducible refine (co _ (by assumption : _ ∧ _).1).mono ?_
              rintro e w21 ⟨rfl, hb1⟩
              refine hK.out _ _ (rdt_keep (by assumption) hb1) (fun hHeld => ?_)
              clear hK K
              try simp only [Act.put, List.setIfInBounds_toArray, List.set_cons_zero, List.set_cons_succ]
              refine take_yes (i := 2) (oi := { dst := some 119, op := Op.binOp BinOp.eql 9 (Operand.tmp 118) (Operand.const (Value.string { data := #[] })) 9, type := 4, pos := "l06_options.go:193", after := #[{ on := 1, ground := Ground.data }], guard := none }) (v := .bool false) rfl (by kernel_rfl) (by kernel_rfl) (by kernel_rfl) (fun _ _ _ h => h) (by rfl) (fun w hSw => by (try dsimp only at hSw); go_simp) (by assumption) ?_
              try simp only [Act.put, List.setIfInBounds_toArray, List.set_cons_zero, List.set_cons_succ]
              refine take_yes (i := 3) (oi := { dst := some 120, op := Op.move (Operand.tmp 119), type := 4, pos := "l06_options.go:193", after := #[{ on := 2, ground := Ground.data }, { on := 1, ground := Ground.chain }], guard := none }) (v := .bool false) rfl (by kernel_rfl) (by kernel_rfl) (by kernel_rfl) (fun _ _ _ h => h) (by rfl) (fun w hSw => by (try dsimp only at hSw); go_simp) (by assumption) ?_
              try simp only [Act.put, List.setIfInBounds_toArray, List.set_cons_zero, List.set_cons_succ]
              refine take_yes (i := 4) (oi := { dst := some 121, op := Op.load 26 (Operand.tmp 12), type := 26, pos := "l06_options.go:193", after := #[{ on := 3, ground := Ground.guard }], guard := some (3, false) }) (v := .agg (C.cells (.slice va C.ids.length vc))) rfl (by kernel_rfl) (by kernel_rfl) (by kernel_rfl) (fun _ _ _ h => h) (by rfl) (fun w hSw => by (try dsimp only at hSw); go_simp) (by assumption) ?_
              try simp only [Act.put, List.setIfInBounds_toArray, List.set_cons_zero, List.set_cons_succ]
              refine take_yes (i := 6) (oi := { dst := some 123, op := Op.move (Operand.tmp 0), type := 9, pos := "l06_options.go:193", after := #[{ on := 3, ground := Ground.guard }], guard := some (3, false) }) (v := .string s) rfl (by kernel_rfl) (by kernel_rfl) (by kernel_rfl) (fun _ _ _ h => h) (by rfl) (fun w hSw => by (try dsimp only at hSw); go_simp) (by assumption) ?_
              try simp only [Act.put, List.setIfInBounds_toArray, List.set_cons_zero, List.set_cons_succ]
              refine take_yes (i := 7) (oi := { dst := some 124, op := Op.move (Operand.tmp 1), type := 3, pos := "l06_options.go:193", after := #[{ on := 3, ground := Ground.guard }], guard := some (3, false) }) (v := .int .i64 a) rfl (by kernel_rfl) (by kernel_rfl) (by kernel_rfl) (fun _ _ _ h => h) (by rfl) (fun w hSw => by (try dsimp only at hSw); go_simp) (by assumption) ?_
              try simp only [Act.put, List.setIfInBounds_toArray, List.set_cons_zero, List.set_cons_succ]
              refine take_yes (i := 8) (oi := { dst := some 125, op := Op.move (Operand.tmp 1), type := 3, pos := "l06_options.go:193", after := #[{ on := 3, ground := Ground.guard }], guard := some (3, false) }) (v := .int .i64 a) rfl (by kernel_rfl) (by kernel_rfl) (by kernel_rfl) (fun _ _ _ h => h) (by rfl) (fun w hSw => by (try dsimp only at hSw); go_simp) (by assumption) ?_
              try simp only [Act.put, List.setIfInBounds_toArray, List.set_cons_zero, List.set_cons_succ]
              refine take_yes (i := 9) (oi := { dst := some 126, op := Op.binOp BinOp.add 3 (Operand.tmp 125) (Operand.const (Value.int IntKind.i64 2)) 3, type := 3, pos := "l06_options.go:193", after := #[{ on := 8, ground := Ground.data }, { on := 3, ground := Ground.guard }], guard := some (3, false) }) (v := .int .i64 (a + 2)) rfl (by kernel_rfl) (by kernel_rfl) (by kernel_rfl) (fun _ _ _ h => h) (by rfl) (fun w hSw => by (try dsimp only at hSw); go_simp) (by assumption) ?_
              try simp only [Act.put, List.setIfInBounds_toArray, List.set_cons_zero, List.set_cons_succ]
              refine take_yes (i := 10) (oi := { dst := some 127, op := Op.move (Operand.tmp 8), type := 3, pos := "l06_options.go:193", after := #[{ on := 3, ground := Ground.guard }], guard := some (3, false) }) (v := .int .i64 m) rfl (by kernel_rfl) (by kernel_rfl) (by kernel_rfl) (fun _ _ _ h => h) (by rfl) (fun w hSw => by (try dsimp only at hSw); go_simp) (by assumption) ?_
              try simp only [Act.put, List.setIfInBounds_toArray, List.set_cons_zero, List.set_cons_succ]
              refine take_yes (i := 11) (oi := { dst := some 128, op := Op.binOp BinOp.add 3 (Operand.tmp 126) (Operand.tmp 127) 3, type := 3, pos := "l06_options.go:193", after := #[{ on := 9, ground := Ground.data }, { on := 10, ground := Ground.data }, { on := 3, ground := Ground.guard }], guard := some (3, false) }) (v := .int .i64 (a + 2 + m)) rfl (by kernel_rfl) (by kernel_rfl) (by kernel_rfl) (fun _ _ _ h => h) (by rfl) (fun w hSw => by (try dsimp only at hSw); go_simp) (by assumption) ?_
              try simp only [Act.put, List.setIfInBounds_toArray, List.set_cons_zero, List.set_cons_succ]
              refine take_yes (i := 12) (oi := { dst := some 129, op := Op.slice 9 (Operand.tmp 123) (some (Operand.tmp 124)) (some (Operand.tmp 128)) none, type := 9, pos := "l06_options.go:193", after := #[{ on := 6, ground := Ground.data }, { on := 7, ground := Ground.data }, { on := 11, ground := Ground.data }, { on := 3, ground := Ground.guard }], guard := some (3, false) }) (v := .string E) rfl (by kernel_rfl) (by kernel_rfl) (by kernel_rfl) (fun _ _ _ h => h) (by rfl) (fun w hSw => by (try dsimp only at hSw); go_simp) (by assumption) ?_
              try simp only [Act.put, List.setIfInBounds_toArray, List.set_cons_zero, List.set_cons_succ]
              refine wpAnyH_ready (rs := [5]) (by kernel_rfl) (by simp) ?_
              refine AllReadyH.cons (o := { dst := some 122, op := Op.call { callee := Callee.value (Operand.func 48), args := #[Operand.tmp 121], argTypes := #[26] }, type := 9, pos := "l06_options.go:193", after := #[{ on := 4, ground := Ground.data }, { on := 3, ground := Ground.chain }, { on := 3, ground := Ground.guard }], guard := some (3, false) }) rfl (fun K hK => ?_) AllReadyH.nil
              go_simp
              with_reducible refine (co _ (by assumption : _ ∧ _).1).mono ?_
              rintro e w25 ⟨rfl, hb2⟩
              refine hK.out _ _ (rdt_keep (by assumption) hb2) (fun hHeld => ?_)
              clear hK K
              try simp only [Act.put, List.setIfInBounds_toArray, List.set_cons_zero, List.set_cons_succ]
              refine take_yes (i := 13) (oi := { dst := some 130, op := Op.binOp BinOp.neq 9 (Operand.tmp 122) (Operand.tmp 129) 9, type := 4, pos := "l06_options.go:193", after := #[{ on := 5, ground := Ground.data }, { on := 12, ground := Ground.data }, { on := 3, ground := Ground.guard }], guard := some (3, false) }) (v := .bool false) rfl (by kernel_rfl) (by kernel_rfl) (by kernel_rfl) (fun _ _ _ h => h) (by rfl) (fun w hSw => by (try dsimp only at hSw); go_simp) (by assumption) ?_
              try simp only [Act.put, List.setIfInBounds_toArray, List.set_cons_zero, List.set_cons_succ]
              refine take_yes (i := 14) (oi := { dst := some 131, op := Op.pick (Operand.tmp 120) (Operand.const (Value.bool true)) (Operand.tmp 130), type := 4, pos := "l06_options.go:193", after := #[{ on := 3, ground := Ground.data }, { on := 13, ground := Ground.data }], guard := none }) (v := .bool false) rfl (by kernel_rfl) (by kernel_rfl) (by kernel_rfl) (fun _ _ _ h => h) (by rfl) (fun w hSw => by (try dsimp only at hSw); go_simp) (by assumption) ?_
              try simp only [Act.put, List.setIfInBounds_toArray, List.set_cons_zero, List.set_cons_succ]
              refine wpAnyH_done (by kernel_rfl) ?_ _
              have hR2 : Rdt w w25 w.heap.size (w.heap.size + 1) C (.slice va C.ids.length vc) := (by assumption : Rdt w w25 w.heap.size (w.heap.size + 1) C (.slice va C.ids.length vc) ∧ _).1
              have hz : w25.heap[w.heap.size]? = some (.cells #[.int .i64 0, .int .i64 0, .int .i64 0, .int .i64 0, .int .i64 0, .int .i64 0, .int .i64 0, .int .i64 0, .int .i64 0, .int .i64 0, .bool false, .string ⟨#[]⟩, .string ⟨#[]⟩, .slice none 0 0] 26 (0, 0)) := hR2.z
              have f7 := Cel.loadRow hR2.c 14 (Ov.cells_size _ _) (P := Try.prog)
              have one := C.cells_one va C.ids.length vc
              have hss : (#[.int .i64 0, .int .i64 0, .int .i64 0, .int .i64 0, .int .i64 0, .int .i64 0, .int .i64 0, .int .i64 0, .int .i64 0, .int .i64 0, .bool false, .string ⟨#[]⟩, .string ⟨#[]⟩, .slice none 0 0] : Array Value).size = (C.cells (.slice va C.ids.length vc)).size := by rw [Ov.cells_size]; rfl
              clear S0 hb1 hb2
              go_upto_region 91 with (with_reducible refine wpList_store_row rfl 26 _ _ rfl w.heap.size rfl _ rfl 26 _ hz (sizeOpt' _ _) hss one ?_)
              skip
              refine bodyPost_ret (Cel.result_tmp (g := w.heap.size) (t := 26) (cs := C.cells (.slice va C.ids.length vc)) ?hh rfl _ rfl Try.underlying26 rfl (sizeOpt' _ _)) rfl ?zz
              case hh => exact Cel.row hR2.z _
              case zz =>
                rw [r1, r2]
                refine ⟨(.slice va C.ids.length vc), by go_num, ?_, below_setRow hR2.b (Nat.le_refl _) _⟩
                refine (hR2.r.keepAt (fun g hg => ?_)).wider (by omega) (by simp [World.setRow])
                have := hR2.r.block g hg
                show (w25.heap.modify _ _)[g]? = _
                rw [Array.getElem?_modify, if_neg (by omega)]
            · have hn := hno3 hE
              rw [decide_eq_false ht] at e1
              have e3 : ¬ (optTx C).toList = [] := fun h => by rw [h] at e1; cases e1
              have e2 := extract_bytes (optTx C) E
              rw [decide_eq_false hE] at e2
              have e4 : ¬ (optTx C).toList = E.toList := fun h => by rw [h] at e2; simp at e2
              clear hyes hno2 hno3 hyR ht hR HS hE
              generalize optTx C = tx at *
              refine wp_region_held_drew (S := fun W => Rdt w W w.heap.size (w.heap.size + 1) C (.slice va C.ids.length vc) ∧ (loadCells ⟨w.heap.size + 1, 0, none⟩ 14).run Try.prog W = .ok (C.cells (.slice va C.ids.length vc)) W) (by kernel_rfl) S0 (fun hHeld => ?_)
              refine take_yes (i := 0) (oi := { dst := some 117, op := Op.load 26 (Operand.tmp 12), type := 26, pos := "l06_options.go:193", after := #[], guard := none }) (v := .agg (C.cells (.slice va C.ids.length vc))) rfl (by kernel_rfl) (by kernel_rfl) (by kernel_rfl) (fun _ _ _ h => h) (by rfl) (fun w hSw => by (try dsimp only at hSw); go_simp) (by assumption) ?_
              try simp only [Act.put, List.setIfInBounds_toArray, List.set_cons_zero, List.set_cons_succ]
              refine wpAnyH_ready (rs := [1]) (by kernel_rfl) (by simp) ?_
              refine AllReadyH.cons (o := { dst := some 118, op := Op.call { callee := Callee.value (Operand.func 48), args := #[Operand.tmp 117], argTypes := #[26] }, type := 9, pos := "l06_options.go:193", after := #[{ on := 0, ground := Ground.data }], guard := none }) rfl (fun K hK => ?_) AllReadyH.nil
              go_simp
              with_reducible refine (co _ (by assumption : _ ∧ _).1).mono ?_
              rintro e w21 ⟨rfl, hb1⟩
              refine hK.out _ _ (rdt_keep (by assumption) hb1) (fun hHeld => ?_)
              clear hK K
              try simp only [Act.put, List.setIfInBounds_toArray, List.set_cons_zero, List.set_cons_succ]
              refine take_yes (i := 2) (oi := { dst := some 119, op := Op.binOp BinOp.eql 9 (Operand.tmp 118) (Operand.const (Value.string { data := #[] })) 9, type := 4, pos := "l06_options.go:193", after := #[{ on := 1, ground := Ground.data }], guard := none }) (v := .bool false) rfl (by kernel_rfl) (by kernel_rfl) (by kernel_rfl) (fun _ _ _ h => h) (by rfl) (fun w hSw => by (try dsimp only at hSw); go_simp) (by assumption) ?_
              try simp only [Act.put, List.setIfInBounds_toArray, List.set_cons_zero, List.set_cons_succ]
              refine take_yes (i := 3) (oi := { dst := some 120, op := Op.move (Operand.tmp 119), type := 4, pos := "l06_options.go:193", after := #[{ on := 2, ground := Ground.data }, { on := 1, ground := Ground.chain }], guard := none }) (v := .bool false) rfl (by kernel_rfl) (by kernel_rfl) (by kernel_rfl) (fun _ _ _ h => h) (by rfl) (fun w hSw => by (try dsimp only at hSw); go_simp) (by assumption) ?_
              try simp only [Act.put, List.setIfInBounds_toArray, List.set_cons_zero, List.set_cons_succ]
              refine take_yes (i := 4) (oi := { dst := some 121, op := Op.load 26 (Operand.tmp 12), type := 26, pos := "l06_options.go:193", after := #[{ on := 3, ground := Ground.guard }], guard := some (3, false) }) (v := .agg (C.cells (.slice va C.ids.length vc))) rfl (by kernel_rfl) (by kernel_rfl) (by kernel_rfl) (fun _ _ _ h => h) (by rfl) (fun w hSw => by (try dsimp only at hSw); go_simp) (by assumption) ?_
              try simp only [Act.put, List.setIfInBounds_toArray, List.set_cons_zero, List.set_cons_succ]
              refine take_yes (i := 6) (oi := { dst := some 123, op := Op.move (Operand.tmp 0), type := 9, pos := "l06_options.go:193", after := #[{ on := 3, ground := Ground.guard }], guard := some (3, false) }) (v := .string s) rfl (by kernel_rfl) (by kernel_rfl) (by kernel_rfl) (fun _ _ _ h => h) (by rfl) (fun w hSw => by (try dsimp only at hSw); go_simp) (by assumption) ?_
              try simp only [Act.put, List.setIfInBounds_toArray, List.set_cons_zero, List.set_cons_succ]
              refine take_yes (i := 7) (oi := { dst := some 124, op := Op.move (Operand.tmp 1), type := 3, pos := "l06_options.go:193", after := #[{ on := 3, ground := Ground.guard }], guard := some (3, false) }) (v := .int .i64 a) rfl (by kernel_rfl) (by kernel_rfl) (by kernel_rfl) (fun _ _ _ h => h) (by rfl) (fun w hSw => by (try dsimp only at hSw); go_simp) (by assumption) ?_
              try simp only [Act.put, List.setIfInBounds_toArray, List.set_cons_zero, List.set_cons_succ]
              refine take_yes (i := 8) (oi := { dst := some 125, op := Op.move (Operand.tmp 1), type := 3, pos := "l06_options.go:193", after := #[{ on := 3, ground := Ground.guard }], guard := some (3, false) }) (v := .int .i64 a) rfl (by kernel_rfl) (by kernel_rfl) (by kernel_rfl) (fun _ _ _ h => h) (by rfl) (fun w hSw => by (try dsimp only at hSw); go_simp) (by assumption) ?_
              try simp only [Act.put, List.setIfInBounds_toArray, List.set_cons_zero, List.set_cons_succ]
              refine take_yes (i := 9) (oi := { dst := some 126, op := Op.binOp BinOp.add 3 (Operand.tmp 125) (Operand.const (Value.int IntKind.i64 2)) 3, type := 3, pos := "l06_options.go:193", after := #[{ on := 8, ground := Ground.data }, { on := 3, ground := Ground.guard }], guard := some (3, false) }) (v := .int .i64 (a + 2)) rfl (by kernel_rfl) (by kernel_rfl) (by kernel_rfl) (fun _ _ _ h => h) (by rfl) (fun w hSw => by (try dsimp only at hSw); go_simp) (by assumption) ?_
              try simp only [Act.put, List.setIfInBounds_toArray, List.set_cons_zero, List.set_cons_succ]
              refine take_yes (i := 10) (oi := { dst := some 127, op := Op.move (Operand.tmp 8), type := 3, pos := "l06_options.go:193", after := #[{ on := 3, ground := Ground.guard }], guard := some (3, false) }) (v := .int .i64 m) rfl (by kernel_rfl) (by kernel_rfl) (by kernel_rfl) (fun _ _ _ h => h) (by rfl) (fun w hSw => by (try dsimp only at hSw); go_simp) (by assumption) ?_
              try simp only [Act.put, List.setIfInBounds_toArray, List.set_cons_zero, List.set_cons_succ]
              refine take_yes (i := 11) (oi := { dst := some 128, op := Op.binOp BinOp.add 3 (Operand.tmp 126) (Operand.tmp 127) 3, type := 3, pos := "l06_options.go:193", after := #[{ on := 9, ground := Ground.data }, { on := 10, ground := Ground.data }, { on := 3, ground := Ground.guard }], guard := some (3, false) }) (v := .int .i64 (a + 2 + m)) rfl (by kernel_rfl) (by kernel_rfl) (by kernel_rfl) (fun _ _ _ h => h) (by rfl) (fun w hSw => by (try dsimp only at hSw); go_simp) (by assumption) ?_
              try simp only [Act.put, List.setIfInBounds_toArray, List.set_cons_zero, List.set_cons_succ]
              refine take_yes (i := 12) (oi := { dst := some 129, op := Op.slice 9 (Operand.tmp 123) (some (Operand.tmp 124)) (some (Operand.tmp 128)) none, type := 9, pos := "l06_options.go:193", after := #[{ on := 6, ground := Ground.data }, { on := 7, ground := Ground.data }, { on := 11, ground := Ground.data }, { on := 3, ground := Ground.guard }], guard := some (3, false) }) (v := .string E) rfl (by kernel_rfl) (by kernel_rfl) (by kernel_rfl) (fun _ _ _ h => h) (by rfl) (fun w hSw => by (try dsimp only at hSw); go_simp) (by assumption) ?_
              try simp only [Act.put, List.setIfInBounds_toArray, List.set_cons_zero, List.set_cons_succ]
              refine wpAnyH_ready (rs := [5]) (by kernel_rfl) (by simp) ?_
              refine AllReadyH.cons (o := { dst := some 122, op := Op.call { callee := Callee.value (Operand.func 48), args := #[Operand.tmp 121], argTypes := #[26] }, type := 9, pos := "l06_options.go:193", after := #[{ on := 4, ground := Ground.data }, { on := 3, ground := Ground.chain }, { on := 3, ground := Ground.guard }], guard := some (3, false) }) rfl (fun K hK => ?_) AllReadyH.nil
              go_simp
              with_reducible refine (co _ (by assumption : _ ∧ _).1).mono ?_
              rintro e w25 ⟨rfl, hb2⟩
              refine hK.out _ _ (rdt_keep (by assumption) hb2) (fun hHeld => ?_)
              clear hK K
              try simp only [Act.put, List.setIfInBounds_toArray, List.set_cons_zero, List.set_cons_succ]
              refine take_yes (i := 13) (oi := { dst := some 130, op := Op.binOp BinOp.neq 9 (Operand.tmp 122) (Operand.tmp 129) 9, type := 4, pos := "l06_options.go:193", after := #[{ on := 5, ground := Ground.data }, { on := 12, ground := Ground.data }, { on := 3, ground := Ground.guard }], guard := some (3, false) }) (v := .bool true) rfl (by kernel_rfl) (by kernel_rfl) (by kernel_rfl) (fun _ _ _ h => h) (by rfl) (fun w hSw => by (try dsimp only at hSw); go_simp) (by assumption) ?_
              try simp only [Act.put, List.setIfInBounds_toArray, List.set_cons_zero, List.set_cons_succ]
              refine take_yes (i := 14) (oi := { dst := some 131, op := Op.pick (Operand.tmp 120) (Operand.const (Value.bool true)) (Operand.tmp 130), type := 4, pos := "l06_options.go:193", after := #[{ on := 3, ground := Ground.data }, { on := 13, ground := Ground.data }], guard := none }) (v := .bool true) rfl (by kernel_rfl) (by kernel_rfl) (by kernel_rfl) (fun _ _ _ h => h) (by rfl) (fun w hSw => by (try dsimp only at hSw); go_simp) (by assumption) ?_
              try simp only [Act.put, List.setIfInBounds_toArray, List.set_cons_zero, List.set_cons_succ]
              refine wpAnyH_done (by kernel_rfl) ?_ _
              have hR2 : Rdt w w25 w.heap.size (w.heap.size + 1) C (.slice va C.ids.length vc) := (by assumption : Rdt w w25 w.heap.size (w.heap.size + 1) C (.slice va C.ids.length vc) ∧ _).1
              have hz : w25.heap[w.heap.size]? = some (.cells #[.int .i64 0, .int .i64 0, .int .i64 0, .int .i64 0, .int .i64 0, .int .i64 0, .int .i64 0, .int .i64 0, .int .i64 0, .int .i64 0, .bool false, .string ⟨#[]⟩, .string ⟨#[]⟩, .slice none 0 0] 26 (0, 0)) := hR2.z
              clear S0 hb1 hb2
              obtain ⟨n1, n2⟩ := read_no s a hn
              have hi0 : (Try.prog.info? 26).map (·.size) = some (#[.int .i64 0, .int .i64 0, .int .i64 0, .int .i64 0, .int .i64 0, .int .i64 0, .int .i64 0, .int .i64 0, .int .i64 0, .int .i64 0, .bool false, .string ⟨#[]⟩, .string ⟨#[]⟩, .slice none 0 0] : Array Value).size := by kernel_rfl
              have one0 : (#[.int .i64 0, .int .i64 0, .int .i64 0, .int .i64 0, .int .i64 0, .int .i64 0, .int .i64 0, .int .i64 0, .int .i64 0, .int .i64 0, .bool false, .string ⟨#[]⟩, .string ⟨#[]⟩, .slice none 0 0] : Array Value).all (·.oneCell') = true := by kernel_rfl
              go_upto_region 90 with (with_reducible refine wpList_store_row rfl 26 _ _ rfl w.heap.size rfl _ rfl 26 _ hz hi0 rfl one0 ?_)
              skip
              refine bodyPost_ret (Cel.result_tmp (g := w.heap.size) (t := 26) (cs := #[.int .i64 0, .int .i64 0, .int .i64 0, .int .i64 0, .int .i64 0, .int .i64 0, .int .i64 0, .int .i64 0, .int .i64 0, .int .i64 0, .bool false, .string ⟨#[]⟩, .string ⟨#[]⟩, .slice none 0 0]) ?hh rfl _ rfl Try.underlying26 rfl hi0) rfl ?zz
              case hh => exact Cel.row hR2.z _
              case zz => rw [n1, n2]; exact ⟨.slice none 0 0, by rw [zeros_eq]; rfl, IRow.none, below_setRow hR2.b (Nat.le_refl _) _⟩
          

set_option maxRecDepth 100000 in
set_option maxHeartbeats 8000000 in
theorem spec_readOpt (s : ByteArray) (a : Int) (w : World) (hs : s.size ≤ 1048576) (ha0 : -9223372036854775808 ≤ a) (ha : a ≤ 9223372036854775807) :
    Calls Try.prog 24 #[.string s, .int .i64 a] w fun e w' => ∃ v, e = .returned (.tuple #[.agg ((readO s a).cells v), .int .i64 (readP s a)]) ∧ IRow w' w.heap.size w'.heap.size v (readO s a).ids ∧ Below w.heap.size w w' := by
  have hB := below_new w (.cells #[.int .i64 0, .int .i64 0, .int .i64 0, .int .i64 0, .int .i64 0, .int .i64 0, .int .i64 0, .int .i64 0, .int .i64 0, .int .i64 0, .bool false, .string ⟨#[]⟩, .string ⟨#[]⟩, .slice none 0 0] 26)
  have hZ : Cel (w.alloc (.cells #[.int .i64 0, .int .i64 0, .int .i64 0, .int .i64 0, .int .i64 0, .int .i64 0, .int .i64 0, .int .i64 0, .int .i64 0, .int .i64 0, .bool false, .string ⟨#[]⟩, .string ⟨#[]⟩, .slice none 0 0] 26)) w.heap.size 26 #[.int .i64 0, .int .i64 0, .int .i64 0, .int .i64 0, .int .i64 0, .int .i64 0, .int .i64 0, .int .i64 0, .int .i64 0, .int .i64 0, .bool false, .string ⟨#[]⟩, .string ⟨#[]⟩, .slice none 0 0] := Cel.new _ _ _
  have hsz : (w.alloc (.cells #[.int .i64 0, .int .i64 0, .int .i64 0, .int .i64 0, .int .i64 0, .int .i64 0, .int .i64 0, .int .i64 0, .int .i64 0, .int .i64 0, .bool false, .string ⟨#[]⟩, .string ⟨#[]⟩, .slice none 0 0] 26)).heap.size = w.heap.size + 1 := by simp
  by_cases p1 : Part s a 1
  · obtain ⟨p10, -, p11⟩ := p1
    have p1 : Part s a 1 := ⟨p10, by omega, p11⟩
    have c1 := fun W => spec_num_yes s a 1 W (by omega) (by decide) (by decide) p1
    rw [← nAt_yes s a 1 p1] at c1
    by_cases p2 : Part s (a + 1) 1
    · have c2 := fun W => spec_num_yes s (a + 1) 1 W (by omega) (by decide) (by decide) p2
      rw [← nAt_yes s (a + 1) 1 p2] at c2
      have ci := fun W => spec_in (nAt s a 1) 1 10 W
      obtain ⟨M, hM, eM⟩ := nAt_byte s (a + 1)
      by_cases hk : 1 ≤ nAt s a 1 ∧ nAt s a 1 ≤ 10
      · rw [decide_eq_true hk] at ci
        by_cases p3 : Part s (a + 2) (nAt s (a + 1) 1)
        · exact spec_read_on s a w hs p1 p2 hk p3
        · have hn : ¬ Sro s a := fun h => p3 h.pt
          have c3 := fun W => spec_text_no s (a + 2) (nAt s (a + 1) 1) W (by omega) (by omega) (by omega) p3
          clear p3 hk eM hM
          generalize nAt s (a + 1) 1 = m at *
          generalize nAt s a 1 = K at *
          go_enter Try.func24, Try.ntmps24
          go_wp2_with (fail)
          generalize (w.alloc (.cells #[.int .i64 0, .int .i64 0, .int .i64 0, .int .i64 0, .int .i64 0, .int .i64 0, .int .i64 0, .int .i64 0, .int .i64 0, .int .i64 0, .bool false, .string ⟨#[]⟩, .string ⟨#[]⟩, .slice none 0 0] 26)) = W at *
          with_reducible refine (c1 _).mono ?_
          rintro e w1 ⟨rfl, rfl⟩
          go_wp2_with (fail)
          with_reducible refine (c2 _).mono ?_
          rintro e w1 ⟨rfl, rfl⟩
          go_wp2_with (fail)
          with_reducible refine (ci _).mono ?_
          rintro e w1 ⟨rfl, rfl⟩
          go_wp2_with (fail)
          with_reducible refine (c3 _).mono ?_
          rintro e w1 ⟨rfl, rfl⟩
          have hz : W.heap[w.heap.size]? = some (.cells #[.int .i64 0, .int .i64 0, .int .i64 0, .int .i64 0, .int .i64 0, .int .i64 0, .int .i64 0, .int .i64 0, .int .i64 0, .int .i64 0, .bool false, .string ⟨#[]⟩, .string ⟨#[]⟩, .slice none 0 0] 26 (0, 0)) := hZ
          obtain ⟨n1, n2⟩ := read_no s a hn
          have hi0 : (Try.prog.info? 26).map (·.size) = some (#[.int .i64 0, .int .i64 0, .int .i64 0, .int .i64 0, .int .i64 0, .int .i64 0, .int .i64 0, .int .i64 0, .int .i64 0, .int .i64 0, .bool false, .string ⟨#[]⟩, .string ⟨#[]⟩, .slice none 0 0] : Array Value).size := by kernel_rfl
          have one0 : (#[.int .i64 0, .int .i64 0, .int .i64 0, .int .i64 0, .int .i64 0, .int .i64 0, .int .i64 0, .int .i64 0, .int .i64 0, .int .i64 0, .bool false, .string ⟨#[]⟩, .string ⟨#[]⟩, .slice none 0 0] : Array Value).all (·.oneCell') = true := by kernel_rfl
          go_upto_region 90 with (with_reducible refine wpList_store_row rfl 26 _ _ rfl w.heap.size rfl _ rfl 26 _ hz hi0 rfl one0 ?_)
          skip
          refine bodyPost_ret (Cel.result_tmp (g := w.heap.size) (t := 26) (cs := #[.int .i64 0, .int .i64 0, .int .i64 0, .int .i64 0, .int .i64 0, .int .i64 0, .int .i64 0, .int .i64 0, .int .i64 0, .int .i64 0, .bool false, .string ⟨#[]⟩, .string ⟨#[]⟩, .slice none 0 0]) ?hh rfl _ rfl Try.underlying26 rfl hi0) rfl ?zz
          case hh => exact Cel.row hZ _
          case zz => rw [n1, n2]; exact ⟨.slice none 0 0, by rw [zeros_eq]; rfl, IRow.none, below_setRow hB (Nat.le_refl _) _⟩

      · rw [decide_eq_false hk] at ci
        have hn : ¬ Sro s a := fun h => hk h.k
        clear hk eM hM
        generalize nAt s (a + 1) 1 = m at *
        generalize nAt s a 1 = K at *
        go_enter Try.func24, Try.ntmps24
        go_wp2_with (fail)
        generalize (w.alloc (.cells #[.int .i64 0, .int .i64 0, .int .i64 0, .int .i64 0, .int .i64 0, .int .i64 0, .int .i64 0, .int .i64 0, .int .i64 0, .int .i64 0, .bool false, .string ⟨#[]⟩, .string ⟨#[]⟩, .slice none 0 0] 26)) = W at *
        with_reducible refine (c1 _).mono ?_
        rintro e w1 ⟨rfl, rfl⟩
        go_wp2_with (fail)
        with_reducible refine (c2 _).mono ?_
        rintro e w1 ⟨rfl, rfl⟩
        go_wp2_with (fail)
        with_reducible refine (ci _).mono ?_
        rintro e w1 ⟨rfl, rfl⟩
        have hz : W.heap[w.heap.size]? = some (.cells #[.int .i64 0, .int .i64 0, .int .i64 0, .int .i64 0, .int .i64 0, .int .i64 0, .int .i64 0, .int .i64 0, .int .i64 0, .int .i64 0, .bool false, .string ⟨#[]⟩, .string ⟨#[]⟩, .slice none 0 0] 26 (0, 0)) := hZ
        obtain ⟨n1, n2⟩ := read_no s a hn
        have hi0 : (Try.prog.info? 26).map (·.size) = some (#[.int .i64 0, .int .i64 0, .int .i64 0, .int .i64 0, .int .i64 0, .int .i64 0, .int .i64 0, .int .i64 0, .int .i64 0, .int .i64 0, .bool false, .string ⟨#[]⟩, .string ⟨#[]⟩, .slice none 0 0] : Array Value).size := by kernel_rfl
        have one0 : (#[.int .i64 0, .int .i64 0, .int .i64 0, .int .i64 0, .int .i64 0, .int .i64 0, .int .i64 0, .int .i64 0, .int .i64 0, .int .i64 0, .bool false, .string ⟨#[]⟩, .string ⟨#[]⟩, .slice none 0 0] : Array Value).all (·.oneCell') = true := by kernel_rfl
        go_upto_region 90 with (with_reducible refine wpList_store_row rfl 26 _ _ rfl w.heap.size rfl _ rfl 26 _ hz hi0 rfl one0 ?_)
        skip
        refine bodyPost_ret (Cel.result_tmp (g := w.heap.size) (t := 26) (cs := #[.int .i64 0, .int .i64 0, .int .i64 0, .int .i64 0, .int .i64 0, .int .i64 0, .int .i64 0, .int .i64 0, .int .i64 0, .int .i64 0, .bool false, .string ⟨#[]⟩, .string ⟨#[]⟩, .slice none 0 0]) ?hh rfl _ rfl Try.underlying26 rfl hi0) rfl ?zz
        case hh => exact Cel.row hZ _
        case zz => rw [n1, n2]; exact ⟨.slice none 0 0, by rw [zeros_eq]; rfl, IRow.none, below_setRow hB (Nat.le_refl _) _⟩

    · have hn : ¬ Sro s a := fun h => p2 h.pc
      have c2 := fun W => spec_num_no s (a + 1) 1 W (by omega) (by omega) (by omega) (by decide) (by decide) p2
      clear p2
      generalize nAt s a 1 = K at *
      go_enter Try.func24, Try.ntmps24
      go_wp2_with (fail)
      generalize (w.alloc (.cells #[.int .i64 0, .int .i64 0, .int .i64 0, .int .i64 0, .int .i64 0, .int .i64 0, .int .i64 0, .int .i64 0, .int .i64 0, .int .i64 0, .bool false, .string ⟨#[]⟩, .string ⟨#[]⟩, .slice none 0 0] 26)) = W at *
      with_reducible refine (c1 _).mono ?_
      rintro e w1 ⟨rfl, rfl⟩
      go_wp2_with (fail)
      with_reducible refine (c2 _).mono ?_
      rintro e w1 ⟨rfl, rfl⟩
      have hz : W.heap[w.heap.size]? = some (.cells #[.int .i64 0, .int .i64 0, .int .i64 0, .int .i64 0, .int .i64 0, .int .i64 0, .int .i64 0, .int .i64 0, .int .i64 0, .int .i64 0, .bool false, .string ⟨#[]⟩, .string ⟨#[]⟩, .slice none 0 0] 26 (0, 0)) := hZ
      obtain ⟨n1, n2⟩ := read_no s a hn
      have hi0 : (Try.prog.info? 26).map (·.size) = some (#[.int .i64 0, .int .i64 0, .int .i64 0, .int .i64 0, .int .i64 0, .int .i64 0, .int .i64 0, .int .i64 0, .int .i64 0, .int .i64 0, .bool false, .string ⟨#[]⟩, .string ⟨#[]⟩, .slice none 0 0] : Array Value).size := by kernel_rfl
      have one0 : (#[.int .i64 0, .int .i64 0, .int .i64 0, .int .i64 0, .int .i64 0, .int .i64 0, .int .i64 0, .int .i64 0, .int .i64 0, .int .i64 0, .bool false, .string ⟨#[]⟩, .string ⟨#[]⟩, .slice none 0 0] : Array Value).all (·.oneCell') = true := by kernel_rfl
      go_upto_region 90 with (with_reducible refine wpList_store_row rfl 26 _ _ rfl w.heap.size rfl _ rfl 26 _ hz hi0 rfl one0 ?_)
      skip
      refine bodyPost_ret (Cel.result_tmp (g := w.heap.size) (t := 26) (cs := #[.int .i64 0, .int .i64 0, .int .i64 0, .int .i64 0, .int .i64 0, .int .i64 0, .int .i64 0, .int .i64 0, .int .i64 0, .int .i64 0, .bool false, .string ⟨#[]⟩, .string ⟨#[]⟩, .slice none 0 0]) ?hh rfl _ rfl Try.underlying26 rfl hi0) rfl ?zz
      case hh => exact Cel.row hZ _
      case zz => rw [n1, n2]; exact ⟨.slice none 0 0, by rw [zeros_eq]; rfl, IRow.none, below_setRow hB (Nat.le_refl _) _⟩

  · have hn : ¬ Sro s a := fun h => p1 h.pk
    have c1 := fun W => spec_num_no s a 1 W (by omega) ha0 ha (by decide) (by decide) p1
    clear p1
    go_enter Try.func24, Try.ntmps24
    go_wp2_with (fail)
    generalize (w.alloc (.cells #[.int .i64 0, .int .i64 0, .int .i64 0, .int .i64 0, .int .i64 0, .int .i64 0, .int .i64 0, .int .i64 0, .int .i64 0, .int .i64 0, .bool false, .string ⟨#[]⟩, .string ⟨#[]⟩, .slice none 0 0] 26)) = W at *
    with_reducible refine (c1 _).mono ?_
    rintro e w1 ⟨rfl, rfl⟩
    have hz : W.heap[w.heap.size]? = some (.cells #[.int .i64 0, .int .i64 0, .int .i64 0, .int .i64 0, .int .i64 0, .int .i64 0, .int .i64 0, .int .i64 0, .int .i64 0, .int .i64 0, .bool false, .string ⟨#[]⟩, .string ⟨#[]⟩, .slice none 0 0] 26 (0, 0)) := hZ
    obtain ⟨n1, n2⟩ := read_no s a hn
    have hi0 : (Try.prog.info? 26).map (·.size) = some (#[.int .i64 0, .int .i64 0, .int .i64 0, .int .i64 0, .int .i64 0, .int .i64 0, .int .i64 0, .int .i64 0, .int .i64 0, .int .i64 0, .bool false, .string ⟨#[]⟩, .string ⟨#[]⟩, .slice none 0 0] : Array Value).size := by kernel_rfl
    have one0 : (#[.int .i64 0, .int .i64 0, .int .i64 0, .int .i64 0, .int .i64 0, .int .i64 0, .int .i64 0, .int .i64 0, .int .i64 0, .int .i64 0, .bool false, .string ⟨#[]⟩, .string ⟨#[]⟩, .slice none 0 0] : Array Value).all (·.oneCell') = true := by kernel_rfl
    go_upto_region 90 with (with_reducible refine wpList_store_row rfl 26 _ _ rfl w.heap.size rfl _ rfl 26 _ hz hi0 rfl one0 ?_)
    skip
    refine bodyPost_ret (Cel.result_tmp (g := w.heap.size) (t := 26) (cs := #[.int .i64 0, .int .i64 0, .int .i64 0, .int .i64 0, .int .i64 0, .int .i64 0, .int .i64 0, .int .i64 0, .int .i64 0, .int .i64 0, .bool false, .string ⟨#[]⟩, .string ⟨#[]⟩, .slice none 0 0]) ?hh rfl _ rfl Try.underlying26 rfl hi0) rfl ?zz
    case hh => exact Cel.row hZ _
    case zz => rw [n1, n2]; exact ⟨.slice none 0 0, by rw [zeros_eq]; rfl, IRow.none, below_setRow hB (Nat.le_refl _) _⟩

end Go.Proofs.Ytnlbeoifmdfbjaa
