import Derived.Test.YtkpajakangaekabOdr
namespace Go.Proofs.Ytkpajakangaekab
open Go.RowKit
attribute [-go_sem] loadCells loadCellsFrom

theorem cells_set_0 (o : Ov) (v : Value) (x : Int) : (o.cells v).setIfInBounds 0 (.int .i64 x) = ({ o with kind := x } : Ov).cells v := by unfold Ov.cells; rfl
theorem cells_set_1 (o : Ov) (v : Value) (x : Int) : (o.cells v).setIfInBounds 1 (.int .i64 x) = ({ o with id := x } : Ov).cells v := by unfold Ov.cells; rfl
theorem cells_set_6 (o : Ov) (v : Value) (x : Int) : (o.cells v).setIfInBounds 6 (.int .i64 x) = ({ o with seq := x } : Ov).cells v := by unfold Ov.cells; rfl
theorem cells_set_10 (o : Ov) (v : Value) (x : Bool) : (o.cells v).setIfInBounds 10 (.bool x) = ({ o with flag := x } : Ov).cells v := by unfold Ov.cells; rfl
theorem cells_set_12 (o : Ov) (v : Value) (x : ByteArray) : (o.cells v).setIfInBounds 12 (.string x) = ({ o with mark := x } : Ov).cells v := by unfold Ov.cells; rfl

theorem setCell_late (W : World) (o : Obj) (p : Addr) (v : Value) (h : p.block < W.heap.size) : (W.alloc o).setCell p v = (W.setCell p v).alloc o := by
  first | simp [World.alloc, World.setCell, Array.modify_push, h] | (unfold World.alloc World.setCell; congr 1; apply Array.ext <;> simp <;> intros <;> simp [Array.getElem_modify, Array.getElem_push] <;> split <;> simp_all <;> omega)

set_option maxRecDepth 100000 in
set_option maxHeartbeats 8000000 in
set_option linter.unusedSimpArgs false in
theorem any_opt_dr (g : Nat) (v : Value) (n : Nat) (w : World) (hd : Dr w g v n) :
    Calls Try.prog 28 #[.pointer (some ⟨g, 0, none⟩)] w fun e w' => ∃ (o : Ov) (u : Value), e = .returned (.agg (o.cells u)) ∧ IRow w' w.heap.size w'.heap.size u o.ids ∧ o.ids.length ≤ 10 ∧ Dr w' g v n ∧ Grew g w w' := by
  have hg := hd.blk
  have hb0 := below_new w (.cells #[.int .i64 0, .int .i64 0, .int .i64 0, .int .i64 0, .int .i64 0, .int .i64 0, .int .i64 0, .int .i64 0, .int .i64 0, .int .i64 0, .bool false, .string ⟨#[]⟩, .string ⟨#[]⟩, .slice none 0 0] 26)
  have hd0 := hd.kept hb0
  have hZ0 := Cel.new w 26 #[.int .i64 0, .int .i64 0, .int .i64 0, .int .i64 0, .int .i64 0, .int .i64 0, .int .i64 0, .int .i64 0, .int .i64 0, .int .i64 0, .bool false, .string ⟨#[]⟩, .string ⟨#[]⟩, .slice none 0 0]
  have cO := opt_dr g v n _ hd0
  rw [World.size_alloc] at cO
  have cb14 := fun W h => bel_dr g v n 14 14 rfl W h (by omega) (by omega)
  have cb12 := fun W h => bel_dr g v n 12 12 rfl W h (by omega) (by omega)
  have cb3 := fun W h => bel_dr g v n 3 3 rfl W h (by omega) (by omega)
  have HE := Lib.hid (And.intro hZ0 (Grew.then (Grew.refl g w) hb0))
  clear hb0 hZ0 hd hd0
  go_enter Try.func28, Try.ntmps28
  go_wp2_with (fail)
  with_reducible refine cO.mono ?_
  rintro e w1 ⟨o, u, rfl, hI, hl10, d1, hG⟩
  obtain ⟨ua, uc, rfl⟩ := irow_form hI
  have hb2 := below_new w1 (.cells #[.int .i64 0, .int .i64 0, .int .i64 0, .int .i64 0, .int .i64 0, .int .i64 0, .int .i64 0, .int .i64 0, .int .i64 0, .int .i64 0, .bool false, .string ⟨#[]⟩, .string ⟨#[]⟩, .slice none 0 0] 26)
  have hC2 := Cel.new w1 26 #[.int .i64 0, .int .i64 0, .int .i64 0, .int .i64 0, .int .i64 0, .int .i64 0, .int .i64 0, .int .i64 0, .int .i64 0, .int .i64 0, .bool false, .string ⟨#[]⟩, .string ⟨#[]⟩, .slice none 0 0]
  have hZ1 := HE.out.1.grew hG (by omega)
  have hG1 := HE.out.2.trans hG
  have hlz := hZ1.lt
  have hcz : (w1.alloc (.cells #[.int .i64 0, .int .i64 0, .int .i64 0, .int .i64 0, .int .i64 0, .int .i64 0, .int .i64 0, .int .i64 0, .int .i64 0, .int .i64 0, .bool false, .string ⟨#[]⟩, .string ⟨#[]⟩, .slice none 0 0] 26)).heap[w1.heap.size]? = some (.cells #[.int .i64 0, .int .i64 0, .int .i64 0, .int .i64 0, .int .i64 0, .int .i64 0, .int .i64 0, .int .i64 0, .int .i64 0, .int .i64 0, .bool false, .string ⟨#[]⟩, .string ⟨#[]⟩, .slice none 0 0] 26 (0, 0)) := hC2
  have one := o.cells_one ua o.ids.length uc
  have hss : (#[.int .i64 0, .int .i64 0, .int .i64 0, .int .i64 0, .int .i64 0, .int .i64 0, .int .i64 0, .int .i64 0, .int .i64 0, .int .i64 0, .bool false, .string ⟨#[]⟩, .string ⟨#[]⟩, .slice none 0 0] : Array Value).size = (o.cells (.slice ua o.ids.length uc)).size := by rw [Ov.cells_size]; rfl
  have hB3 : Below w1.heap.size w1 ((w1.alloc (.cells #[.int .i64 0, .int .i64 0, .int .i64 0, .int .i64 0, .int .i64 0, .int .i64 0, .int .i64 0, .int .i64 0, .int .i64 0, .int .i64 0, .bool false, .string ⟨#[]⟩, .string ⟨#[]⟩, .slice none 0 0] 26)).setRow w1.heap.size (o.cells (.slice ua o.ids.length uc))) := below_setRow (g := w1.heap.size) hb2 (Nat.le_refl _) _
  have hC3 := hC2.row (o.cells (.slice ua o.ids.length uc))
  have H2 := Lib.hid (And.intro hC3 (And.intro (hZ1.kept hB3) (And.intro (d1.kept hB3) (And.intro (hG1.then (hB3.mono hG1.size)) (irow_at hI (W' := (w1.alloc (.cells #[.int .i64 0, .int .i64 0, .int .i64 0, .int .i64 0, .int .i64 0, .int .i64 0, .int .i64 0, .int .i64 0, .int .i64 0, .int .i64 0, .bool false, .string ⟨#[]⟩, .string ⟨#[]⟩, .slice none 0 0] 26)).setRow w1.heap.size (o.cells (.slice ua o.ids.length uc))) (fun k _ hk => hB3.block k hk))))))
  have hh : w.heap.size < w1.heap.size := hlz
  clear hI d1 hG hb2 hC2 hZ1 hG1 hlz hB3 hC3 HE cO
  go_upto_region 2 with (with_reducible refine wpList_store_row rfl 26 _ _ rfl _ rfl _ rfl 26 _ hcz (sizeOpt' _ _) hss one ?_)
  clear hcz one hss
  generalize (w1.alloc (.cells #[.int .i64 0, .int .i64 0, .int .i64 0, .int .i64 0, .int .i64 0, .int .i64 0, .int .i64 0, .int .i64 0, .int .i64 0, .int .i64 0, .bool false, .string ⟨#[]⟩, .string ⟨#[]⟩, .slice none 0 0] 26)).setRow w1.heap.size (o.cells (.slice ua o.ids.length uc)) = W2 at *
  generalize w1.heap.size = h at *
  go_wp2_with (fail)
  with_reducible refine (cb14 _ H2.out.2.2.1).mono ?_
  rintro e w3 ⟨r, hr, rfl, d3, o3⟩
  have H3 := Lib.hid (And.intro (H2.out.1.only o3 (by omega)) (And.intro (H2.out.2.1.only o3 (by omega)) (And.intro d3 (And.intro (H2.out.2.2.2.1.only o3) (irow_at H2.out.2.2.2.2 (W' := w3) (fun k hk _ => o3.at_ k (by omega)))))))
  clear H2 d3 o3 cb14
  obtain hc | hc | hc | hc | hc | hc | hc : r = 0 ∨ r = 1 ∨ r = 2 ∨ r = 3 ∨ r = 4 ∨ r = 5 ∨ 6 ≤ r := by omega
  · subst hc
    go_wp2_with (fail)
    with_reducible refine (cb12 _ H3.out.2.2.1).mono ?_
    rintro e w7 ⟨z0, -, rfl, d7, o7⟩
    generalize (z0 : Int) = z
    have HX := Lib.hid (And.intro (H3.out.1.only o7 (by omega)) (And.intro (H3.out.2.1.only o7 (by omega)) (And.intro d7 (And.intro (H3.out.2.2.2.1.only o7) (irow_at H3.out.2.2.2.2 (W' := w7) (fun k hk _ => o7.at_ k (by omega)))))))
    clear H3 o7 d7
    have c0 := (HX.out.1.cell 0).trans (o.ats (.slice ua o.ids.length uc)).1
    have f0 := HX.out.1.frozen 0
    have hC8 := HX.out.1.set 0 (.int .i64 z)
    rw [cells_set_0] at hC8
    have hZ8 := HX.out.2.1.other ⟨h, 0, none⟩ (.int .i64 z) (by simp; omega)
    have hB8 : Below w.heap.size w7 (w7.setCell ⟨h, 0, none⟩ (.int .i64 z)) := (Below.refl _ _).setCell (p := ⟨h, 0, none⟩) (by simp; omega) _
    have hI8 := irow_at HX.out.2.2.2.2 (W' := w7.setCell ⟨h, 0, none⟩ (.int .i64 z)) (fun k _ hk => Below.heap_setCell _ _ _ _ (by simp; omega))
    have hI9 := hI8.wider (Nat.le_refl _) (show h ≤ (w7.setCell ⟨h, 0, none⟩ (.int .i64 z)).heap.size by have := HX.out.1.lt; simp; omega)
    have HEND := Lib.hid (And.intro hC8 (And.intro hZ8 (And.intro (HX.out.2.2.1.then hB8 hg) (And.intro (HX.out.2.2.2.1.then hB8) (And.intro hI9 (by exact hl10 : ({ o with kind := z }).ids.length ≤ 10))))))
    clear hC8 hZ8 hB8 hI8 hI9 HX hl10
    go_upto_region 15 with (fail)
    generalize w7.setCell ⟨h, 0, none⟩ (.int .i64 z) = WW at *
    clear c0 f0
    obtain ⟨o2, ho2⟩ : ∃ o2 : Ov, o2 = { o with kind := z } := ⟨_, rfl⟩
    obtain ⟨ua2, uc2, hu2⟩ : ∃ a c, Value.slice a o2.ids.length c = (.slice ua o.ids.length uc) := ⟨_, _, by rw [ho2]⟩
    have HEND3 : Hid (Cel WW h 26 (o2.cells (.slice ua2 o2.ids.length uc2)) ∧ Cel WW w.heap.size 26 #[.int .i64 0, .int .i64 0, .int .i64 0, .int .i64 0, .int .i64 0, .int .i64 0, .int .i64 0, .int .i64 0, .int .i64 0, .int .i64 0, .bool false, .string ⟨#[]⟩, .string ⟨#[]⟩, .slice none 0 0] ∧ Dr WW g v n ∧ Grew g w WW ∧ IRow WW (w.heap.size + 1) WW.heap.size (.slice ua2 o2.ids.length uc2) o2.ids ∧ o2.ids.length ≤ 10) := Lib.hid (by rw [hu2, ho2]; exact HEND.out)
    clear ho2 hu2 HEND
    have HEND := HEND3
    clear HEND3
    have hl : WW.heap[h]? = some (.cells (o2.cells (.slice ua2 o2.ids.length uc2)) 26 (0, 0)) := HEND.out.1
    have hz : WW.heap[w.heap.size]? = some (.cells #[.int .i64 0, .int .i64 0, .int .i64 0, .int .i64 0, .int .i64 0, .int .i64 0, .int .i64 0, .int .i64 0, .int .i64 0, .int .i64 0, .bool false, .string ⟨#[]⟩, .string ⟨#[]⟩, .slice none 0 0] 26 (0, 0)) := HEND.out.2.1
    have one := o2.cells_one ua2 o2.ids.length uc2
    have hss : (#[.int .i64 0, .int .i64 0, .int .i64 0, .int .i64 0, .int .i64 0, .int .i64 0, .int .i64 0, .int .i64 0, .int .i64 0, .int .i64 0, .bool false, .string ⟨#[]⟩, .string ⟨#[]⟩, .slice none 0 0] : Array Value).size = (o2.cells (.slice ua2 o2.ids.length uc2)).size := by rw [Ov.cells_size]; rfl
    go_wp2_with (first | (with_reducible refine wpList_load_row rfl 26 _ rfl _ rfl 26 _ (0, 0) _ hl Try.underlying26 rfl (sizeOpt' _ _) ?_) | (with_reducible refine wpList_store_row rfl 26 _ _ rfl _ rfl _ rfl 26 _ hz (sizeOpt' _ _) hss one ?_))
    have hZ3 := HEND.out.2.1.row (o2.cells (.slice ua2 o2.ids.length uc2))
    have hBw : Below w.heap.size WW (WW.setRow w.heap.size (o2.cells (.slice ua2 o2.ids.length uc2))) := below_setRow (g := w.heap.size) (Below.refl _ _) (Nat.le_refl _) (o2.cells (.slice ua2 o2.ids.length uc2))
    exact bodyPost_ret (Cel.result hZ3 rfl _ rfl Try.underlying26 rfl (sizeOpt' _ _)) rfl ⟨o2, .slice ua2 o2.ids.length uc2, rfl, (end_own HEND.out.2.2.2.2.1 (Nat.lt_succ_self _) _).wider (Nat.le_succ _) (Nat.le_refl _), HEND.out.2.2.2.2.2, HEND.out.2.2.1.then hBw hg, HEND.out.2.2.2.1.then hBw⟩
  · subst hc
    have hb6 := below_new w3 (.cells #[.int .i64 (-1), .int .i64 256, .int .i64 7, .int .i64 255] 3)
    have hz3 := H3.out.2.2.2.1.size
    have hlh := H3.out.1.lt
    have cp : Calls Try.prog 58 #[.pointer (some ⟨g, 0, none⟩), .slice (some ⟨w3.heap.size, 0, none⟩) 4 4] (w3.alloc (.cells #[.int .i64 (-1), .int .i64 256, .int .i64 7, .int .i64 255] 3)) (fun e w' => ∃ j : Fin ([-1, 256, 7, 255] : List Int).length, e = .returned (.int .i64 ([-1, 256, 7, 255] : List Int)[j]) ∧ Dr w' g v n ∧ Only g (w3.alloc (.cells #[.int .i64 (-1), .int .i64 256, .int .i64 7, .int .i64 255] 3)) w') := pick_int g v n _ (H3.out.2.2.1.kept hb6) w3.heap.size 4 [-1, 256, 7, 255] (Cel.new w3 3 #[.int .i64 (-1), .int .i64 256, .int .i64 7, .int .i64 255]) (by omega) (by simp) (by simp)
    have H6 := Lib.hid (And.intro (H3.out.1.kept hb6) (And.intro (H3.out.2.1.kept hb6) (And.intro (H3.out.2.2.2.1.then (hb6.mono hz3)) (irow_at H3.out.2.2.2.2 (W' := w3.alloc (.cells #[.int .i64 (-1), .int .i64 256, .int .i64 7, .int .i64 255] 3)) (fun k _ hk => hb6.block k (by omega))))))
    clear H3 hb6
    go_wp2_with (fail)
    with_reducible refine cp.mono ?_
    rintro e w7 ⟨jj, rfl, d7, o7⟩
    have HX := Lib.hid (And.intro (H6.out.1.only o7 (by omega)) (And.intro (H6.out.2.1.only o7 (by omega)) (And.intro d7 (And.intro (H6.out.2.2.1.only o7) (irow_at H6.out.2.2.2 (W' := w7) (fun k hk _ => o7.at_ k (by omega)))))))
    clear cp H6 o7 d7
    generalize ([-1, 256, 7, 255] : List Int)[jj] = z at *
    have c1 := (HX.out.1.cell 1).trans (o.ats (.slice ua o.ids.length uc)).2.1
    have f1 := HX.out.1.frozen 1
    have hC8 := HX.out.1.set 1 (.int .i64 z)
    rw [cells_set_1] at hC8
    have hZ8 := HX.out.2.1.other ⟨h, 1, none⟩ (.int .i64 z) (by simp; omega)
    have hB8 : Below w.heap.size w7 (w7.setCell ⟨h, 1, none⟩ (.int .i64 z)) := (Below.refl _ _).setCell (p := ⟨h, 1, none⟩) (by simp; omega) _
    have hI8 := irow_at HX.out.2.2.2.2 (W' := w7.setCell ⟨h, 1, none⟩ (.int .i64 z)) (fun k _ hk => Below.heap_setCell _ _ _ _ (by simp; omega))
    have hI9 := hI8.wider (Nat.le_refl _) (show h ≤ (w7.setCell ⟨h, 1, none⟩ (.int .i64 z)).heap.size by have := HX.out.1.lt; simp; omega)
    have HEND := Lib.hid (And.intro hC8 (And.intro hZ8 (And.intro (HX.out.2.2.1.then hB8 hg) (And.intro (HX.out.2.2.2.1.then hB8) (And.intro hI9 (by exact hl10 : ({ o with id := z }).ids.length ≤ 10))))))
    clear hC8 hZ8 hB8 hI8 hI9 HX hl10
    go_upto_region 15 with (fail)
    generalize w7.setCell ⟨h, 1, none⟩ (.int .i64 z) = WW at *
    clear c1 f1
    obtain ⟨o2, ho2⟩ : ∃ o2 : Ov, o2 = { o with id := z } := ⟨_, rfl⟩
    obtain ⟨ua2, uc2, hu2⟩ : ∃ a c, Value.slice a o2.ids.length c = (.slice ua o.ids.length uc) := ⟨_, _, by rw [ho2]⟩
    have HEND3 : Hid (Cel WW h 26 (o2.cells (.slice ua2 o2.ids.length uc2)) ∧ Cel WW w.heap.size 26 #[.int .i64 0, .int .i64 0, .int .i64 0, .int .i64 0, .int .i64 0, .int .i64 0, .int .i64 0, .int .i64 0, .int .i64 0, .int .i64 0, .bool false, .string ⟨#[]⟩, .string ⟨#[]⟩, .slice none 0 0] ∧ Dr WW g v n ∧ Grew g w WW ∧ IRow WW (w.heap.size + 1) WW.heap.size (.slice ua2 o2.ids.length uc2) o2.ids ∧ o2.ids.length ≤ 10) := Lib.hid (by rw [hu2, ho2]; exact HEND.out)
    clear ho2 hu2 HEND
    have HEND := HEND3
    clear HEND3
    have hl : WW.heap[h]? = some (.cells (o2.cells (.slice ua2 o2.ids.length uc2)) 26 (0, 0)) := HEND.out.1
    have hz : WW.heap[w.heap.size]? = some (.cells #[.int .i64 0, .int .i64 0, .int .i64 0, .int .i64 0, .int .i64 0, .int .i64 0, .int .i64 0, .int .i64 0, .int .i64 0, .int .i64 0, .bool false, .string ⟨#[]⟩, .string ⟨#[]⟩, .slice none 0 0] 26 (0, 0)) := HEND.out.2.1
    have one := o2.cells_one ua2 o2.ids.length uc2
    have hss : (#[.int .i64 0, .int .i64 0, .int .i64 0, .int .i64 0, .int .i64 0, .int .i64 0, .int .i64 0, .int .i64 0, .int .i64 0, .int .i64 0, .bool false, .string ⟨#[]⟩, .string ⟨#[]⟩, .slice none 0 0] : Array Value).size = (o2.cells (.slice ua2 o2.ids.length uc2)).size := by rw [Ov.cells_size]; rfl
    go_wp2_with (first | (with_reducible refine wpList_load_row rfl 26 _ rfl _ rfl 26 _ (0, 0) _ hl Try.underlying26 rfl (sizeOpt' _ _) ?_) | (with_reducible refine wpList_store_row rfl 26 _ _ rfl _ rfl _ rfl 26 _ hz (sizeOpt' _ _) hss one ?_))
    have hZ3 := HEND.out.2.1.row (o2.cells (.slice ua2 o2.ids.length uc2))
    have hBw : Below w.heap.size WW (WW.setRow w.heap.size (o2.cells (.slice ua2 o2.ids.length uc2))) := below_setRow (g := w.heap.size) (Below.refl _ _) (Nat.le_refl _) (o2.cells (.slice ua2 o2.ids.length uc2))
    exact bodyPost_ret (Cel.result hZ3 rfl _ rfl Try.underlying26 rfl (sizeOpt' _ _)) rfl ⟨o2, .slice ua2 o2.ids.length uc2, rfl, (end_own HEND.out.2.2.2.2.1 (Nat.lt_succ_self _) _).wider (Nat.le_succ _) (Nat.le_refl _), HEND.out.2.2.2.2.2, HEND.out.2.2.1.then hBw hg, HEND.out.2.2.2.1.then hBw⟩
  · subst hc
    have hb6 := below_new w3 (.cells #[.int .i64 0, .int .i64 7, .int .i64 8, .int .i64 20] 3)
    have hz3 := H3.out.2.2.2.1.size
    have hlh := H3.out.1.lt
    have cp : Calls Try.prog 58 #[.pointer (some ⟨g, 0, none⟩), .slice (some ⟨w3.heap.size, 0, none⟩) 4 4] (w3.alloc (.cells #[.int .i64 0, .int .i64 7, .int .i64 8, .int .i64 20] 3)) (fun e w' => ∃ j : Fin ([0, 7, 8, 20] : List Int).length, e = .returned (.int .i64 ([0, 7, 8, 20] : List Int)[j]) ∧ Dr w' g v n ∧ Only g (w3.alloc (.cells #[.int .i64 0, .int .i64 7, .int .i64 8, .int .i64 20] 3)) w') := pick_int g v n _ (H3.out.2.2.1.kept hb6) w3.heap.size 4 [0, 7, 8, 20] (Cel.new w3 3 #[.int .i64 0, .int .i64 7, .int .i64 8, .int .i64 20]) (by omega) (by simp) (by simp)
    have H6 := Lib.hid (And.intro (H3.out.1.kept hb6) (And.intro (H3.out.2.1.kept hb6) (And.intro (H3.out.2.2.2.1.then (hb6.mono hz3)) (irow_at H3.out.2.2.2.2 (W' := w3.alloc (.cells #[.int .i64 0, .int .i64 7, .int .i64 8, .int .i64 20] 3)) (fun k _ hk => hb6.block k (by omega))))))
    clear H3 hb6
    go_wp2_with (fail)
    with_reducible refine cp.mono ?_
    rintro e w7 ⟨jj, rfl, d7, o7⟩
    have HX := Lib.hid (And.intro (H6.out.1.only o7 (by omega)) (And.intro (H6.out.2.1.only o7 (by omega)) (And.intro d7 (And.intro (H6.out.2.2.1.only o7) (irow_at H6.out.2.2.2 (W' := w7) (fun k hk _ => o7.at_ k (by omega)))))))
    clear cp H6 o7 d7
    obtain ⟨kk, hk⟩ : ∃ k : Nat, k ≤ 5000 ∧ ([0, 7, 8, 20] : List Int)[jj] = (k : Int) := by
      match jj with
      | ⟨0, _⟩ => exact ⟨0, by omega, rfl⟩
      | ⟨1, _⟩ => exact ⟨7, by omega, rfl⟩
      | ⟨2, _⟩ => exact ⟨8, by omega, rfl⟩
      | ⟨3, _⟩ => exact ⟨20, by omega, rfl⟩
    have ct := draw_text g v n kk w7 HX.out.2.2.1 hk.1
    rw [← hk.2] at ct
    have hk2 := Lib.hid hk
    clear hk
    generalize ([0, 7, 8, 20] : List Int)[jj] = zz at *
    have HY := HX
    clear HX
    go_wp2_with (fail)
    with_reducible refine ct.mono ?_
    rintro e w8 ⟨tx, -, rfl, d8, g8⟩
    have HX := Lib.hid (And.intro (HY.out.1.grew g8 (by omega)) (And.intro (HY.out.2.1.grew g8 (by omega)) (And.intro d8 (And.intro (HY.out.2.2.2.1.trans g8) (irow_at HY.out.2.2.2.2 (W' := w8) (fun k hk hk2 => g8.block k (by have := HY.out.1.lt; omega) (fun e => by injection e with e; omega)))))))
    clear HY g8 d8 ct
    have c12 := (HX.out.1.cell 12).trans (o.ats (.slice ua o.ids.length uc)).2.2.2.2.2.2.2.2.2.2.2.2.1
    have f12 := HX.out.1.frozen 12
    have hC8 := HX.out.1.set 12 (.string tx)
    rw [cells_set_12] at hC8
    have hZ8 := HX.out.2.1.other ⟨h, 12, none⟩ (.string tx) (by simp; omega)
    have hB8 : Below w.heap.size w8 (w8.setCell ⟨h, 12, none⟩ (.string tx)) := (Below.refl _ _).setCell (p := ⟨h, 12, none⟩) (by simp; omega) _
    have hI8 := irow_at HX.out.2.2.2.2 (W' := w8.setCell ⟨h, 12, none⟩ (.string tx)) (fun k _ hk => Below.heap_setCell _ _ _ _ (by simp; omega))
    have hI9 := hI8.wider (Nat.le_refl _) (show h ≤ (w8.setCell ⟨h, 12, none⟩ (.string tx)).heap.size by have := HX.out.1.lt; simp; omega)
    have HEND := Lib.hid (And.intro hC8 (And.intro hZ8 (And.intro (HX.out.2.2.1.then hB8 hg) (And.intro (HX.out.2.2.2.1.then hB8) (And.intro hI9 (by exact hl10 : ({ o with mark := tx }).ids.length ≤ 10))))))
    clear hC8 hZ8 hB8 hI8 hI9 HX hl10
    go_upto_region 15 with (fail)
    generalize w8.setCell ⟨h, 12, none⟩ (.string tx) = WW at *
    clear c12 f12
    obtain ⟨o2, ho2⟩ : ∃ o2 : Ov, o2 = { o with mark := tx } := ⟨_, rfl⟩
    obtain ⟨ua2, uc2, hu2⟩ : ∃ a c, Value.slice a o2.ids.length c = (.slice ua o.ids.length uc) := ⟨_, _, by rw [ho2]⟩
    have HEND3 : Hid (Cel WW h 26 (o2.cells (.slice ua2 o2.ids.length uc2)) ∧ Cel WW w.heap.size 26 #[.int .i64 0, .int .i64 0, .int .i64 0, .int .i64 0, .int .i64 0, .int .i64 0, .int .i64 0, .int .i64 0, .int .i64 0, .int .i64 0, .bool false, .string ⟨#[]⟩, .string ⟨#[]⟩, .slice none 0 0] ∧ Dr WW g v n ∧ Grew g w WW ∧ IRow WW (w.heap.size + 1) WW.heap.size (.slice ua2 o2.ids.length uc2) o2.ids ∧ o2.ids.length ≤ 10) := Lib.hid (by rw [hu2, ho2]; exact HEND.out)
    clear ho2 hu2 HEND
    have HEND := HEND3
    clear HEND3
    have hl : WW.heap[h]? = some (.cells (o2.cells (.slice ua2 o2.ids.length uc2)) 26 (0, 0)) := HEND.out.1
    have hz : WW.heap[w.heap.size]? = some (.cells #[.int .i64 0, .int .i64 0, .int .i64 0, .int .i64 0, .int .i64 0, .int .i64 0, .int .i64 0, .int .i64 0, .int .i64 0, .int .i64 0, .bool false, .string ⟨#[]⟩, .string ⟨#[]⟩, .slice none 0 0] 26 (0, 0)) := HEND.out.2.1
    have one := o2.cells_one ua2 o2.ids.length uc2
    have hss : (#[.int .i64 0, .int .i64 0, .int .i64 0, .int .i64 0, .int .i64 0, .int .i64 0, .int .i64 0, .int .i64 0, .int .i64 0, .int .i64 0, .bool false, .string ⟨#[]⟩, .string ⟨#[]⟩, .slice none 0 0] : Array Value).size = (o2.cells (.slice ua2 o2.ids.length uc2)).size := by rw [Ov.cells_size]; rfl
    go_wp2_with (first | (with_reducible refine wpList_load_row rfl 26 _ rfl _ rfl 26 _ (0, 0) _ hl Try.underlying26 rfl (sizeOpt' _ _) ?_) | (with_reducible refine wpList_store_row rfl 26 _ _ rfl _ rfl _ rfl 26 _ hz (sizeOpt' _ _) hss one ?_))
    have hZ3 := HEND.out.2.1.row (o2.cells (.slice ua2 o2.ids.length uc2))
    have hBw : Below w.heap.size WW (WW.setRow w.heap.size (o2.cells (.slice ua2 o2.ids.length uc2))) := below_setRow (g := w.heap.size) (Below.refl _ _) (Nat.le_refl _) (o2.cells (.slice ua2 o2.ids.length uc2))
    exact bodyPost_ret (Cel.result hZ3 rfl _ rfl Try.underlying26 rfl (sizeOpt' _ _)) rfl ⟨o2, .slice ua2 o2.ids.length uc2, rfl, (end_own HEND.out.2.2.2.2.1 (Nat.lt_succ_self _) _).wider (Nat.le_succ _) (Nat.le_refl _), HEND.out.2.2.2.2.2, HEND.out.2.2.1.then hBw hg, HEND.out.2.2.2.1.then hBw⟩
  · subst hc
    go_wp2_with (fail)
    with_reducible refine (cb3 _ H3.out.2.2.1).mono ?_
    rintro e w6 ⟨z1, -, rfl, d6, o6⟩
    have H6 := Lib.hid (And.intro (H3.out.1.only o6 (by omega)) (And.intro (H3.out.2.1.only o6 (by omega)) (And.intro d6 (And.intro (H3.out.2.2.2.1.only o6) (irow_at H3.out.2.2.2.2 (W' := w6) (fun k hk _ => o6.at_ k (by omega)))))))
    clear H3 o6 d6
    go_wp2_with (fail)
    with_reducible refine (cb3 _ H6.out.2.2.1).mono ?_
    rintro e w65 ⟨z2, -, rfl, d65, o65⟩
    have hb7 := below_new w65 (.cells #[.int .i64 (z1 : Int), .int .i64 (z2 : Int)] 3)
    have hlh := (H6.out.1.only o65 (by omega)).lt
    have hz3 := (H6.out.2.2.2.1.only o65).size
    have hib : IBlk (w65.alloc (.cells #[.int .i64 (z1 : Int), .int .i64 (z2 : Int)] 3)) w65.heap.size ([(z1 : Int), (z2 : Int)] : List Int).toArray := by
      have hcn := Cel.new w65 3 #[.int .i64 (z1 : Int), .int .i64 (z2 : Int)]
      unfold Cel at hcn
      unfold IBlk
      rw [hcn]
      simp
    have hir : IRow (w65.alloc (.cells #[.int .i64 (z1 : Int), .int .i64 (z2 : Int)] 3)) (h + 1) (w65.heap.size + 1) (.slice (some ⟨w65.heap.size, 0, none⟩) 2 2) [(z1 : Int), (z2 : Int)] := IBlk.irow hib (by simp) (by omega) (Nat.lt_succ_self _)
    have HX := Lib.hid (And.intro ((H6.out.1.only o65 (by omega)).kept hb7) (And.intro ((H6.out.2.1.only o65 (by omega)).kept hb7) (And.intro (d65.kept hb7) (And.intro ((H6.out.2.2.2.1.only o65).then (hb7.mono hz3)) (And.intro (Nat.le_refl 0) hir)))))
    have hn2 : w65.heap.size + 1 ≤ (w65.alloc (.cells #[.int .i64 (z1 : Int), .int .i64 (z2 : Int)] 3)).heap.size := by simp
    clear H6 o65 d65 hb7 hib hir
    have c13 := (HX.out.1.cell 13).trans (o.ats (.slice ua o.ids.length uc)).2.2.2.2.2.2.2.2.2.2.2.2.2
    have f13 := HX.out.1.frozen 13
    have hC8 := HX.out.1.set 13 (.slice (some ⟨w65.heap.size, 0, none⟩) 2 2)
    rw [Ov.cells_set] at hC8
    have hZ8 := HX.out.2.1.other ⟨h, 13, none⟩ (.slice (some ⟨w65.heap.size, 0, none⟩) 2 2) (by simp; omega)
    have hB8 : Below w.heap.size (w65.alloc (.cells #[.int .i64 (z1 : Int), .int .i64 (z2 : Int)] 3)) ((w65.alloc (.cells #[.int .i64 (z1 : Int), .int .i64 (z2 : Int)] 3)).setCell ⟨h, 13, none⟩ (.slice (some ⟨w65.heap.size, 0, none⟩) 2 2)) := (Below.refl _ _).setCell (p := ⟨h, 13, none⟩) (by simp; omega) _
    have hI8 := irow_at HX.out.2.2.2.2.2 (W' := (w65.alloc (.cells #[.int .i64 (z1 : Int), .int .i64 (z2 : Int)] 3)).setCell ⟨h, 13, none⟩ (.slice (some ⟨w65.heap.size, 0, none⟩) 2 2)) (fun k hk _ => Below.heap_setCell _ _ _ _ (by simp; omega))
    have hI9 : IRow _ (w.heap.size + 1) ((w65.alloc (.cells #[.int .i64 (z1 : Int), .int .i64 (z2 : Int)] 3)).setCell ⟨h, 13, none⟩ (.slice (some ⟨w65.heap.size, 0, none⟩) 2 2)).heap.size _ _ := hI8.wider (by omega) (by simp)
    rw [← cells_ids o [(z1 : Int), (z2 : Int)]] at hC8
    have HEND := Lib.hid (And.intro hC8 (And.intro hZ8 (And.intro (HX.out.2.2.1.then hB8 hg) (And.intro (HX.out.2.2.2.1.then hB8) (And.intro hI9 (by simp : ({ o with ids := [(z1 : Int), (z2 : Int)] }).ids.length ≤ 10))))))
    clear hC8 hZ8 hB8 hI8 hI9 HX hl10
    go_upto_region 15 with (fail)
    rw [← setCell_late w65 _ ⟨h, 13, none⟩ _ hlh]
    generalize (w65.alloc (.cells #[.int .i64 (z1 : Int), .int .i64 (z2 : Int)] 3)).setCell ⟨h, 13, none⟩ (.slice (some ⟨w65.heap.size, 0, none⟩) 2 2) = WW at *
    clear c13 f13
    obtain ⟨o2, ho2⟩ : ∃ o2 : Ov, o2 = { o with ids := [(z1 : Int), (z2 : Int)] } := ⟨_, rfl⟩
    obtain ⟨ua2, uc2, hu2⟩ : ∃ a c, Value.slice a o2.ids.length c = (.slice (some ⟨w65.heap.size, 0, none⟩) 2 2) := ⟨some ⟨w65.heap.size, 0, none⟩, 2, by rw [ho2]; rfl⟩
    have HEND3 : Hid (Cel WW h 26 (o2.cells (.slice ua2 o2.ids.length uc2)) ∧ Cel WW w.heap.size 26 #[.int .i64 0, .int .i64 0, .int .i64 0, .int .i64 0, .int .i64 0, .int .i64 0, .int .i64 0, .int .i64 0, .int .i64 0, .int .i64 0, .bool false, .string ⟨#[]⟩, .string ⟨#[]⟩, .slice none 0 0] ∧ Dr WW g v n ∧ Grew g w WW ∧ IRow WW (w.heap.size + 1) WW.heap.size (.slice ua2 o2.ids.length uc2) o2.ids ∧ o2.ids.length ≤ 10) := Lib.hid (by rw [hu2, ho2]; exact HEND.out)
    clear ho2 hu2 HEND
    have HEND := HEND3
    clear HEND3
    have hl : WW.heap[h]? = some (.cells (o2.cells (.slice ua2 o2.ids.length uc2)) 26 (0, 0)) := HEND.out.1
    have hz : WW.heap[w.heap.size]? = some (.cells #[.int .i64 0, .int .i64 0, .int .i64 0, .int .i64 0, .int .i64 0, .int .i64 0, .int .i64 0, .int .i64 0, .int .i64 0, .int .i64 0, .bool false, .string ⟨#[]⟩, .string ⟨#[]⟩, .slice none 0 0] 26 (0, 0)) := HEND.out.2.1
    have one := o2.cells_one ua2 o2.ids.length uc2
    have hss : (#[.int .i64 0, .int .i64 0, .int .i64 0, .int .i64 0, .int .i64 0, .int .i64 0, .int .i64 0, .int .i64 0, .int .i64 0, .int .i64 0, .bool false, .string ⟨#[]⟩, .string ⟨#[]⟩, .slice none 0 0] : Array Value).size = (o2.cells (.slice ua2 o2.ids.length uc2)).size := by rw [Ov.cells_size]; rfl
    go_wp2_with (first | (with_reducible refine wpList_load_row rfl 26 _ rfl _ rfl 26 _ (0, 0) _ hl Try.underlying26 rfl (sizeOpt' _ _) ?_) | (with_reducible refine wpList_store_row rfl 26 _ _ rfl _ rfl _ rfl 26 _ hz (sizeOpt' _ _) hss one ?_))
    have hZ3 := HEND.out.2.1.row (o2.cells (.slice ua2 o2.ids.length uc2))
    have hBw : Below w.heap.size WW (WW.setRow w.heap.size (o2.cells (.slice ua2 o2.ids.length uc2))) := below_setRow (g := w.heap.size) (Below.refl _ _) (Nat.le_refl _) (o2.cells (.slice ua2 o2.ids.length uc2))
    exact bodyPost_ret (Cel.result hZ3 rfl _ rfl Try.underlying26 rfl (sizeOpt' _ _)) rfl ⟨o2, .slice ua2 o2.ids.length uc2, rfl, (end_own HEND.out.2.2.2.2.1 (Nat.lt_succ_self _) _).wider (Nat.le_succ _) (Nat.le_refl _), HEND.out.2.2.2.2.2, HEND.out.2.2.1.then hBw hg, HEND.out.2.2.2.1.then hBw⟩
  · subst hc
    have hb6 := below_new w3 (.cells #[.int .i64 281474976710655, .int .i64 281474976710656, .int .i64 (-1)] 3)
    have hz3 := H3.out.2.2.2.1.size
    have hlh := H3.out.1.lt
    have cp : Calls Try.prog 58 #[.pointer (some ⟨g, 0, none⟩), .slice (some ⟨w3.heap.size, 0, none⟩) 3 3] (w3.alloc (.cells #[.int .i64 281474976710655, .int .i64 281474976710656, .int .i64 (-1)] 3)) (fun e w' => ∃ j : Fin ([281474976710655, 281474976710656, -1] : List Int).length, e = .returned (.int .i64 ([281474976710655, 281474976710656, -1] : List Int)[j]) ∧ Dr w' g v n ∧ Only g (w3.alloc (.cells #[.int .i64 281474976710655, .int .i64 281474976710656, .int .i64 (-1)] 3)) w') := pick_int g v n _ (H3.out.2.2.1.kept hb6) w3.heap.size 3 [281474976710655, 281474976710656, -1] (Cel.new w3 3 #[.int .i64 281474976710655, .int .i64 281474976710656, .int .i64 (-1)]) (by omega) (by simp) (by simp)
    have H6 := Lib.hid (And.intro (H3.out.1.kept hb6) (And.intro (H3.out.2.1.kept hb6) (And.intro (H3.out.2.2.2.1.then (hb6.mono hz3)) (irow_at H3.out.2.2.2.2 (W' := w3.alloc (.cells #[.int .i64 281474976710655, .int .i64 281474976710656, .int .i64 (-1)] 3)) (fun k _ hk => hb6.block k (by omega))))))
    clear H3 hb6
    go_wp2_with (fail)
    with_reducible refine cp.mono ?_
    rintro e w7 ⟨jj, rfl, d7, o7⟩
    have HX := Lib.hid (And.intro (H6.out.1.only o7 (by omega)) (And.intro (H6.out.2.1.only o7 (by omega)) (And.intro d7 (And.intro (H6.out.2.2.1.only o7) (irow_at H6.out.2.2.2 (W' := w7) (fun k hk _ => o7.at_ k (by omega)))))))
    clear cp H6 o7 d7
    generalize ([281474976710655, 281474976710656, -1] : List Int)[jj] = z at *
    have c6 := (HX.out.1.cell 6).trans (o.ats (.slice ua o.ids.length uc)).2.2.2.2.2.2.1
    have f6 := HX.out.1.frozen 6
    have hC8 := HX.out.1.set 6 (.int .i64 z)
    rw [cells_set_6] at hC8
    have hZ8 := HX.out.2.1.other ⟨h, 6, none⟩ (.int .i64 z) (by simp; omega)
    have hB8 : Below w.heap.size w7 (w7.setCell ⟨h, 6, none⟩ (.int .i64 z)) := (Below.refl _ _).setCell (p := ⟨h, 6, none⟩) (by simp; omega) _
    have hI8 := irow_at HX.out.2.2.2.2 (W' := w7.setCell ⟨h, 6, none⟩ (.int .i64 z)) (fun k _ hk => Below.heap_setCell _ _ _ _ (by simp; omega))
    have hI9 := hI8.wider (Nat.le_refl _) (show h ≤ (w7.setCell ⟨h, 6, none⟩ (.int .i64 z)).heap.size by have := HX.out.1.lt; simp; omega)
    have HEND := Lib.hid (And.intro hC8 (And.intro hZ8 (And.intro (HX.out.2.2.1.then hB8 hg) (And.intro (HX.out.2.2.2.1.then hB8) (And.intro hI9 (by exact hl10 : ({ o with seq := z }).ids.length ≤ 10))))))
    clear hC8 hZ8 hB8 hI8 hI9 HX hl10
    go_upto_region 15 with (fail)
    generalize w7.setCell ⟨h, 6, none⟩ (.int .i64 z) = WW at *
    clear c6 f6
    obtain ⟨o2, ho2⟩ : ∃ o2 : Ov, o2 = { o with seq := z } := ⟨_, rfl⟩
    obtain ⟨ua2, uc2, hu2⟩ : ∃ a c, Value.slice a o2.ids.length c = (.slice ua o.ids.length uc) := ⟨_, _, by rw [ho2]⟩
    have HEND3 : Hid (Cel WW h 26 (o2.cells (.slice ua2 o2.ids.length uc2)) ∧ Cel WW w.heap.size 26 #[.int .i64 0, .int .i64 0, .int .i64 0, .int .i64 0, .int .i64 0, .int .i64 0, .int .i64 0, .int .i64 0, .int .i64 0, .int .i64 0, .bool false, .string ⟨#[]⟩, .string ⟨#[]⟩, .slice none 0 0] ∧ Dr WW g v n ∧ Grew g w WW ∧ IRow WW (w.heap.size + 1) WW.heap.size (.slice ua2 o2.ids.length uc2) o2.ids ∧ o2.ids.length ≤ 10) := Lib.hid (by rw [hu2, ho2]; exact HEND.out)
    clear ho2 hu2 HEND
    have HEND := HEND3
    clear HEND3
    have hl : WW.heap[h]? = some (.cells (o2.cells (.slice ua2 o2.ids.length uc2)) 26 (0, 0)) := HEND.out.1
    have hz : WW.heap[w.heap.size]? = some (.cells #[.int .i64 0, .int .i64 0, .int .i64 0, .int .i64 0, .int .i64 0, .int .i64 0, .int .i64 0, .int .i64 0, .int .i64 0, .int .i64 0, .bool false, .string ⟨#[]⟩, .string ⟨#[]⟩, .slice none 0 0] 26 (0, 0)) := HEND.out.2.1
    have one := o2.cells_one ua2 o2.ids.length uc2
    have hss : (#[.int .i64 0, .int .i64 0, .int .i64 0, .int .i64 0, .int .i64 0, .int .i64 0, .int .i64 0, .int .i64 0, .int .i64 0, .int .i64 0, .bool false, .string ⟨#[]⟩, .string ⟨#[]⟩, .slice none 0 0] : Array Value).size = (o2.cells (.slice ua2 o2.ids.length uc2)).size := by rw [Ov.cells_size]; rfl
    go_wp2_with (first | (with_reducible refine wpList_load_row rfl 26 _ rfl _ rfl 26 _ (0, 0) _ hl Try.underlying26 rfl (sizeOpt' _ _) ?_) | (with_reducible refine wpList_store_row rfl 26 _ _ rfl _ rfl _ rfl 26 _ hz (sizeOpt' _ _) hss one ?_))
    have hZ3 := HEND.out.2.1.row (o2.cells (.slice ua2 o2.ids.length uc2))
    have hBw : Below w.heap.size WW (WW.setRow w.heap.size (o2.cells (.slice ua2 o2.ids.length uc2))) := below_setRow (g := w.heap.size) (Below.refl _ _) (Nat.le_refl _) (o2.cells (.slice ua2 o2.ids.length uc2))
    exact bodyPost_ret (Cel.result hZ3 rfl _ rfl Try.underlying26 rfl (sizeOpt' _ _)) rfl ⟨o2, .slice ua2 o2.ids.length uc2, rfl, (end_own HEND.out.2.2.2.2.1 (Nat.lt_succ_self _) _).wider (Nat.le_succ _) (Nat.le_refl _), HEND.out.2.2.2.2.2, HEND.out.2.2.1.then hBw hg, HEND.out.2.2.2.1.then hBw⟩
  · subst hc
    have HX := H3
    clear H3
    have c10 := (HX.out.1.cell 10).trans (o.ats (.slice ua o.ids.length uc)).2.2.2.2.2.2.2.2.2.2.1
    have f10 := HX.out.1.frozen 10
    have hC8 := HX.out.1.set 10 (.bool true)
    rw [cells_set_10] at hC8
    have hZ8 := HX.out.2.1.other ⟨h, 10, none⟩ (.bool true) (by simp; omega)
    have hB8 : Below w.heap.size w3 (w3.setCell ⟨h, 10, none⟩ (.bool true)) := (Below.refl _ _).setCell (p := ⟨h, 10, none⟩) (by simp; omega) _
    have hI8 := irow_at HX.out.2.2.2.2 (W' := w3.setCell ⟨h, 10, none⟩ (.bool true)) (fun k _ hk => Below.heap_setCell _ _ _ _ (by simp; omega))
    have hI9 := hI8.wider (Nat.le_refl _) (show h ≤ (w3.setCell ⟨h, 10, none⟩ (.bool true)).heap.size by have := HX.out.1.lt; simp; omega)
    have HEND := Lib.hid (And.intro hC8 (And.intro hZ8 (And.intro (HX.out.2.2.1.then hB8 hg) (And.intro (HX.out.2.2.2.1.then hB8) (And.intro hI9 (by exact hl10 : ({ o with flag := true }).ids.length ≤ 10))))))
    clear hC8 hZ8 hB8 hI8 hI9 HX hl10
    go_upto_region 15 with (fail)
    generalize w3.setCell ⟨h, 10, none⟩ (.bool true) = WW at *
    clear c10 f10
    obtain ⟨o2, ho2⟩ : ∃ o2 : Ov, o2 = { o with flag := true } := ⟨_, rfl⟩
    obtain ⟨ua2, uc2, hu2⟩ : ∃ a c, Value.slice a o2.ids.length c = (.slice ua o.ids.length uc) := ⟨_, _, by rw [ho2]⟩
    have HEND3 : Hid (Cel WW h 26 (o2.cells (.slice ua2 o2.ids.length uc2)) ∧ Cel WW w.heap.size 26 #[.int .i64 0, .int .i64 0, .int .i64 0, .int .i64 0, .int .i64 0, .int .i64 0, .int .i64 0, .int .i64 0, .int .i64 0, .int .i64 0, .bool false, .string ⟨#[]⟩, .string ⟨#[]⟩, .slice none 0 0] ∧ Dr WW g v n ∧ Grew g w WW ∧ IRow WW (w.heap.size + 1) WW.heap.size (.slice ua2 o2.ids.length uc2) o2.ids ∧ o2.ids.length ≤ 10) := Lib.hid (by rw [hu2, ho2]; exact HEND.out)
    clear ho2 hu2 HEND
    have HEND := HEND3
    clear HEND3
    have hl : WW.heap[h]? = some (.cells (o2.cells (.slice ua2 o2.ids.length uc2)) 26 (0, 0)) := HEND.out.1
    have hz : WW.heap[w.heap.size]? = some (.cells #[.int .i64 0, .int .i64 0, .int .i64 0, .int .i64 0, .int .i64 0, .int .i64 0, .int .i64 0, .int .i64 0, .int .i64 0, .int .i64 0, .bool false, .string ⟨#[]⟩, .string ⟨#[]⟩, .slice none 0 0] 26 (0, 0)) := HEND.out.2.1
    have one := o2.cells_one ua2 o2.ids.length uc2
    have hss : (#[.int .i64 0, .int .i64 0, .int .i64 0, .int .i64 0, .int .i64 0, .int .i64 0, .int .i64 0, .int .i64 0, .int .i64 0, .int .i64 0, .bool false, .string ⟨#[]⟩, .string ⟨#[]⟩, .slice none 0 0] : Array Value).size = (o2.cells (.slice ua2 o2.ids.length uc2)).size := by rw [Ov.cells_size]; rfl
    go_wp2_with (first | (with_reducible refine wpList_load_row rfl 26 _ rfl _ rfl 26 _ (0, 0) _ hl Try.underlying26 rfl (sizeOpt' _ _) ?_) | (with_reducible refine wpList_store_row rfl 26 _ _ rfl _ rfl _ rfl 26 _ hz (sizeOpt' _ _) hss one ?_))
    have hZ3 := HEND.out.2.1.row (o2.cells (.slice ua2 o2.ids.length uc2))
    have hBw : Below w.heap.size WW (WW.setRow w.heap.size (o2.cells (.slice ua2 o2.ids.length uc2))) := below_setRow (g := w.heap.size) (Below.refl _ _) (Nat.le_refl _) (o2.cells (.slice ua2 o2.ids.length uc2))
    exact bodyPost_ret (Cel.result hZ3 rfl _ rfl Try.underlying26 rfl (sizeOpt' _ _)) rfl ⟨o2, .slice ua2 o2.ids.length uc2, rfl, (end_own HEND.out.2.2.2.2.1 (Nat.lt_succ_self _) _).wider (Nat.le_succ _) (Nat.le_refl _), HEND.out.2.2.2.2.2, HEND.out.2.2.1.then hBw hg, HEND.out.2.2.2.1.then hBw⟩
  · have q0 : ¬ (r : Int) = 0 := by omega
    have q1 : ¬ (r : Int) = 1 := by omega
    have q2 : ¬ (r : Int) = 2 := by omega
    have q3 : ¬ (r : Int) = 3 := by omega
    have q4 : ¬ (r : Int) = 4 := by omega
    have q5 : ¬ (r : Int) = 5 := by omega
    have HEND := Lib.hid (And.intro H3.out.1 (And.intro H3.out.2.1 (And.intro H3.out.2.2.1 (And.intro H3.out.2.2.2.1 (And.intro (H3.out.2.2.2.2.wider (Nat.le_refl _) (Nat.le_of_lt H3.out.1.lt)) hl10)))))
    clear H3 hl10
    go_upto_region 15 with (fail)
    generalize w3 = WW at *
    obtain ⟨o2, rfl⟩ : ∃ o2 : Ov, o2 = o := ⟨_, rfl⟩
    obtain ⟨ua2, rfl⟩ : ∃ a, a = ua := ⟨_, rfl⟩
    obtain ⟨uc2, rfl⟩ : ∃ a, a = uc := ⟨_, rfl⟩
    have hl : WW.heap[h]? = some (.cells (o2.cells (.slice ua2 o2.ids.length uc2)) 26 (0, 0)) := HEND.out.1
    have hz : WW.heap[w.heap.size]? = some (.cells #[.int .i64 0, .int .i64 0, .int .i64 0, .int .i64 0, .int .i64 0, .int .i64 0, .int .i64 0, .int .i64 0, .int .i64 0, .int .i64 0, .bool false, .string ⟨#[]⟩, .string ⟨#[]⟩, .slice none 0 0] 26 (0, 0)) := HEND.out.2.1
    have one := o2.cells_one ua2 o2.ids.length uc2
    have hss : (#[.int .i64 0, .int .i64 0, .int .i64 0, .int .i64 0, .int .i64 0, .int .i64 0, .int .i64 0, .int .i64 0, .int .i64 0, .int .i64 0, .bool false, .string ⟨#[]⟩, .string ⟨#[]⟩, .slice none 0 0] : Array Value).size = (o2.cells (.slice ua2 o2.ids.length uc2)).size := by rw [Ov.cells_size]; rfl
    go_wp2_with (first | (with_reducible refine wpList_load_row rfl 26 _ rfl _ rfl 26 _ (0, 0) _ hl Try.underlying26 rfl (sizeOpt' _ _) ?_) | (with_reducible refine wpList_store_row rfl 26 _ _ rfl _ rfl _ rfl 26 _ hz (sizeOpt' _ _) hss one ?_))
    have hZ3 := HEND.out.2.1.row (o2.cells (.slice ua2 o2.ids.length uc2))
    have hBw : Below w.heap.size WW (WW.setRow w.heap.size (o2.cells (.slice ua2 o2.ids.length uc2))) := below_setRow (g := w.heap.size) (Below.refl _ _) (Nat.le_refl _) (o2.cells (.slice ua2 o2.ids.length uc2))
    exact bodyPost_ret (Cel.result hZ3 rfl _ rfl Try.underlying26 rfl (sizeOpt' _ _)) rfl ⟨o2, .slice ua2 o2.ids.length uc2, rfl, (end_own HEND.out.2.2.2.2.1 (Nat.lt_succ_self _) _).wider (Nat.le_succ _) (Nat.le_refl _), HEND.out.2.2.2.2.2, HEND.out.2.2.1.then hBw hg, HEND.out.2.2.2.1.then hBw⟩
end Go.Proofs.Ytkpajakangaekab
