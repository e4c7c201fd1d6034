import Derived.Test.YtmfbhejclmelaaaAbq
import Derived.Test.YtmfbhejclmelaaaAos
namespace Go.Proofs.Ytmfbhejclmelaaa
open Go.RowKit

theorem mt_own (W : World) (B : Nat) (h : B ≤ W.heap.size) : OwnV (W.alloc (.cells #[] 26)) B (W.alloc (.cells #[] 26)).heap.size (.slice (some ⟨W.heap.size, 0, none⟩) 0 0) [] :=
  (eown_empty avK W).mono h (Nat.le_refl _)
theorem bd_grown {B : Nat} {w W W' : World} {v : Value} {L : List Av} (hb : Below B w W) (ho : OwnV W B W.heap.size v L) (hB : B ≤ W.heap.size) (hg : W.grownBy W' v.ownBlock) : Below B w W' := hb.grown hg hB (fun g hv => (ho.block g hv).1)

set_option maxRecDepth 100000 in
set_option maxHeartbeats 4000000 in
theorem spec_dropAddr (v : Value) (ms : List Av) (id : Int) (B C : Nat) (w : World) (hv : LieE avK w B C v ms) (hn : ms.length ≤ 1048576) :
    Calls Try.prog 25 #[v, .int .i64 id] w fun e w' => ∃ v', e = .returned (.tuple #[v', .bool (dropA ms id).2]) ∧ OwnV w' w.heap.size w'.heap.size v' (dropA ms id).1 ∧ Below w.heap.size w w' := by
  have c1 := spec_addrAt v ms id w hv.rd (by omega)
  obtain ⟨r, hr⟩ : ∃ r, dropA ms id = r := ⟨_, rfl⟩
  rw [hr]
  unfold dropA at hr
  unfold atInt at c1
  obtain ⟨a, c, rfl, hac⟩ := hv.form
  have hB1 := below_new w (.cells #[] 26)
  have HV := Lib.hid (And.intro (hv.below hB1) (And.intro hB1 (And.intro (mt_own w w.heap.size (Nat.le_refl _)) hB1.size)))
  clear hB1
  cases ha : atA id ms with
  | none =>
    rw [ha] at hr c1
    replace hr : (ms, false) = r := hr
    subst hr
    clear hv ha
    go_enter Try.func25, Try.ntmps25
    go_wp2_with (fail)
    with_reducible refine c1.mono ?_
    rintro e w1 ⟨rfl, rfl⟩
    go_wp2_with (at_builtin; refine wpList_append_els avK rfl _ _ 24 24 rfl uAv uAv w.heap.size (.slice (some ⟨w.heap.size, 0, none⟩) 0 0) _ [] ms rfl rfl HV.out.2.2.1 HV.out.2.2.2 HV.out.1.rd (by simp; omega) ?_; intro v' w5 hown hgrow hloc; rw [List.nil_append] at hown; have HN := Lib.hid (And.intro hown (bd_grown HV.out.2.1 HV.out.2.2.1 HV.out.2.2.2 hgrow)); obtain ⟨xa, xc, rfl, -⟩ := hown.form; clear hown hgrow hloc)
    go_ret2
    exact ⟨_, rfl, HN.out.1, HN.out.2⟩
  | some i =>
    rw [ha] at hr c1
    obtain ⟨hi, -, -⟩ := atA_some ha
    replace hr : (ms.take i ++ ms.drop (i + 1), true) = r := hr
    subst hr
    obtain ⟨a', hcut, hcutL⟩ := LieE.cut_to (tS := 24) uAv hv i (by omega)
    obtain ⟨a2, c2, hfrom, -, hfromL⟩ := LieE.cut_from (tS := 24) uAv hv (i + 1) (by omega)
    have e1 : IntKind.i64.wrap ((i : Int) + 1) = ((i + 1 : Nat) : Int) := by rw [IntWalk.i64_in _ (by omega)]; omega
    have hl1 : (ms.take i).length = i := by rw [List.length_take]; omega
    have hl2 : (ms.drop (i + 1)).length ≤ 1048576 := by rw [List.length_drop]; omega
    have HL := Lib.hid (And.intro hcutL (And.intro hfromL (And.intro hl1 hl2)))
    simp only at c1
    have hv0 := Lib.hid hv
    clear hv ha hcutL hfromL hl1 hl2
    generalize ms.take i = A1 at *
    generalize ms.drop (i + 1) = A2 at *
    generalize hA3 : A1 ++ A2 = A3 at *
    have HA3 := Lib.hid hA3
    clear hA3
    generalize ((i + 1 : Nat) : Int) = i1 at *
    have q : ¬ (i : Int) < 0 := by omega
    go_enter Try.func25, Try.ntmps25
    go_wp2_with (fail)
    with_reducible refine c1.mono ?_
    rintro e w1 ⟨rfl, rfl⟩
    clear c1
    go_upto_region 5 with (at_builtin; refine wpList_append_els avK rfl _ _ 24 24 rfl uAv uAv w.heap.size (.slice (some ⟨w.heap.size, 0, none⟩) 0 0) (.slice a' i c) [] A1 rfl rfl HV.out.2.2.1 HV.out.2.2.2 (HL.out.1 _ HV.out.1).rd (by simp; have := HL.out.2.2.1; omega) ?_; intro v' w5 hown hgrow hloc; rw [List.nil_append] at hown; have HN := Lib.hid (And.intro hown (And.intro (bd_grown HV.out.2.1 HV.out.2.2.1 HV.out.2.2.2 hgrow) (show w.heap.size ≤ w5.heap.size from Nat.le_trans HV.out.2.2.2 hgrow.size))); obtain ⟨xa, xc, rfl, -⟩ := hown.form; clear hown hgrow hloc)
    have HM := Lib.hid (hv0.out.below HN.out.2.1)
    go_wp2_with (at_builtin; refine wpList_append_els avK rfl _ _ 24 24 rfl uAv uAv w.heap.size (.slice xa A1.length xc) (.slice a2 A2.length c2) A1 A2 rfl rfl HN.out.1 HN.out.2.2 (HL.out.2.1 _ HM.out).rd (by have h1 := HL.out.2.2.1; have h2 := HL.out.2.2.2; omega) ?_; intro v' w6 hown hgrow hloc; rw [HA3.out] at hown; have HN2 := Lib.hid (And.intro hown (bd_grown HN.out.2.1 HN.out.1 HN.out.2.2 hgrow)); obtain ⟨ya, yc, rfl, -⟩ := hown.form; clear hown hgrow hloc)
    go_ret2
    exact ⟨_, rfl, HN2.out.1, HN2.out.2⟩
end Go.Proofs.Ytmfbhejclmelaaa
