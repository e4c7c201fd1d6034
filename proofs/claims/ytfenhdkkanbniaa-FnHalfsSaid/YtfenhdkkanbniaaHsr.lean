import Derived.Test.YtfenhdkkanbniaaHsp
import Derived.Test.YtfenhdkkanbniaaHmk
namespace Go.Proofs.Ytfenhdkkanbniaa
open Go.RowKit

theorem drop_out {hs : List Hv} {r : Rv} (h : ¬ plH r hs < hs.length) : dropH hs r = hs := by
  have := plH_le r hs
  unfold dropH
  rw [show plH r hs = hs.length by omega, List.take_length, List.drop_eq_nil_of_le (by omega), List.append_nil]

set_option maxRecDepth 100000 in
set_option maxHeartbeats 4000000 in
theorem spec_dropHalf (v : Value) (hs : List Hv) (r : Rv) (B C : Nat) (w : World) (hv : LieE hvK w B C v hs) (hn : hs.length ≤ 1048576) :
    Calls Try.prog 27 #[v, .agg #[.int .i64 r.own, .int .i64 r.far, .int .i64 r.port]] w fun e w' => ∃ u, e = .returned u ∧ OwnH w' w.heap.size w'.heap.size u (dropH hs r) ∧ Below w.heap.size w w' := by
  have hbx := below_rv w r
  obtain ⟨c0, c1, c2⟩ := cel3r (Cel.new w 26 #[.int .i64 r.own, .int .i64 r.far, .int .i64 r.port])
  obtain ⟨a, c, rfl, hac⟩ := hv.form
  have cA := fun W h => spec_halfAt (.slice a hs.length c) hs r W h (by omega)
  have hv9 := hv
  have HV := Lib.hid (And.intro (hv.below hbx) hbx)
  obtain ⟨os, hos⟩ : ∃ os, dropH hs r = os := ⟨_, rfl⟩
  rw [hos]
  have HOS := Lib.hid hos
  clear hbx hv hos
  go_enter Try.func27, Try.ntmps27
  go_upto_region 1 with (fail)
  generalize (w.alloc (.cells #[.int .i64 r.own, .int .i64 r.far, .int .i64 r.port] 26)) = w0 at *
  go_wp2_with (fail)
  with_reducible refine (cA _ HV.out.1.rd).mono ?_
  rintro e w2 ⟨rfl, hb2⟩
  have HX := Lib.hid (And.intro (HV.out.1.below hb2) (Below.then_ HV.out.2 hb2))
  clear HV hb2 cA c0 c1 c2
  by_cases hp : plH r hs < hs.length
  · rw [atH_in hp]
    have hos := HOS.out
    unfold dropH at hos
    clear HOS
    generalize plH r hs = k at *
    have HOS := Lib.hid hos
    clear hos
    have q : (0 : Int) ≤ (k : Int) ∧ (k : Int) < (hs.length : Int) := by omega
    obtain ⟨a1, s1, s1'⟩ := LieE.cut_to uHv HX.out.1 k (by omega)
    obtain ⟨a2, c2, s2, -, s2'⟩ := LieE.cut_from uHv HX.out.1 (k + 1) (by omega)
    have e1 : IntKind.i64.wrap ((k : Int) + 1) = ((k + 1 : Nat) : Int) := by rw [IntWalk.i64_in _ (by omega)]; omega
    have hl1 : (hs.take k).length = k := by rw [List.length_take]; omega
    have hE : OwnH (w2.alloc (.cells #[] 28)) w.heap.size (w2.alloc (.cells #[] 28)).heap.size (.slice (some ⟨w2.heap.size, 0, none⟩) 0 0) [] := (eown_empty hvK w2).mono HX.out.2.size (Nat.le_refl _)
    have HE := Lib.hid (And.intro hE (And.intro (s1' _ (HX.out.1.below (below_new w2 (.cells #[] 28)))) (And.intro (HX.out.1.below (below_new w2 (.cells #[] 28))) (And.intro (Below.then_ HX.out.2 (below_new w2 (.cells #[] 28))) s2'))))
    have hl2 : (hs.drop (k + 1)).length ≤ 1048576 := by rw [List.length_drop]; omega
    have hos := HOS.out
    generalize (hs.drop (k + 1)) = ds at *
    have HOS2 := Lib.hid hos
    clear HOS hos
    generalize ((k + 1 : Nat) : Int) = k1 at *
    clear hE s1' s2' hp HX
    go_upto_region 5 with (at_builtin; go_loud (refine wpList_append_els hvK rfl _ _ 24 24 rfl uHv uHv w.heap.size (.slice (some ⟨w2.heap.size, 0, none⟩) 0 0) _ [] (hs.take k) rfl rfl HE.out.1 HE.out.2.2.2.1.size (HE.out.2.1.rd) (by simp; omega) ?_; intro v5 w5 hown hgrow hloc; rw [List.nil_append] at hown; have HF := Lib.hid (And.intro hown (And.intro (HE.out.2.2.2.2 w5 (hv9.below (HE.out.2.2.2.1.grown hgrow HE.out.2.2.2.1.size (fun g hg => (HE.out.1.block g hg).1)))) (HE.out.2.2.2.1.grown hgrow HE.out.2.2.2.1.size (fun g hg => (HE.out.1.block g hg).1)))); clear hown hgrow hloc))
    obtain ⟨ya, yc, rfl, -⟩ := HF.out.1.form
    rw [hl1] at HF ⊢
    go_wp2_with (at_builtin; go_loud (refine wpList_append_els hvK rfl _ _ 24 24 rfl uHv uHv w.heap.size (.slice ya k yc) _ (hs.take k) ds rfl rfl HF.out.1 HF.out.2.2.size HF.out.2.1.rd (by rw [hl1]; omega) ?_; intro v6 w6 hown hgrow hloc; rw [HOS2.out] at hown; have HG := Lib.hid (And.intro hown (HF.out.2.2.grown hgrow HF.out.2.2.size (fun g hg => (HF.out.1.block g hg).1))); obtain ⟨ya, yc, rfl, -⟩ := hown.form; clear hown hgrow hloc))
    go_ret
    exact ⟨_, rfl, HG.out.1, HG.out.2⟩
  · rw [atH_out hp]
    have hos := HOS.out
    rw [drop_out hp] at hos
    subst hos
    clear HOS
    have hE : OwnH (w2.alloc (.cells #[] 28)) w.heap.size (w2.alloc (.cells #[] 28)).heap.size (.slice (some ⟨w2.heap.size, 0, none⟩) 0 0) [] := (eown_empty hvK w2).mono HX.out.2.size (Nat.le_refl _)
    have HE := Lib.hid (And.intro hE (And.intro (HX.out.1.below (below_new w2 (.cells #[] 28))).rd (Below.then_ HX.out.2 (below_new w2 (.cells #[] 28)))))
    clear hE hp HX
    go_wp2_with (at_builtin; go_loud (refine wpList_append_els hvK rfl _ _ 24 24 rfl uHv uHv w.heap.size (.slice (some ⟨w2.heap.size, 0, none⟩) 0 0) _ [] hs rfl rfl HE.out.1 HE.out.2.2.size HE.out.2.1 (by simp; omega) ?_; intro v5 w5 hown hgrow hloc; rw [List.nil_append] at hown; have HF := Lib.hid (And.intro hown (HE.out.2.2.grown hgrow HE.out.2.2.size (fun g hg => (HE.out.1.block g hg).1))); obtain ⟨ya, yc, rfl, -⟩ := hown.form; clear hown hgrow hloc))
    go_ret
    exact ⟨_, rfl, HF.out.1, HF.out.2⟩

set_option maxRecDepth 100000 in
set_option maxHeartbeats 2000000 in
theorem spec_younger (v : Value) (hs : List Hv) (n : Int) (w : World) (hv : RdH w v hs) (hn : hs.length ≤ 1048577) :
    Calls Try.prog 28 #[v, .int .i64 n] w fun e w' => ∃ u, e = .returned u ∧ OwnH w' w.heap.size w'.heap.size u (youngH hs n) ∧ Below w.heap.size w w' := by
  obtain ⟨a, c, rfl⟩ := hv.form
  have hO0 : OwnH (w.alloc (.cells #[] 28)) w.heap.size (w.alloc (.cells #[] 28)).heap.size (.slice (some ⟨w.heap.size, 0, none⟩) 0 0) [] := eown_empty hvK w
  have hB0 := below_new w (.cells #[] 28)
  go_enter Try.func28, Try.ntmps28
  go_wp2_with (fail)
  go_loopw [5, 6] (fun u i wr => ∃ k : Nat, k ≤ hs.length ∧ i = .int .i64 k ∧ OwnH wr w.heap.size wr.heap.size u (youngH (hs.take k) n) ∧ Below w.heap.size w wr) (fun _ i _ => hs.length - (intOf i).toNat)
  case atStart => exact ⟨0, by omega, rfl, hO0, hB0⟩
  case round =>
    clear hO0 hB0
    obtain ⟨k, hk, rfl, hO, hB⟩ := hrel
    by_cases hlt : k < hs.length
    · have q : (0 : Int) ≤ (k : Int) ∧ (k : Int) < (hs.length : Int) := by omega
      obtain ⟨b, off, ha, -, k0, k1, k2, k3, k4, k5, k6, k7, -⟩ := hv_at (P := Try.prog) (hv.below hB) k hlt
      subst ha
      have hst : youngH (hs.take (k + 1)) n = youngH (hs.take k) n ++ (if n < hs[k].till then [hs[k]] else []) := by rw [List.take_succ_eq_append_getElem hlt, young_snoc]
      have hle := young_len (hs.take k) n
      rw [List.length_take] at hle
      generalize hs[k] = m at *
      obtain ⟨L', hL'⟩ : ∃ L', youngH (hs.take (k + 1)) n = L' := ⟨_, rfl⟩
      rw [hL'] at hst
      have HLQ := Lib.hid hL'
      clear hL'
      generalize youngH (hs.take k) n = L at *
      obtain ⟨ua, uc, rfl, -⟩ := hO.form
      have hb3 := below_hv wr m
      have HN := Lib.hid (And.intro (hO.full hb3) (And.intro (Below.then_ hB hb3) (And.intro (rd_hvbox (Cel.new wr 28 #[.int .i64 m.road.own, .int .i64 m.road.far, .int .i64 m.road.port, .int .i64 m.theirs, .int .i64 m.mine, .int .i64 m.give, .int .i64 m.take, .int .i64 m.till])) (Below.then_ hB hb3).size)))
      have HX := Lib.hid (And.intro hO hB)
      have HL := Lib.hid hle
      clear hO hB hle hb3
      by_cases hm : n < m.till
      · rw [if_pos hm] at hst
        go_wp2_with (at_builtin; go_loud (refine wpList_append_els hvK rfl _ _ 24 24 rfl uHv uHv w.heap.size _ (.slice (some ⟨wr.heap.size, 0, none⟩) 1 1) L [m] rfl rfl HN.out.1 HN.out.2.2.2 HN.out.2.2.1 (by have := HL.out; simp; omega) ?_; intro u' w3 hown hgrow hloc; have HM := Lib.hid (And.intro hown (HN.out.2.1.grown hgrow HN.out.2.2.2 (fun g hg => (HN.out.1.block g hg).1))); rw [← hst] at HM; clear hown hgrow hloc))
        obtain ⟨ua2, uc2, rfl, -⟩ := HM.out.1.form
        go_wp2_with (fail)
        go_roundw
        case rel => exact ⟨k + 1, by omega, by go_num, by rw [HLQ.out]; exact HM.out.1, HM.out.2⟩
        case measure => simp [intOf]; omega
      · rw [if_neg hm, List.append_nil] at hst
        subst hst
        go_wp2_with (fail)
        go_roundw
        case rel => exact ⟨k + 1, by omega, by go_num, by rw [HLQ.out]; exact HX.out.1, HX.out.2⟩
        case measure => simp [intOf]; omega
    · obtain rfl : k = hs.length := by omega
      have q : ¬ (hs.length : Int) < (hs.length : Int) := by omega
      rw [List.take_length] at hO
      have HX := Lib.hid (And.intro hO hB)
      obtain ⟨ua, uc, rfl, -⟩ := hO.form
      clear hO hB hv
      go_wp2_with (fail)
      go_ret
      exact ⟨_, rfl, HX.out.1, HX.out.2⟩
end Go.Proofs.Ytfenhdkkanbniaa
