import Derived.Test.YtoeflkmhofkiaaaHco
import Derived.Test.YtoeflkmhofkiaaaHia
import Derived.Test.YtoeflkmhofkiaaaHsr
import Derived.StillTailTactics
namespace Go.Proofs.Ytoeflkmhofkiaaa
open Go.RowKit
set_option maxRecDepth 100000

set_option maxRecDepth 100000 in
set_option maxHeartbeats 4000000 in
theorem impl_dropHalf (v : Value) (hs : List Hv) (r : Rv) (B C : Nat) (w : World) (hv : LieE hvK w B C v hs) (hn : hs.length ≤ 1048576) :
    Calls Try.prog 17 #[v, .agg #[.int .i64 r.own, .int .i64 r.far, .int .i64 r.port]] w fun e w' => ∃ u, e = .returned u ∧ OwnH w' w.heap.size w'.heap.size u (dropH hs r) ∧ Below w.heap.size w w' := by
  have hbx := below_rv w r
  obtain ⟨c0, c1, c2⟩ := cel3r (Cel.new w 26 #[.int .i64 r.own, .int .i64 r.far, .int .i64 r.port])
  obtain ⟨a, c, rfl, hac⟩ := hv.form
  have cA := fun W h => impl_halfAt (.slice a hs.length c) hs r W h (by omega)
  have HV := Lib.hid (And.intro (hv.below hbx) hbx)
  obtain ⟨os, hos⟩ : ∃ os, dropH hs r = os := ⟨_, rfl⟩
  rw [hos]
  have HOS := Lib.hid hos
  clear hbx hv hos
  go_enter Try.func17, Try.ntmps17
  go_upto_region 1 with (fail)
  generalize (w.alloc (.cells #[.int .i64 r.own, .int .i64 r.far, .int .i64 r.port] 26)) = w0 at *
  go_wp2_with (fail)
  with_reducible refine (cA _ HV.out.1.rd).mono ?_
  rintro e w2 ⟨rfl, hb2⟩
  have HX := Lib.hid (And.intro (HV.out.1.below hb2) (Below.then_ HV.out.2 hb2))
  clear HV hb2 cA c0 c1 c2
  by_cases hp : plH r hs < hs.length
  · rw [atH_in hp]
    have hos := HOS.out
    unfold dropH at hos
    clear HOS
    generalize plH r hs = k at *
    have q : (0 : Int) ≤ (k : Int) ∧ (k : Int) < (hs.length : Int) := by omega
    obtain ⟨a1, s1, s1'⟩ := LieE.cut_to uHv HX.out.1 k (by omega)
    obtain ⟨a2, c2, s2, -, s2'⟩ := LieE.cut_from uHv HX.out.1 (k + 1) (by omega)
    have e1 : IntKind.i64.wrap ((k : Int) + 1) = ((k + 1 : Nat) : Int) := by rw [IntWalk.i64_in _ (by omega)]; omega
    have hl1 : (hs.take k).length = k := by rw [List.length_take]; omega
    have hl2 : (hs.drop (k + 1)).length ≤ 1048576 := by rw [List.length_drop]; omega
    have hr1 := (s1' _ HX.out.1).rd
    have hr2 := (s2' _ HX.out.1).rd
    generalize (hs.drop (k + 1)) = ds at *
    generalize ((k + 1 : Nat) : Int) = k1 at *
    have HL := Lib.hid (And.intro hr1 (And.intro hr2 (And.intro HX.out.2 hos)))
    clear s1' s2' hp hr1 hr2 hos HX
    go_wp2_with (fail)
    refine wp_region_still_tail 7 (by kernel_rfl) (by kernel_rfl) ?_
    change wpStill _ _ w2.drew (fun a' => wpList _ _ _ _ a' w2.drew) _ _
    have HD : Hid (RdH w2.drew (.slice a1 k c) (hs.take k) ∧ RdH w2.drew (.slice a2 ds.length c2) ds ∧ Below w.heap.size w w2.drew ∧ hs.take k ++ ds = os) := Lib.hid ⟨HL.out.1, HL.out.2.1, HL.out.2.2.1.drew, HL.out.2.2.2⟩
    clear HL
    generalize w2.drew = w4 at *
    simp only [List.take_succ_cons, List.take_zero, List.drop_succ_cons, List.drop_zero]
    iterate 7 still_step
    refine wpStill_nil ?_
    have hb5 := below_new w4 (.cells #[.slice a1 k c, .slice a2 ds.length c2] 24)
    have cC := hv_concat w4.heap.size (.slice a1 k c) (.slice a2 ds.length c2) (hs.take k) ds _ (Cel.new w4 24 #[.slice a1 k c, .slice a2 ds.length c2]) (HD.out.1.below hb5) (HD.out.2.1.below hb5) (by omega) (by omega)
    have HE := Lib.hid (And.intro (Below.then_ HD.out.2.2.1 hb5) HD.out.2.2.2)
    clear hb5 HD
    go_wp2_with (fail)
    with_reducible refine cC.mono ?_
    rintro e w6 ⟨u, rfl, hO, hb6⟩
    rw [HE.out.2] at hO
    have HF := Lib.hid (And.intro (hO.mono HE.out.1.size (Nat.le_refl _)) (Below.then_ HE.out.1 hb6))
    obtain ⟨ua, uc, rfl, -⟩ := hO.form
    clear hO hb6 HE cC
    go_wp2_with (fail)
    go_ret
    exact ⟨_, rfl, HF.out.1, HF.out.2⟩
  · rw [atH_out hp]
    have hos := HOS.out
    rw [drop_out hp] at hos
    subst hos
    clear HOS
    have HE := Lib.hid (And.intro HX.out.1.rd HX.out.2)
    clear hp HX
    go_wp2_with (at_builtin; go_loud (refine wpList_append_els hvK rfl _ _ 24 24 rfl uHv uHv w.heap.size (.slice none 0 0) _ [] hs rfl rfl OwnE.nil HE.out.2.size HE.out.1 (by simp; omega) ?_; intro v5 w5 hown hgrow hloc; rw [List.nil_append] at hown; have HF := Lib.hid (And.intro hown (HE.out.2.grown hgrow HE.out.2.size (fun g hg => by cases hg))); obtain ⟨ya, yc, rfl, -⟩ := hown.form; clear hown hgrow hloc))
    go_ret
    exact ⟨_, rfl, HF.out.1, HF.out.2⟩
end Go.Proofs.Ytoeflkmhofkiaaa
