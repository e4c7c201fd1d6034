import Derived.Test.YtoeflkmhofkiaaaHim
import Derived.Test.YtoeflkmhofkiaaaHmk
namespace Go.Proofs.Ytoeflkmhofkiaaa
open Go.RowKit
set_option maxRecDepth 100000

set_option maxRecDepth 100000 in
set_option maxHeartbeats 4000000 in
theorem impl_putHalf (v : Value) (hs : List Hv) (m : Hv) (w : World) (hv : RdH w v hs) (hn : hs.length ≤ 1048576) :
    Calls Try.prog 13 #[v, .agg #[.int .i64 m.road.own, .int .i64 m.road.far, .int .i64 m.road.port, .int .i64 m.theirs, .int .i64 m.mine, .int .i64 m.give, .int .i64 m.take, .int .i64 m.till]] w fun e w' => ∃ u, e = .returned (.tuple #[u, .bool (putH hs m).2]) ∧ OwnH w' w.heap.size w'.heap.size u (putH hs m).1 ∧ Below w.heap.size w w' := by
  have hbx := below_hv w m
  have hC0 := Cel.new w 28 #[.int .i64 m.road.own, .int .i64 m.road.far, .int .i64 m.road.port, .int .i64 m.theirs, .int .i64 m.mine, .int .i64 m.give, .int .i64 m.take, .int .i64 m.till]
  obtain ⟨a, c, rfl⟩ := hv.form
  have hv9 := hv
  have cA := fun W h => impl_halfAt (.slice a hs.length c) hs m.road W h (by omega)
  have hol := putGo_len hs m
  obtain ⟨os, hos⟩ : ∃ os, putGo hs m = os := ⟨_, rfl⟩
  have cK := fun u B C W (h : OwnH W B C u os) => impl_halfsOk u os W h.rd (by rw [← hos]; omega)
  obtain ⟨rr, hrr⟩ : ∃ rr, putH hs m = rr := ⟨_, rfl⟩
  rw [hrr]
  unfold putH at hrr
  rw [hos] at hrr hol
  have HRR := Lib.hid (And.intro hrr hos)
  clear hrr hos
  have HS := Lib.hid (And.intro (show OwnH (w.alloc (.cells #[.int .i64 m.road.own, .int .i64 m.road.far, .int .i64 m.road.port, .int .i64 m.theirs, .int .i64 m.mine, .int .i64 m.give, .int .i64 m.take, .int .i64 m.till] 28)) w.heap.size (w.alloc (.cells #[.int .i64 m.road.own, .int .i64 m.road.far, .int .i64 m.road.port, .int .i64 m.theirs, .int .i64 m.mine, .int .i64 m.give, .int .i64 m.take, .int .i64 m.till] 28)).heap.size (.slice none 0 0) [] from OwnE.nil) (And.intro (hv.below hbx) (And.intro hbx hC0)))
  clear hv hbx hC0
  go_enter Try.func13, Try.ntmps13
  go_upto_region 2 with (at_builtin; go_loud (refine wpList_append_els hvK rfl _ _ 24 24 rfl uHv uHv w.heap.size (.slice none 0 0) _ [] hs rfl rfl HS.out.1 HS.out.2.2.1.size HS.out.2.1 (by simp; omega) ?_; intro v1 w1 hown hgrow hloc; rw [List.nil_append] at hown; have HN := Lib.hid (And.intro hown (And.intro (hv9.below (HS.out.2.2.1.grown hgrow HS.out.2.2.1.size (fun g hg => (HS.out.1.block g hg).1))) (And.intro (HS.out.2.2.1.grown hgrow HS.out.2.2.1.size (fun g hg => (HS.out.1.block g hg).1)) (HS.out.2.2.2.grown hgrow (by simp [Value.ownBlock]))))); clear hown hgrow hloc))
  clear HS
  obtain ⟨d0, d1, d2, d3, d4, d5, d6, d7⟩ := cel8hv HN.out.2.2.2
  obtain ⟨va, vc, rfl, hvg⟩ := HN.out.1.form
  go_wp2_with (fail)
  with_reducible refine (cA _ HN.out.2.1).mono ?_
  rintro e w2 ⟨rfl, hb2⟩
  have HX := Lib.hid (And.intro (HN.out.1.full hb2) (And.intro (HN.out.2.1.below hb2) (And.intro (Below.then_ HN.out.2.2.1 hb2) (HN.out.2.2.2.kept hb2))))
  clear HN cA hb2 d0 d1 d2 d3 d4 d5 d6 d7
  obtain ⟨d0, d1, d2, d3, d4, d5, d6, d7⟩ := cel8hv HX.out.2.2.2
  have hB2 := HX.out.2.2.1.size
  by_cases hp : plH m.road hs < hs.length
  · rw [atH_in hp]
    obtain ⟨g, rfl, hg1, hg2⟩ := hvg (by omega)
    have hos : hs.set (plH m.road hs) m = os := by have := HRR.out.2; unfold putGo at this; rwa [if_pos hp] at this
    generalize plH m.road hs = k at *
    have q : (0 : Int) ≤ (k : Int) ∧ (k : Int) < (hs.length : Int) := by omega
    have hth : w2.there g (k * 8) (#[Value.int .i64 m.road.own, .int .i64 m.road.far, .int .i64 m.road.port, .int .i64 m.theirs, .int .i64 m.mine, .int .i64 m.give, .int .i64 m.take, .int .i64 m.till]).size := (hv_own HX.out.1 k hp).2.2.2.2.2.2.2.2.2.2
    have one : (#[Value.int .i64 m.road.own, .int .i64 m.road.far, .int .i64 m.road.port, .int .i64 m.theirs, .int .i64 m.mine, .int .i64 m.give, .int .i64 m.take, .int .i64 m.till]).all (·.oneCell') = true := by simp [Value.oneCell']
    have HO := Lib.hid (And.intro (hos ▸ hv_putC HX.out.1 k hp m) (And.intro (hv9.below (HX.out.2.2.1.trans (esetC_below g w.heap.size hg1 (k * 8) [.int .i64 m.road.own, .int .i64 m.road.far, .int .i64 m.road.port, .int .i64 m.theirs, .int .i64 m.mine, .int .i64 m.give, .int .i64 m.take, .int .i64 m.till] w2))) (HX.out.2.2.1.trans (esetC_below g w.heap.size hg1 (k * 8) [.int .i64 m.road.own, .int .i64 m.road.far, .int .i64 m.road.port, .int .i64 m.theirs, .int .i64 m.mine, .int .i64 m.give, .int .i64 m.take, .int .i64 m.till] w2))))
    have hz := esetC_size g (k * 8) [.int .i64 m.road.own, .int .i64 m.road.far, .int .i64 m.road.port, .int .i64 m.theirs, .int .i64 m.mine, .int .i64 m.give, .int .i64 m.take, .int .i64 m.till] w2
    have hol2 : os.length = hs.length := by rw [← hos, List.length_set]
    clear hos hvg hp HX
    go_upto_region 6 with (with_reducible refine wpList_store_mid rfl 28 _ _ rfl g (k * 8) _ rfl rfl hth (sizeHv _) one ?_)
    clear hth one d0 d1 d2 d3 d4 d5 d6 d7
    generalize w2.setCells g (k * 8) [.int .i64 m.road.own, .int .i64 m.road.far, .int .i64 m.road.port, .int .i64 m.theirs, .int .i64 m.mine, .int .i64 m.give, .int .i64 m.take, .int .i64 m.till] = w3 at *
    have HW : Hid (OwnH w3 w.heap.size w3.heap.size (.slice (some ⟨g, 0, none⟩) hs.length vc) os ∧ RdH w3 (.slice a hs.length c) hs ∧ Below w.heap.size w w3) := Lib.hid ⟨HO.out.1.mono (Nat.le_refl _) (by omega), HO.out.2⟩
    clear HO hz
    generalize (some (⟨g, 0, none⟩ : Addr)) = va at *
    go_wp2_with (fail)
    with_reducible refine (cK _ _ _ _ HW.out.1).mono ?_
    rintro e w4 ⟨rfl, hb4⟩
    have HX4 := Lib.hid (And.intro (HW.out.1.full hb4) (And.intro (HW.out.2.1.below hb4) (Below.then_ HW.out.2.2 hb4)))
    clear HW cK hb4
    cases hk : okH os with
    | true =>
      have hr2 := HRR.out.1
      rw [hk, if_pos rfl] at hr2
      subst hr2
      clear hk
      go_wp2_with (fail)
      go_ret2
      exact ⟨_, rfl, HX4.out.1, HX4.out.2.2⟩
    | false =>
      have hr2 := HRR.out.1
      rw [hk, if_neg (by decide)] at hr2
      subst hr2
      clear hk
      go_wp2_with (at_builtin; go_loud (refine wpList_append_els hvK rfl _ _ 24 24 rfl uHv uHv w.heap.size (.slice none 0 0) _ [] hs rfl rfl OwnE.nil HX4.out.2.2.size HX4.out.2.1 (by simp; omega) ?_; intro v5 w5 hown hgrow hloc; rw [List.nil_append] at hown; have HF := Lib.hid (And.intro hown (HX4.out.2.2.grown hgrow HX4.out.2.2.size (fun g hg => by cases hg))); obtain ⟨ya, yc, rfl, -⟩ := hown.form; clear hown hgrow hloc))
      go_ret2
      exact ⟨_, rfl, HF.out.1, HF.out.2⟩
  · rw [atH_out hp]
    have hos : hs ++ [m] = os := by have := HRR.out.2; unfold putGo at this; rwa [if_neg hp] at this
    have hb3 := below_hv w2 m
    have HN := Lib.hid (And.intro (HX.out.1.full hb3) (And.intro (rd_hvbox (Cel.new w2 28 #[.int .i64 m.road.own, .int .i64 m.road.far, .int .i64 m.road.port, .int .i64 m.theirs, .int .i64 m.mine, .int .i64 m.give, .int .i64 m.take, .int .i64 m.till])) (And.intro (Below.then_ HX.out.2.2.1 hb3) hos)))
    have hle := HN.out.2.2.1.size
    have HL := Lib.hid hle
    clear hos hvg hp HX hb3 hle
    go_upto_region 6 with (at_builtin; go_loud (refine wpList_append_els hvK rfl _ _ 24 24 rfl uHv uHv w.heap.size (.slice va hs.length vc) _ hs [m] rfl rfl HN.out.1 HL.out HN.out.2.1 (by simp; omega) ?_; intro v3 w3 hown hgrow hloc; have HW := Lib.hid (And.intro (HN.out.2.2.2 ▸ hown) (And.intro (hv9.below (HN.out.2.2.1.grown hgrow HL.out (fun g hg => (HN.out.1.block g hg).1))) (HN.out.2.2.1.grown hgrow HL.out (fun g hg => (HN.out.1.block g hg).1)))); clear hown hgrow hloc))
    clear HN HL
    obtain ⟨xa, xc, rfl, -⟩ := HW.out.1.form
    go_wp2_with (fail)
    with_reducible refine (cK _ _ _ _ HW.out.1).mono ?_
    rintro e w4 ⟨rfl, hb4⟩
    have HX4 := Lib.hid (And.intro (HW.out.1.full hb4) (And.intro (HW.out.2.1.below hb4) (Below.then_ HW.out.2.2 hb4)))
    clear HW cK hb4
    cases hk : okH os with
    | true =>
      have hr2 := HRR.out.1
      rw [hk, if_pos rfl] at hr2
      subst hr2
      clear hk
      go_wp2_with (fail)
      go_ret2
      exact ⟨_, rfl, HX4.out.1, HX4.out.2.2⟩
    | false =>
      have hr2 := HRR.out.1
      rw [hk, if_neg (by decide)] at hr2
      subst hr2
      clear hk
      go_wp2_with (at_builtin; go_loud (refine wpList_append_els hvK rfl _ _ 24 24 rfl uHv uHv w.heap.size (.slice none 0 0) _ [] hs rfl rfl OwnE.nil HX4.out.2.2.size HX4.out.2.1 (by simp; omega) ?_; intro v5 w5 hown hgrow hloc; rw [List.nil_append] at hown; have HF := Lib.hid (And.intro hown (HX4.out.2.2.grown hgrow HX4.out.2.2.size (fun g hg => by cases hg))); obtain ⟨ya, yc, rfl, -⟩ := hown.form; clear hown hgrow hloc))
      go_ret2
      exact ⟨_, rfl, HF.out.1, HF.out.2⟩
end Go.Proofs.Ytoeflkmhofkiaaa
