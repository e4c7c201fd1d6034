import Derived.Test.YtnlbeoifmdfbjaaDoorSgb
import Derived.Test.YtnlbeoifmdfbjaaDoorSoe
namespace Go.Proofs.YtnlbeoifmdfbjaaDoor
open Go.RowKit
attribute [-go_sem] loadCells loadCellsFrom

theorem lim_ne (n most : Int) (w : Int) (h0 : 1 ≤ w ∧ w ≤ 6) (hm : most < 256) : (¬ limTx n most w = ⟨#[]⟩) ↔ (0 ≤ n ∧ n ≤ most) := by
  unfold limTx
  by_cases h : most < n
  · rw [if_pos h]
    exact ⟨fun h2 => absurd rfl h2, fun h2 => by omega⟩
  · rw [if_neg h, num_ne]
    have e : (256 : Int) ≤ 256 ^ w.toNat := by
      have h1 : (256 : Nat) ^ 1 ≤ 256 ^ w.toNat := Nat.pow_le_pow_right (by omega) (by omega)
      have e2 : ((256 : Int) ^ w.toNat) = ((256 ^ w.toNat : Nat) : Int) := by rw [Int.natCast_pow]; rfl
      rw [e2]
      omega
    constructor
    · rintro ⟨-, -, h1, -⟩; omega
    · rintro ⟨h1, h2⟩; omega

theorem good_iff (x : Sv) : segGood x ↔ ((¬ numText x.frm 4 = ⟨#[]⟩) ∧ (¬ numText x.to 4 = ⟨#[]⟩) ∧ (¬ numText x.port 2 = ⟨#[]⟩) ∧ (¬ numText x.peer 2 = ⟨#[]⟩) ∧ (¬ numText x.seq 4 = ⟨#[]⟩) ∧ (¬ numText x.ack 4 = ⟨#[]⟩) ∧ (0 ≤ x.flags ∧ x.flags ≤ 15) ∧ (¬ (4 : Int) < (x.opts.length : Int)) ∧ (¬ (120 : Int) < (x.data.size : Int)) ∧ ∀ o ∈ x.opts, ¬ optTx o = ⟨#[]⟩) := by
  have e1 := lim_ne x.flags 15 1 (by decide) (by decide)
  have e2 := lim_ne (x.opts.length : Int) 4 1 (by decide) (by decide)
  have e3 := lim_ne (x.data.size : Int) 120 2 (by decide) (by decide)
  unfold segGood segParts headParts
  constructor
  · intro h
    refine ⟨h _ (by simp), h _ (by simp), h _ (by simp), h _ (by simp), h _ (by simp), h _ (by simp), e1.1 (h _ (by simp)), ?_, ?_, fun o ho => h _ (by simp only [List.mem_append, List.mem_map]; exact .inl (.inr ⟨o, ho, rfl⟩))⟩
    · have := e2.1 (h _ (by simp)); omega
    · have := e3.1 (h _ (by simp)); omega
  · rintro ⟨h0, h1, h2, h3, h4, h5, h6, h7, h8, h9⟩ p hp
    simp only [List.mem_append, List.mem_cons, List.not_mem_nil, or_false, List.mem_map] at hp
    rcases hp with ((rfl | rfl | rfl | rfl | rfl | rfl | rfl | rfl) | ⟨o, ho, rfl⟩) | rfl
    · exact h0
    · exact h1
    · exact h2
    · exact h3
    · exact h4
    · exact h5
    · exact e1.2 h6
    · exact e2.2 (by omega)
    · exact h9 o ho
    · exact e3.2 (by omega)

def segB (x : Sv) : Bool := !decide (placeOf (segParts x) ⟨#[]⟩ < (segParts x).length)
theorem segB_iff (x : Sv) : segB x = true ↔ segGood x := by
  unfold segB
  rw [segGood_iff]
  simp
theorem segB_no (x : Sv) (h : ¬ segGood x) : segB x = false := by
  cases hb : segB x with
  | false => rfl
  | true => exact absurd ((segB_iff x).1 hb) h

set_option maxRecDepth 100000 in
set_option maxHeartbeats 8000000 in
theorem spec_segOk (x : Sv) (v : Value) (w : World) (hv : RdO w v x.opts) (hn : x.opts.length ≤ 1048576) (hd : x.data.size ≤ 1048576) (hbig : ∀ o ∈ x.opts, o.ids.length ≤ 1048576) :
    Calls Tryd.prog 5 #[.agg (x.cells v)] w fun e w' => e = .returned (.bool (segB x)) ∧ Below w.heap.size w w' := by
  obtain ⟨va, vc, rfl⟩ : ∃ a c, v = .slice a x.opts.length c := by obtain ⟨a, c, h, -⟩ := hv; exact ⟨a, c, h⟩
  have hB0 := below_new w (.cells (x.cells (.slice va x.opts.length vc)) 29)
  have hC0 : Cel (w.alloc (.cells (x.cells (.slice va x.opts.length vc)) 29)) w.heap.size 29 (x.cells (.slice va x.opts.length vc)) := Cel.new _ _ _
  obtain ⟨k0, k1, k2, k3, k4, k5, k6, k7, k8, hC, hB⟩ := seg_all (w := w) hC0 hB0
  clear hB0 hC0
  have c0 := fun W => spec_numTextA x.frm 4 W
  have c1 := fun W => spec_numTextA x.to 4 W
  have c2 := fun W => spec_numTextA x.port 2 W
  have c3 := fun W => spec_numTextA x.peer 2 W
  have c4 := fun W => spec_numTextA x.seq 4 W
  have c5 := fun W => spec_numTextA x.ack 4 W
  have c6 := fun W => spec_in x.flags 0 15 W
  have HX0 : (numText x.frm 4 = ⟨#[]⟩ → segB x = false) ∧ (numText x.to 4 = ⟨#[]⟩ → segB x = false) ∧ (numText x.port 2 = ⟨#[]⟩ → segB x = false) ∧ (numText x.peer 2 = ⟨#[]⟩ → segB x = false) ∧ (numText x.seq 4 = ⟨#[]⟩ → segB x = false) ∧ (numText x.ack 4 = ⟨#[]⟩ → segB x = false) ∧ ((¬ (0 ≤ x.flags ∧ x.flags ≤ 15)) → segB x = false) ∧ ((4 : Int) < (x.opts.length : Int) → segB x = false) ∧ ((120 : Int) < (x.data.size : Int) → segB x = false) ∧ ((¬ ∀ o ∈ x.opts, ¬ optTx o = ⟨#[]⟩) → segB x = false) :=
    ⟨fun h => segB_no x fun g => ((good_iff x).1 g).1 h, fun h => segB_no x fun g => ((good_iff x).1 g).2.1 h, fun h => segB_no x fun g => ((good_iff x).1 g).2.2.1 h, fun h => segB_no x fun g => ((good_iff x).1 g).2.2.2.1 h, fun h => segB_no x fun g => ((good_iff x).1 g).2.2.2.2.1 h, fun h => segB_no x fun g => ((good_iff x).1 g).2.2.2.2.2.1 h, fun h => segB_no x fun g => h ((good_iff x).1 g).2.2.2.2.2.2.1, fun h => segB_no x fun g => ((good_iff x).1 g).2.2.2.2.2.2.2.1 h, fun h => segB_no x fun g => ((good_iff x).1 g).2.2.2.2.2.2.2.2.1 h, fun h => segB_no x fun g => h ((good_iff x).1 g).2.2.2.2.2.2.2.2.2⟩
  have HG0 := fun h => (segB_iff x).2 ((good_iff x).2 h)
  have HX := Lib.hid HX0
  have HG := Lib.hid HG0
  clear HX0 HG0
  generalize segB x = sb at *
  generalize numText x.frm 4 = tf at *
  generalize numText x.to 4 = tt at *
  generalize numText x.port 2 = tp at *
  generalize numText x.peer 2 = tq at *
  generalize numText x.seq 4 = ts at *
  generalize numText x.ack 4 = ta at *
  by_cases h0 : tf = ⟨#[]⟩
  · have HN := Lib.hid (HX.out.1 h0)
    have z0 : tf.toList.isEmpty = true := by rw [empty_b1, decide_eq_true h0]
    have y0 : tf.toList = [] := by simpa using z0
    clear h0 HX
    go_enter Tryd.func5, Tryd.ntmps5
    go_wp2_with (fail)
    with_reducible refine (c0 _).mono ?_
    rintro e w1 ⟨rfl, hb1⟩
    have S0 := seg_all (w := w) (hC.kept hb1) (Below.then_ hB hb1)
    clear k0 k1 k2 k3 k4 k5 k6 k7 k8 hC hB hb1
    obtain ⟨k0, k1, k2, k3, k4, k5, k6, k7, k8, hC, hB⟩ := S0
    go_wp2_with (fail)
    go_ret
    exact ⟨by rw [HN.out]; rfl, hB⟩
  have z0 : tf.toList.isEmpty = false := by rw [empty_b1, decide_eq_false h0]
  have y0 : ¬ tf.toList = [] := fun h => by rw [h] at z0; cases z0
  by_cases h1 : tt = ⟨#[]⟩
  · have HN := Lib.hid (HX.out.2.1 h1)
    have z1 : tt.toList.isEmpty = true := by rw [empty_b1, decide_eq_true h1]
    have y1 : tt.toList = [] := by simpa using z1
    clear h1 HX
    go_enter Tryd.func5, Tryd.ntmps5
    go_wp2_with (fail)
    with_reducible refine (c0 _).mono ?_
    rintro e w1 ⟨rfl, hb1⟩
    have S0 := seg_all (w := w) (hC.kept hb1) (Below.then_ hB hb1)
    clear k0 k1 k2 k3 k4 k5 k6 k7 k8 hC hB hb1
    obtain ⟨k0, k1, k2, k3, k4, k5, k6, k7, k8, hC, hB⟩ := S0
    go_wp2_with (fail)
    with_reducible refine (c1 _).mono ?_
    rintro e w2 ⟨rfl, hb2⟩
    have S1 := seg_all (w := w) (hC.kept hb2) (Below.then_ hB hb2)
    clear k0 k1 k2 k3 k4 k5 k6 k7 k8 hC hB hb2
    obtain ⟨k0, k1, k2, k3, k4, k5, k6, k7, k8, hC, hB⟩ := S1
    go_wp2_with (fail)
    go_ret
    exact ⟨by rw [HN.out]; rfl, hB⟩
  have z1 : tt.toList.isEmpty = false := by rw [empty_b1, decide_eq_false h1]
  have y1 : ¬ tt.toList = [] := fun h => by rw [h] at z1; cases z1
  by_cases h2 : tp = ⟨#[]⟩
  · have HN := Lib.hid (HX.out.2.2.1 h2)
    have z2 : tp.toList.isEmpty = true := by rw [empty_b1, decide_eq_true h2]
    have y2 : tp.toList = [] := by simpa using z2
    clear h2 HX
    go_enter Tryd.func5, Tryd.ntmps5
    go_wp2_with (fail)
    with_reducible refine (c0 _).mono ?_
    rintro e w1 ⟨rfl, hb1⟩
    have S0 := seg_all (w := w) (hC.kept hb1) (Below.then_ hB hb1)
    clear k0 k1 k2 k3 k4 k5 k6 k7 k8 hC hB hb1
    obtain ⟨k0, k1, k2, k3, k4, k5, k6, k7, k8, hC, hB⟩ := S0
    go_wp2_with (fail)
    with_reducible refine (c1 _).mono ?_
    rintro e w2 ⟨rfl, hb2⟩
    have S1 := seg_all (w := w) (hC.kept hb2) (Below.then_ hB hb2)
    clear k0 k1 k2 k3 k4 k5 k6 k7 k8 hC hB hb2
    obtain ⟨k0, k1, k2, k3, k4, k5, k6, k7, k8, hC, hB⟩ := S1
    go_wp2_with (fail)
    with_reducible refine (c2 _).mono ?_
    rintro e w3 ⟨rfl, hb3⟩
    have S2 := seg_all (w := w) (hC.kept hb3) (Below.then_ hB hb3)
    clear k0 k1 k2 k3 k4 k5 k6 k7 k8 hC hB hb3
    obtain ⟨k0, k1, k2, k3, k4, k5, k6, k7, k8, hC, hB⟩ := S2
    go_wp2_with (fail)
    go_ret
    exact ⟨by rw [HN.out]; rfl, hB⟩
  have z2 : tp.toList.isEmpty = false := by rw [empty_b1, decide_eq_false h2]
  have y2 : ¬ tp.toList = [] := fun h => by rw [h] at z2; cases z2
  by_cases h3 : tq = ⟨#[]⟩
  · have HN := Lib.hid (HX.out.2.2.2.1 h3)
    have z3 : tq.toList.isEmpty = true := by rw [empty_b1, decide_eq_true h3]
    have y3 : tq.toList = [] := by simpa using z3
    clear h3 HX
    go_enter Tryd.func5, Tryd.ntmps5
    go_wp2_with (fail)
    with_reducible refine (c0 _).mono ?_
    rintro e w1 ⟨rfl, hb1⟩
    have S0 := seg_all (w := w) (hC.kept hb1) (Below.then_ hB hb1)
    clear k0 k1 k2 k3 k4 k5 k6 k7 k8 hC hB hb1
    obtain ⟨k0, k1, k2, k3, k4, k5, k6, k7, k8, hC, hB⟩ := S0
    go_wp2_with (fail)
    with_reducible refine (c1 _).mono ?_
    rintro e w2 ⟨rfl, hb2⟩
    have S1 := seg_all (w := w) (hC.kept hb2) (Below.then_ hB hb2)
    clear k0 k1 k2 k3 k4 k5 k6 k7 k8 hC hB hb2
    obtain ⟨k0, k1, k2, k3, k4, k5, k6, k7, k8, hC, hB⟩ := S1
    go_wp2_with (fail)
    with_reducible refine (c2 _).mono ?_
    rintro e w3 ⟨rfl, hb3⟩
    have S2 := seg_all (w := w) (hC.kept hb3) (Below.then_ hB hb3)
    clear k0 k1 k2 k3 k4 k5 k6 k7 k8 hC hB hb3
    obtain ⟨k0, k1, k2, k3, k4, k5, k6, k7, k8, hC, hB⟩ := S2
    go_wp2_with (fail)
    with_reducible refine (c3 _).mono ?_
    rintro e w4 ⟨rfl, hb4⟩
    have S3 := seg_all (w := w) (hC.kept hb4) (Below.then_ hB hb4)
    clear k0 k1 k2 k3 k4 k5 k6 k7 k8 hC hB hb4
    obtain ⟨k0, k1, k2, k3, k4, k5, k6, k7, k8, hC, hB⟩ := S3
    go_wp2_with (fail)
    go_ret
    exact ⟨by rw [HN.out]; rfl, hB⟩
  have z3 : tq.toList.isEmpty = false := by rw [empty_b1, decide_eq_false h3]
  have y3 : ¬ tq.toList = [] := fun h => by rw [h] at z3; cases z3
  by_cases h4 : ts = ⟨#[]⟩
  · have HN := Lib.hid (HX.out.2.2.2.2.1 h4)
    have z4 : ts.toList.isEmpty = true := by rw [empty_b1, decide_eq_true h4]
    have y4 : ts.toList = [] := by simpa using z4
    clear h4 HX
    go_enter Tryd.func5, Tryd.ntmps5
    go_wp2_with (fail)
    with_reducible refine (c0 _).mono ?_
    rintro e w1 ⟨rfl, hb1⟩
    have S0 := seg_all (w := w) (hC.kept hb1) (Below.then_ hB hb1)
    clear k0 k1 k2 k3 k4 k5 k6 k7 k8 hC hB hb1
    obtain ⟨k0, k1, k2, k3, k4, k5, k6, k7, k8, hC, hB⟩ := S0
    go_wp2_with (fail)
    with_reducible refine (c1 _).mono ?_
    rintro e w2 ⟨rfl, hb2⟩
    have S1 := seg_all (w := w) (hC.kept hb2) (Below.then_ hB hb2)
    clear k0 k1 k2 k3 k4 k5 k6 k7 k8 hC hB hb2
    obtain ⟨k0, k1, k2, k3, k4, k5, k6, k7, k8, hC, hB⟩ := S1
    go_wp2_with (fail)
    with_reducible refine (c2 _).mono ?_
    rintro e w3 ⟨rfl, hb3⟩
    have S2 := seg_all (w := w) (hC.kept hb3) (Below.then_ hB hb3)
    clear k0 k1 k2 k3 k4 k5 k6 k7 k8 hC hB hb3
    obtain ⟨k0, k1, k2, k3, k4, k5, k6, k7, k8, hC, hB⟩ := S2
    go_wp2_with (fail)
    with_reducible refine (c3 _).mono ?_
    rintro e w4 ⟨rfl, hb4⟩
    have S3 := seg_all (w := w) (hC.kept hb4) (Below.then_ hB hb4)
    clear k0 k1 k2 k3 k4 k5 k6 k7 k8 hC hB hb4
    obtain ⟨k0, k1, k2, k3, k4, k5, k6, k7, k8, hC, hB⟩ := S3
    go_wp2_with (fail)
    with_reducible refine (c4 _).mono ?_
    rintro e w5 ⟨rfl, hb5⟩
    have S4 := seg_all (w := w) (hC.kept hb5) (Below.then_ hB hb5)
    clear k0 k1 k2 k3 k4 k5 k6 k7 k8 hC hB hb5
    obtain ⟨k0, k1, k2, k3, k4, k5, k6, k7, k8, hC, hB⟩ := S4
    go_wp2_with (fail)
    go_ret
    exact ⟨by rw [HN.out]; rfl, hB⟩
  have z4 : ts.toList.isEmpty = false := by rw [empty_b1, decide_eq_false h4]
  have y4 : ¬ ts.toList = [] := fun h => by rw [h] at z4; cases z4
  by_cases h5 : ta = ⟨#[]⟩
  · have HN := Lib.hid (HX.out.2.2.2.2.2.1 h5)
    have z5 : ta.toList.isEmpty = true := by rw [empty_b1, decide_eq_true h5]
    have y5 : ta.toList = [] := by simpa using z5
    clear h5 HX
    go_enter Tryd.func5, Tryd.ntmps5
    go_wp2_with (fail)
    with_reducible refine (c0 _).mono ?_
    rintro e w1 ⟨rfl, hb1⟩
    have S0 := seg_all (w := w) (hC.kept hb1) (Below.then_ hB hb1)
    clear k0 k1 k2 k3 k4 k5 k6 k7 k8 hC hB hb1
    obtain ⟨k0, k1, k2, k3, k4, k5, k6, k7, k8, hC, hB⟩ := S0
    go_wp2_with (fail)
    with_reducible refine (c1 _).mono ?_
    rintro e w2 ⟨rfl, hb2⟩
    have S1 := seg_all (w := w) (hC.kept hb2) (Below.then_ hB hb2)
    clear k0 k1 k2 k3 k4 k5 k6 k7 k8 hC hB hb2
    obtain ⟨k0, k1, k2, k3, k4, k5, k6, k7, k8, hC, hB⟩ := S1
    go_wp2_with (fail)
    with_reducible refine (c2 _).mono ?_
    rintro e w3 ⟨rfl, hb3⟩
    have S2 := seg_all (w := w) (hC.kept hb3) (Below.then_ hB hb3)
    clear k0 k1 k2 k3 k4 k5 k6 k7 k8 hC hB hb3
    obtain ⟨k0, k1, k2, k3, k4, k5, k6, k7, k8, hC, hB⟩ := S2
    go_wp2_with (fail)
    with_reducible refine (c3 _).mono ?_
    rintro e w4 ⟨rfl, hb4⟩
    have S3 := seg_all (w := w) (hC.kept hb4) (Below.then_ hB hb4)
    clear k0 k1 k2 k3 k4 k5 k6 k7 k8 hC hB hb4
    obtain ⟨k0, k1, k2, k3, k4, k5, k6, k7, k8, hC, hB⟩ := S3
    go_wp2_with (fail)
    with_reducible refine (c4 _).mono ?_
    rintro e w5 ⟨rfl, hb5⟩
    have S4 := seg_all (w := w) (hC.kept hb5) (Below.then_ hB hb5)
    clear k0 k1 k2 k3 k4 k5 k6 k7 k8 hC hB hb5
    obtain ⟨k0, k1, k2, k3, k4, k5, k6, k7, k8, hC, hB⟩ := S4
    go_wp2_with (fail)
    with_reducible refine (c5 _).mono ?_
    rintro e w6 ⟨rfl, hb6⟩
    have S5 := seg_all (w := w) (hC.kept hb6) (Below.then_ hB hb6)
    clear k0 k1 k2 k3 k4 k5 k6 k7 k8 hC hB hb6
    obtain ⟨k0, k1, k2, k3, k4, k5, k6, k7, k8, hC, hB⟩ := S5
    go_wp2_with (fail)
    go_ret
    exact ⟨by rw [HN.out]; rfl, hB⟩
  have z5 : ta.toList.isEmpty = false := by rw [empty_b1, decide_eq_false h5]
  have y5 : ¬ ta.toList = [] := fun h => by rw [h] at z5; cases z5
  by_cases h6 : 0 ≤ x.flags ∧ x.flags ≤ 15
  rotate_left
  · have HN := Lib.hid (HX.out.2.2.2.2.2.2.1 h6)
    rw [decide_eq_false h6] at c6
    clear h6 HX
    go_enter Tryd.func5, Tryd.ntmps5
    go_wp2_with (fail)
    with_reducible refine (c0 _).mono ?_
    rintro e w1 ⟨rfl, hb1⟩
    have S0 := seg_all (w := w) (hC.kept hb1) (Below.then_ hB hb1)
    clear k0 k1 k2 k3 k4 k5 k6 k7 k8 hC hB hb1
    obtain ⟨k0, k1, k2, k3, k4, k5, k6, k7, k8, hC, hB⟩ := S0
    go_wp2_with (fail)
    with_reducible refine (c1 _).mono ?_
    rintro e w2 ⟨rfl, hb2⟩
    have S1 := seg_all (w := w) (hC.kept hb2) (Below.then_ hB hb2)
    clear k0 k1 k2 k3 k4 k5 k6 k7 k8 hC hB hb2
    obtain ⟨k0, k1, k2, k3, k4, k5, k6, k7, k8, hC, hB⟩ := S1
    go_wp2_with (fail)
    with_reducible refine (c2 _).mono ?_
    rintro e w3 ⟨rfl, hb3⟩
    have S2 := seg_all (w := w) (hC.kept hb3) (Below.then_ hB hb3)
    clear k0 k1 k2 k3 k4 k5 k6 k7 k8 hC hB hb3
    obtain ⟨k0, k1, k2, k3, k4, k5, k6, k7, k8, hC, hB⟩ := S2
    go_wp2_with (fail)
    with_reducible refine (c3 _).mono ?_
    rintro e w4 ⟨rfl, hb4⟩
    have S3 := seg_all (w := w) (hC.kept hb4) (Below.then_ hB hb4)
    clear k0 k1 k2 k3 k4 k5 k6 k7 k8 hC hB hb4
    obtain ⟨k0, k1, k2, k3, k4, k5, k6, k7, k8, hC, hB⟩ := S3
    go_wp2_with (fail)
    with_reducible refine (c4 _).mono ?_
    rintro e w5 ⟨rfl, hb5⟩
    have S4 := seg_all (w := w) (hC.kept hb5) (Below.then_ hB hb5)
    clear k0 k1 k2 k3 k4 k5 k6 k7 k8 hC hB hb5
    obtain ⟨k0, k1, k2, k3, k4, k5, k6, k7, k8, hC, hB⟩ := S4
    go_wp2_with (fail)
    with_reducible refine (c5 _).mono ?_
    rintro e w6 ⟨rfl, hb6⟩
    have S5 := seg_all (w := w) (hC.kept hb6) (Below.then_ hB hb6)
    clear k0 k1 k2 k3 k4 k5 k6 k7 k8 hC hB hb6
    obtain ⟨k0, k1, k2, k3, k4, k5, k6, k7, k8, hC, hB⟩ := S5
    go_wp2_with (fail)
    with_reducible refine (c6 _).mono ?_
    rintro e w7 ⟨rfl, rfl⟩
    go_wp2_with (fail)
    go_ret
    exact ⟨by rw [HN.out]; rfl, hB⟩
  rw [decide_eq_true h6] at c6
  by_cases h7 : (4 : Int) < (x.opts.length : Int)
  · have HN := Lib.hid (HX.out.2.2.2.2.2.2.2.1 h7)
    clear HX h6
    go_enter Tryd.func5, Tryd.ntmps5
    go_wp2_with (fail)
    with_reducible refine (c0 _).mono ?_
    rintro e w1 ⟨rfl, hb1⟩
    have S0 := seg_all (w := w) (hC.kept hb1) (Below.then_ hB hb1)
    clear k0 k1 k2 k3 k4 k5 k6 k7 k8 hC hB hb1
    obtain ⟨k0, k1, k2, k3, k4, k5, k6, k7, k8, hC, hB⟩ := S0
    go_wp2_with (fail)
    with_reducible refine (c1 _).mono ?_
    rintro e w2 ⟨rfl, hb2⟩
    have S1 := seg_all (w := w) (hC.kept hb2) (Below.then_ hB hb2)
    clear k0 k1 k2 k3 k4 k5 k6 k7 k8 hC hB hb2
    obtain ⟨k0, k1, k2, k3, k4, k5, k6, k7, k8, hC, hB⟩ := S1
    go_wp2_with (fail)
    with_reducible refine (c2 _).mono ?_
    rintro e w3 ⟨rfl, hb3⟩
    have S2 := seg_all (w := w) (hC.kept hb3) (Below.then_ hB hb3)
    clear k0 k1 k2 k3 k4 k5 k6 k7 k8 hC hB hb3
    obtain ⟨k0, k1, k2, k3, k4, k5, k6, k7, k8, hC, hB⟩ := S2
    go_wp2_with (fail)
    with_reducible refine (c3 _).mono ?_
    rintro e w4 ⟨rfl, hb4⟩
    have S3 := seg_all (w := w) (hC.kept hb4) (Below.then_ hB hb4)
    clear k0 k1 k2 k3 k4 k5 k6 k7 k8 hC hB hb4
    obtain ⟨k0, k1, k2, k3, k4, k5, k6, k7, k8, hC, hB⟩ := S3
    go_wp2_with (fail)
    with_reducible refine (c4 _).mono ?_
    rintro e w5 ⟨rfl, hb5⟩
    have S4 := seg_all (w := w) (hC.kept hb5) (Below.then_ hB hb5)
    clear k0 k1 k2 k3 k4 k5 k6 k7 k8 hC hB hb5
    obtain ⟨k0, k1, k2, k3, k4, k5, k6, k7, k8, hC, hB⟩ := S4
    go_wp2_with (fail)
    with_reducible refine (c5 _).mono ?_
    rintro e w6 ⟨rfl, hb6⟩
    have S5 := seg_all (w := w) (hC.kept hb6) (Below.then_ hB hb6)
    clear k0 k1 k2 k3 k4 k5 k6 k7 k8 hC hB hb6
    obtain ⟨k0, k1, k2, k3, k4, k5, k6, k7, k8, hC, hB⟩ := S5
    go_wp2_with (fail)
    with_reducible refine (c6 _).mono ?_
    rintro e w7 ⟨rfl, rfl⟩
    go_wp2_with (fail)
    go_ret
    exact ⟨by rw [HN.out]; rfl, hB⟩
  by_cases h8 : (120 : Int) < (x.data.size : Int)
  · have HN := Lib.hid (HX.out.2.2.2.2.2.2.2.2.1 h8)
    clear HX h6
    go_enter Tryd.func5, Tryd.ntmps5
    go_wp2_with (fail)
    with_reducible refine (c0 _).mono ?_
    rintro e w1 ⟨rfl, hb1⟩
    have S0 := seg_all (w := w) (hC.kept hb1) (Below.then_ hB hb1)
    clear k0 k1 k2 k3 k4 k5 k6 k7 k8 hC hB hb1
    obtain ⟨k0, k1, k2, k3, k4, k5, k6, k7, k8, hC, hB⟩ := S0
    go_wp2_with (fail)
    with_reducible refine (c1 _).mono ?_
    rintro e w2 ⟨rfl, hb2⟩
    have S1 := seg_all (w := w) (hC.kept hb2) (Below.then_ hB hb2)
    clear k0 k1 k2 k3 k4 k5 k6 k7 k8 hC hB hb2
    obtain ⟨k0, k1, k2, k3, k4, k5, k6, k7, k8, hC, hB⟩ := S1
    go_wp2_with (fail)
    with_reducible refine (c2 _).mono ?_
    rintro e w3 ⟨rfl, hb3⟩
    have S2 := seg_all (w := w) (hC.kept hb3) (Below.then_ hB hb3)
    clear k0 k1 k2 k3 k4 k5 k6 k7 k8 hC hB hb3
    obtain ⟨k0, k1, k2, k3, k4, k5, k6, k7, k8, hC, hB⟩ := S2
    go_wp2_with (fail)
    with_reducible refine (c3 _).mono ?_
    rintro e w4 ⟨rfl, hb4⟩
    have S3 := seg_all (w := w) (hC.kept hb4) (Below.then_ hB hb4)
    clear k0 k1 k2 k3 k4 k5 k6 k7 k8 hC hB hb4
    obtain ⟨k0, k1, k2, k3, k4, k5, k6, k7, k8, hC, hB⟩ := S3
    go_wp2_with (fail)
    with_reducible refine (c4 _).mono ?_
    rintro e w5 ⟨rfl, hb5⟩
    have S4 := seg_all (w := w) (hC.kept hb5) (Below.then_ hB hb5)
    clear k0 k1 k2 k3 k4 k5 k6 k7 k8 hC hB hb5
    obtain ⟨k0, k1, k2, k3, k4, k5, k6, k7, k8, hC, hB⟩ := S4
    go_wp2_with (fail)
    with_reducible refine (c5 _).mono ?_
    rintro e w6 ⟨rfl, hb6⟩
    have S5 := seg_all (w := w) (hC.kept hb6) (Below.then_ hB hb6)
    clear k0 k1 k2 k3 k4 k5 k6 k7 k8 hC hB hb6
    obtain ⟨k0, k1, k2, k3, k4, k5, k6, k7, k8, hC, hB⟩ := S5
    go_wp2_with (fail)
    with_reducible refine (c6 _).mono ?_
    rintro e w7 ⟨rfl, rfl⟩
    go_wp2_with (fail)
    go_ret
    exact ⟨by rw [HN.out]; rfl, hB⟩
  go_enter Tryd.func5, Tryd.ntmps5
  go_wp2_with (fail)
  with_reducible refine (c0 _).mono ?_
  rintro e w1 ⟨rfl, hb1⟩
  have S0 := seg_all (w := w) (hC.kept hb1) (Below.then_ hB hb1)
  clear k0 k1 k2 k3 k4 k5 k6 k7 k8 hC hB hb1
  obtain ⟨k0, k1, k2, k3, k4, k5, k6, k7, k8, hC, hB⟩ := S0
  go_wp2_with (fail)
  with_reducible refine (c1 _).mono ?_
  rintro e w2 ⟨rfl, hb2⟩
  have S1 := seg_all (w := w) (hC.kept hb2) (Below.then_ hB hb2)
  clear k0 k1 k2 k3 k4 k5 k6 k7 k8 hC hB hb2
  obtain ⟨k0, k1, k2, k3, k4, k5, k6, k7, k8, hC, hB⟩ := S1
  go_wp2_with (fail)
  with_reducible refine (c2 _).mono ?_
  rintro e w3 ⟨rfl, hb3⟩
  have S2 := seg_all (w := w) (hC.kept hb3) (Below.then_ hB hb3)
  clear k0 k1 k2 k3 k4 k5 k6 k7 k8 hC hB hb3
  obtain ⟨k0, k1, k2, k3, k4, k5, k6, k7, k8, hC, hB⟩ := S2
  go_wp2_with (fail)
  with_reducible refine (c3 _).mono ?_
  rintro e w4 ⟨rfl, hb4⟩
  have S3 := seg_all (w := w) (hC.kept hb4) (Below.then_ hB hb4)
  clear k0 k1 k2 k3 k4 k5 k6 k7 k8 hC hB hb4
  obtain ⟨k0, k1, k2, k3, k4, k5, k6, k7, k8, hC, hB⟩ := S3
  go_wp2_with (fail)
  with_reducible refine (c4 _).mono ?_
  rintro e w5 ⟨rfl, hb5⟩
  have S4 := seg_all (w := w) (hC.kept hb5) (Below.then_ hB hb5)
  clear k0 k1 k2 k3 k4 k5 k6 k7 k8 hC hB hb5
  obtain ⟨k0, k1, k2, k3, k4, k5, k6, k7, k8, hC, hB⟩ := S4
  go_wp2_with (fail)
  with_reducible refine (c5 _).mono ?_
  rintro e w6 ⟨rfl, hb6⟩
  have S5 := seg_all (w := w) (hC.kept hb6) (Below.then_ hB hb6)
  clear k0 k1 k2 k3 k4 k5 k6 k7 k8 hC hB hb6
  obtain ⟨k0, k1, k2, k3, k4, k5, k6, k7, k8, hC, hB⟩ := S5
  go_wp2_with (fail)
  with_reducible refine (c6 _).mono ?_
  rintro e w7 ⟨rfl, rfl⟩
  go_wp2_with (fail)
  go_loopw [3] (fun i wr => ∃ k : Nat, k ≤ x.opts.length ∧ i = .int .i64 k ∧ (∀ o ∈ x.opts.take k, ¬ optTx o = ⟨#[]⟩) ∧ Cel wr w.heap.size 29 (x.cells (.slice va x.opts.length vc)) ∧ Below w.heap.size w wr) (fun i _ => x.opts.length - (intOf i).toNat)
  case atStart => exact ⟨0, by omega, rfl, by simp, hC, hB⟩
  case round =>
    clear hC hB k0 k1 k2 k3 k4 k5 k6 k7 k8
    obtain ⟨k, hk, rfl, hne, hC, hB⟩ := hrel
    have k7 := (hC.cell 7).trans (x.ats _).2.2.2.2.2.2.2.1
    by_cases hlt : k < x.opts.length
    · have q : (k : Int) < (x.opts.length : Int) := by omega
      have q2 : (0 : Int) ≤ (k : Int) := by omega
      obtain ⟨_, _, he, h⟩ := hv.below hB
      injection he with e1 e2 e3
      subst e1 e3
      obtain ⟨b, off, ha, h3⟩ := h (by omega)
      subst ha
      obtain ⟨u, r1, r2⟩ := h3 k hlt
      clear h3 h
      have ld := r1.load
      have co := spec_optOk x.opts[k] u wr r2 (hbig _ (List.getElem_mem hlt))
      have hmem := List.getElem_mem hlt
      have hsn : x.opts.take (k + 1) = x.opts.take k ++ [x.opts[k]] := List.take_succ_eq_append_getElem hlt
      generalize x.opts[k] = o at *
      by_cases ho : optTx o = ⟨#[]⟩
      · rw [decide_eq_true ho] at co
        have HN := Lib.hid (HX.out.2.2.2.2.2.2.2.2.2 (fun h => h o hmem ho))
        clear hne hsn HX HG
        go_wp2_with (fail)
        with_reducible refine co.mono ?_
        rintro e w2 ⟨rfl, hb2⟩
        go_wp2_with (fail)
        go_ret
        exact ⟨by rw [HN.out]; rfl, Below.then_ hB hb2⟩
      · rw [decide_eq_false ho] at co
        have HS := Lib.hid (And.intro hsn ho)
        clear hsn ho
        go_wp2_with (fail)
        with_reducible refine co.mono ?_
        rintro e w2 ⟨rfl, hb2⟩
        have hC2 := hC.kept hb2
        have hB2 := Below.then_ hB hb2
        clear hC hB hb2 ld co k7 r1 r2
        go_wp2_with (fail)
        go_roundw
        case rel =>
          obtain ⟨hsn, ho⟩ := HS.out
          refine ⟨k + 1, by omega, by go_num, fun o' ho' => ?_, hC2, hB2⟩
          rw [hsn] at ho'
          rcases List.mem_append.1 ho' with h | h
          · exact hne o' h
          · rw [List.mem_singleton.1 h]; exact ho
        case measure => simp [intOf]; omega
    · obtain rfl : k = x.opts.length := by omega
      have q : ¬ (x.opts.length : Int) < (x.opts.length : Int) := by omega
      rw [List.take_length] at hne
      have HS := Lib.hid (HG.out ⟨h0, h1, h2, h3, h4, h5, h6, h7, h8, hne⟩)
      clear hne HG HX h0 h1 h2 h3 h4 h5
      go_wp2_with (fail)
      go_ret
      exact ⟨by rw [HS.out]; rfl, hB⟩

theorem app_nil2 (a : ByteArray) : a ++ (⟨#[]⟩ : ByteArray) = a := by
  apply ByteArray.ext
  simp [ByteArray.data_append]

theorem lim_in (n most w : Int) (h : n ≤ most) : limTx n most w = numText n w := by
  unfold limTx
  rw [if_neg (by omega)]

theorem join_seg (x : Sv) : joinOf (segParts x) = (joinOf (headParts x) ++ joinOf (x.opts.map optTx)) ++ limTx (x.data.size : Int) 120 2 := by
  unfold segParts
  apply ByteArray.ext
  apply Array.toList_inj.1
  simp [joinOf]
theorem join_eight (a b c d e f g h : ByteArray) : joinOf [a, b, c, d, e, f, g, h] = a ++ b ++ c ++ d ++ e ++ f ++ g ++ h := by
  apply ByteArray.ext
  apply Array.toList_inj.1
  simp [joinOf]

end Go.Proofs.YtnlbeoifmdfbjaaDoor
