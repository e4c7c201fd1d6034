import Derived.Test.YtnlbeoifmdfbjaaSgb
import Derived.Test.YtnlbeoifmdfbjaaSoe
namespace Go.Proofs.Ytnlbeoifmdfbjaa
open Go.RowKit
attribute [-go_sem] loadCells loadCellsFrom

theorem lim_ne (n most : Int) (w : Int) (h0 : 1 ≤ w ∧ w ≤ 6) (hm : most < 256) : (¬ limTx n most w = ⟨#[]⟩) ↔ (0 ≤ n ∧ n ≤ most) := by
  unfold limTx
  by_cases h : most < n
  · rw [if_pos h]
    exact ⟨fun h2 => absurd rfl h2, fun h2 => by omega⟩
  · rw [if_neg h, num_ne]
    have e : (256 : Int) ≤ 256 ^ w.toNat := by
      have h1 : (256 : Nat) ^ 1 ≤ 256 ^ w.toNat := Nat.pow_le_pow_right (by omega) (by omega)
      have e2 : ((256 : Int) ^ w.toNat) = ((256 ^ w.toNat : Nat) : Int) := by rw [Int.natCast_pow]; rfl
      rw [e2]
      omega
    constructor
    · rintro ⟨-, -, h1, -⟩; omega
    · rintro ⟨h1, h2⟩; omega

theorem good_iff (x : Sv) : segGood x ↔ ((¬ numText x.frm 4 = ⟨#[]⟩) ∧ (¬ numText x.to 4 = ⟨#[]⟩) ∧ (¬ numText x.port 2 = ⟨#[]⟩) ∧ (¬ numText x.peer 2 = ⟨#[]⟩) ∧ (¬ numText x.seq 4 = ⟨#[]⟩) ∧ (¬ numText x.ack 4 = ⟨#[]⟩) ∧ (0 ≤ x.flags ∧ x.flags ≤ 15) ∧ (¬ (4 : Int) < (x.opts.length : Int)) ∧ (¬ (120 : Int) < (x.data.size : Int)) ∧ ∀ o ∈ x.opts, ¬ optTx o = ⟨#[]⟩) := by
  have e1 := lim_ne x.flags 15 1 (by decide) (by decide)
  have e2 := lim_ne (x.opts.length : Int) 4 1 (by decide) (by decide)
  have e3 := lim_ne (x.data.size : Int) 120 2 (by decide) (by decide)
  unfold segGood segParts headParts
  constructor
  · intro h
    refine ⟨h _ (by simp), h _ (by simp), h _ (by simp), h _ (by simp), h _ (by simp), h _ (by simp), e1.1 (h _ (by simp)), ?_, ?_, fun o ho => h _ (by simp only [List.mem_append, List.mem_map]; exact .inl (.inr ⟨o, ho, rfl⟩))⟩
    · have := e2.1 (h _ (by simp)); omega
    · have := e3.1 (h _ (by simp)); omega
  · rintro ⟨h0, h1, h2, h3, h4, h5, h6, h7, h8, h9⟩ p hp
    simp only [List.mem_append, List.mem_cons, List.not_mem_nil, or_false, List.mem_map] at hp
    rcases hp with ((rfl | rfl | rfl | rfl | rfl | rfl | rfl | rfl) | ⟨o, ho, rfl⟩) | rfl
    · exact h0
    · exact h1
    · exact h2
    · exact h3
    · exact h4
    · exact h5
    · exact e1.2 h6
    · exact e2.2 (by omega)
    · exact h9 o ho
    · exact e3.2 (by omega)

def segB (x : Sv) : Bool := !decide (placeOf (segParts x) ⟨#[]⟩ < (segParts x).length)
theorem segB_iff (x : Sv) : segB x = true ↔ segGood x := by
  unfold segB
  rw [segGood_iff]
  simp
theorem segB_no (x : Sv) (h : ¬ segGood x) : segB x = false := by
  cases hb : segB x with
  | false => rfl
  | true => exact absurd ((segB_iff x).1 hb) h

set_option maxRecDepth 100000 in
set_option maxHeartbeats 8000000 in
theorem spec_segOk (x : Sv) (v : Value) (w : World) (hv : RdO w v x.opts) (hn : x.opts.length ≤ 1048576) (hd : x.data.size ≤ 1048576) (hbig : ∀ o ∈ x.opts, o.ids.length ≤ 1048576) :
    Calls Try.prog 68 #[.agg (x.cells v)] w fun e w' => e = .returned (.bool (segB x)) ∧ Below w.heap.size w w' := by
  obtain ⟨va, vc, rfl⟩ : ∃ a c, v = .slice a x.opts.length c := by obtain ⟨a, c, h, -⟩ := hv; exact ⟨a, c, h⟩
  have hB0 := below_new w (.cells (x.cells (.slice va x.opts.length vc)) 36)
  have hC0 : Cel (w.alloc (.cells (x.cells (.slice va x.opts.length vc)) 36)) w.heap.size 36 (x.cells (.slice va x.opts.length vc)) := Cel.new _ _ _
  obtain ⟨k0, k1, k2, k3, k4, k5, k6, k7, k8, hC, hB⟩ := seg_all (w := w) hC0 hB0
  clear hB0 hC0
  have c0 := fun W => spec_numTextA x.frm 4 W
  have c1 := fun W => spec_numTextA x.to 4 W
  have c2 := fun W => spec_numTextA x.port 2 W
  have c3 := fun W => spec_numTextA x.peer 2 W
  have c4 := fun W => spec_numTextA x.seq 4 W
  have c5 := fun W => spec_numTextA x.ack 4 W
  have c6 := fun W => spec_in x.flags 0 15 W
  have HX0 : (numText x.frm 4 = ⟨#[]⟩ → segB x = false) ∧ (numText x.to 4 = ⟨#[]⟩ → segB x = false) ∧ (numText x.port 2 = ⟨#[]⟩ → segB x = false) ∧ (numText x.peer 2 = ⟨#[]⟩ → segB x = false) ∧ (numText x.seq 4 = ⟨#[]⟩ → segB x = false) ∧ (numText x.ack 4 = ⟨#[]⟩ → segB x = false) ∧ ((¬ (0 ≤ x.flags ∧ x.flags ≤ 15)) → segB x = false) ∧ ((4 : Int) < (x.opts.length : Int) → segB x = false) ∧ ((120 : Int) < (x.data.size : Int) → segB x = false) ∧ ((¬ ∀ o ∈ x.opts, ¬ optTx o = ⟨#[]⟩) → segB x = false) :=
    ⟨fun h => segB_no x fun g => ((good_iff x).1 g).1 h, fun h => segB_no x fun g => ((good_iff x).1 g).2.1 h, fun h => segB_no x fun g => ((good_iff x).1 g).2.2.1 h, fun h => segB_no x fun g => ((good_iff x).1 g).2.2.2.1 h, fun h => segB_no x fun g => ((good_iff x).1 g).2.2.2.2.1 h, fun h => segB_no x fun g => ((good_iff x).1 g).2.2.2.2.2.1 h, fun h => segB_no x fun g => h ((good_iff x).1 g).2.2.2.2.2.2.1, fun h => segB_no x fun g => ((good_iff x).1 g).2.2.2.2.2.2.2.1 h, fun h => segB_no x fun g => ((good_iff x).1 g).2.2.2.2.2.2.2.2.1 h, fun h => segB_no x fun g => h ((good_iff x).1 g).2.2.2.2.2.2.2.2.2⟩
  have HG0 := fun h => (segB_iff x).2 ((good_iff x).2 h)
  have HX := Lib.hid HX0
  have HG := Lib.hid HG0
  clear HX0 HG0
  generalize segB x = sb at *
  generalize numText x.frm 4 = tf at *
  generalize numText x.to 4 = tt at *
  generalize numText x.port 2 = tp at *
  generalize numText x.peer 2 = tq at *
  generalize numText x.seq 4 = ts at *
  generalize numText x.ack 4 = ta at *
  by_cases h0 : tf = ⟨#[]⟩
  · have HN := Lib.hid (HX.out.1 h0)
    have z0 : tf.toList.isEmpty = true := by rw [empty_b1, decide_eq_true h0]
    have y0 : tf.toList = [] := by simpa using z0
    clear h0 HX
    go_enter Try.func68, Try.ntmps68
    go_wp2_with (fail)
    with_reducible refine (c0 _).mono ?_
    rintro e w1 ⟨rfl, hb1⟩
    have S0 := seg_all (w := w) (hC.kept hb1) (Below.then_ hB hb1)
    clear k0 k1 k2 k3 k4 k5 k6 k7 k8 hC hB hb1
    obtain ⟨k0, k1, k2, k3, k4, k5, k6, k7, k8, hC, hB⟩ := S0
    go_wp2_with (fail)
    go_ret
    exact ⟨by rw [HN.out]; rfl, hB⟩
  have z0 : tf.toList.isEmpty = false := by rw [empty_b1, decide_eq_false h0]
  have y0 : ¬ tf.toList = [] := fun h => by rw [h] at z0; cases z0
  by_cases h1 : tt = ⟨#[]⟩
  · have HN := Lib.hid (HX.out.2.1 h1)
    have z1 : tt.toList.isEmpty = true := by rw [empty_b1, decide_eq_true h1]
    have y1 : tt.toList = [] := by simpa using z1
    clear h1 HX
    go_enter Try.func68, Try.ntmps68
    go_wp2_with (fail)
    with_reducible refine (c0 _).mono ?_
    rintro e w1 ⟨rfl, hb1⟩
    have S0 := seg_all (w := w) (hC.kept hb1) (Below.then_ hB hb1)
    clear k0 k1 k2 k3 k4 k5 k6 k7 k8 hC hB hb1
    obtain ⟨k0, k1, k2, k3, k4, k5, k6, k7, k8, hC, hB⟩ := S0
    go_wp2_with (fail)
    with_reducible refine (c1 _).mono ?_
    rintro e w2 ⟨rfl, hb2⟩
    have S1 := seg_all (w := w) (hC.kept hb2) (Below.then_ hB hb2)
    clear k0 k1 k2 k3 k4 k5 k6 k7 k8 hC hB hb2
    obtain ⟨k0, k1, k2, k3, k4, k5, k6, k7, k8, hC, hB⟩ := S1
    go_wp2_with (fail)
    go_ret
    exact ⟨by rw [HN.out]; rfl, hB⟩
  have z1 : tt.toList.isEmpty = false := by rw [empty_b1, decide_eq_false h1]
  have y1 : ¬ tt.toList = [] := fun h => by rw [h] at z1; cases z1
  by_cases h2 : tp = ⟨#[]⟩
  · have HN := Lib.hid (HX.out.2.2.1 h2)
    have z2 : tp.toList.isEmpty = true := by rw [empty_b1, decide_eq_true h2]
    have y2 : tp.toList = [] := by simpa using z2
    clear h2 HX
    go_enter Try.func68, Try.ntmps68
    go_wp2_with (fail)
    with_reducible refine (c0 _).mono ?_
    rintro e w1 ⟨rfl, hb1⟩
    have S0 := seg_all (w := w) (hC.kept hb1) (Below.then_ hB hb1)
    clear k0 k1 k2 k3 k4 k5 k6 k7 k8 hC hB hb1
    obtain ⟨k0, k1, k2, k3, k4, k5, k6, k7, k8, hC, hB⟩ := S0
    go_wp2_with (fail)
    with_reducible refine (c1 _).mono ?_
    rintro e w2 ⟨rfl, hb2⟩
    have S1 := seg_all (w := w) (hC.kept hb2) (Below.then_ hB hb2)
    clear k0 k1 k2 k3 k4 k5 k6 k7 k8 hC hB hb2
    obtain ⟨k0, k1, k2, k3, k4, k5, k6, k7, k8, hC, hB⟩ := S1
    go_wp2_with (fail)
    with_reducible refine (c2 _).mono ?_
    rintro e w3 ⟨rfl, hb3⟩
    have S2 := seg_all (w := w) (hC.kept hb3) (Below.then_ hB hb3)
    clear k0 k1 k2 k3 k4 k5 k6 k7 k8 hC hB hb3
    obtain ⟨k0, k1, k2, k3, k4, k5, k6, k7, k8, hC, hB⟩ := S2
    go_wp2_with (fail)
    go_ret
    exact ⟨by rw [HN.out]; rfl, hB⟩
  have z2 : tp.toList.isEmpty = false := by rw [empty_b1, decide_eq_false h2]
  have y2 : ¬ tp.toList = [] := fun h => by rw [h] at z2; cases z2
  by_cases h3 : tq = ⟨#[]⟩
  · have HN := Lib.hid (HX.out.2.2.2.1 h3)
    have z3 : tq.toList.isEmpty = true := by rw [empty_b1, decide_eq_true h3]
    have y3 : tq.toList = [] := by simpa using z3
    clear h3 HX
    go_enter Try.func68, Try.ntmps68
    go_wp2_with (fail)
    with_reducible refine (c0 _).mono ?_
    rintro e w1 ⟨rfl, hb1⟩
    have S0 := seg_all (w := w) (hC.kept hb1) (Below.then_ hB hb1)
    clear k0 k1 k2 k3 k4 k5 k6 k7 k8 hC hB hb1
    obtain ⟨k0, k1, k2, k3, k4, k5, k6, k7, k8, hC, hB⟩ := S0
    go_wp2_with (fail)
    with_reducible refine (c1 _).mono ?_
    rintro e w2 ⟨rfl, hb2⟩
    have S1 := seg_all (w := w) (hC.kept hb2) (Below.then_ hB hb2)
    clear k0 k1 k2 k3 k4 k5 k6 k7 k8 hC hB hb2
    obtain ⟨k0, k1, k2, k3, k4, k5, k6, k7, k8, hC, hB⟩ := S1
    go_wp2_with (fail)
    with_reducible refine (c2 _).mono ?_
    rintro e w3 ⟨rfl, hb3⟩
    have S2 := seg_all (w := w) (hC.kept hb3) (Below.then_ hB hb3)
    clear k0 k1 k2 k3 k4 k5 k6 k7 k8 hC hB hb3
    obtain ⟨k0, k1, k2, k3, k4, k5, k6, k7, k8, hC, hB⟩ := S2
    go_wp2_with (fail)
    with_reducible refine (c3 _).mono ?_
    rintro e w4 ⟨rfl, hb4⟩
    have S3 := seg_all (w := w) (hC.kept hb4) (Below.then_ hB hb4)
    clear k0 k1 k2 k3 k4 k5 k6 k7 k8 hC hB hb4
    obtain ⟨k0, k1, k2, k3, k4, k5, k6, k7, k8, hC, hB⟩ := S3
    go_wp2_with (fail)
    go_ret
    exact ⟨by rw [HN.out]; rfl, hB⟩
  have z3 : tq.toList.isEmpty = false := by rw [empty_b1, decide_eq_false h3]
  have y3 : ¬ tq.toList = [] := fun h => by rw [h] at z3; cases z3
  by_cases h4 : ts = ⟨#[]⟩
  · have HN := Lib.hid (HX.out.2.2.2.2.1 h4)
    have z4 : ts.toList.isEmpty = true := by rw [empty_b1, decide_eq_true h4]
    have y4 : ts.toList = [] := by simpa using z4
    clear h4 HX
    go_enter Try.func68, Try.ntmps68
    go_wp2_with (fail)
    with_reducible refine (c0 _).mono ?_
    rintro e w1 ⟨rfl, hb1⟩
    have S0 := seg_all (w := w) (hC.kept hb1) (Below.then_ hB hb1)
    clear k0 k1 k2 k3 k4 k5 k6 k7 k8 hC hB hb1
    obtain ⟨k0, k1, k2, k3, k4, k5, k6, k7, k8, hC, hB⟩ := S0
    go_wp2_with (fail)
    with_reducible refine (c1 _).mono ?_
    rintro e w2 ⟨rfl, hb2⟩
    have S1 := seg_all (w := w) (hC.kept hb2) (Below.then_ hB hb2)
    clear k0 k1 k2 k3 k4 k5 k6 k7 k8 hC hB hb2
    obtain ⟨k0, k1, k2, k3, k4, k5, k6, k7, k8, hC, hB⟩ := S1
    go_wp2_with (fail)
    with_reducible refine (c2 _).mono ?_
    rintro e w3 ⟨rfl, hb3⟩
    have S2 := seg_all (w := w) (hC.kept hb3) (Below.then_ hB hb3)
    clear k0 k1 k2 k3 k4 k5 k6 k7 k8 hC hB hb3
    obtain ⟨k0, k1, k2, k3, k4, k5, k6, k7, k8, hC, hB⟩ := S2
    go_wp2_with (fail)
    with_reducible refine (c3 _).mono ?_
    rintro e w4 ⟨rfl, hb4⟩
    have S3 := seg_all (w := w) (hC.kept hb4) (Below.then_ hB hb4)
    clear k0 k1 k2 k3 k4 k5 k6 k7 k8 hC hB hb4
    obtain ⟨k0, k1, k2, k3, k4, k5, k6, k7, k8, hC, hB⟩ := S3
    go_wp2_with (fail)
    with_reducible refine (c4 _).mono ?_
    rintro e w5 ⟨rfl, hb5⟩
    have S4 := seg_all (w := w) (hC.kept hb5) (Below.then_ hB hb5)
    clear k0 k1 k2 k3 k4 k5 k6 k7 k8 hC hB hb5
    obtain ⟨k0, k1, k2, k3, k4, k5, k6, k7, k8, hC, hB⟩ := S4
    go_wp2_with (fail)
    go_ret
    exact ⟨by rw [HN.out]; rfl, hB⟩
  have z4 : ts.toList.isEmpty = false := by rw [empty_b1, decide_eq_false h4]
  have y4 : ¬ ts.toList = [] := fun h => by rw [h] at z4; cases z4
  by_cases h5 : ta = ⟨#[]⟩
  · have HN := Lib.hid (HX.out.2.2.2.2.2.1 h5)
    have z5 : ta.toList.isEmpty = true := by rw [empty_b1, decide_eq_true h5]
    have y5 : ta.toList = [] := by simpa using z5
    clear h5 HX
    go_enter Try.func68, Try.ntmps68
    go_wp2_with (fail)
    with_reducible refine (c0 _).mono ?_
    rintro e w1 ⟨rfl, hb1⟩
    have S0 := seg_all (w := w) (hC.kept hb1) (Below.then_ hB hb1)
    clear k0 k1 k2 k3 k4 k5 k6 k7 k8 hC hB hb1
    obtain ⟨k0, k1, k2, k3, k4, k5, k6, k7, k8, hC, hB⟩ := S0
    go_wp2_with (fail)
    with_reducible refine (c1 _).mono ?_
    rintro e w2 ⟨rfl, hb2⟩
    have S1 := seg_all (w := w) (hC.kept hb2) (Below.then_ hB hb2)
    clear k0 k1 k2 k3 k4 k5 k6 k7 k8 hC hB hb2
    obtain ⟨k0, k1, k2, k3, k4, k5, k6, k7, k8, hC, hB⟩ := S1
    go_wp2_with (fail)
    with_reducible refine (c2 _).mono ?_
    rintro e w3 ⟨rfl, hb3⟩
    have S2 := seg_all (w := w) (hC.kept hb3) (Below.then_ hB hb3)
    clear k0 k1 k2 k3 k4 k5 k6 k7 k8 hC hB hb3
    obtain ⟨k0, k1, k2, k3, k4, k5, k6, k7, k8, hC, hB⟩ := S2
    go_wp2_with (fail)
    with_reducible refine (c3 _).mono ?_
    rintro e w4 ⟨rfl, hb4⟩
    have S3 := seg_all (w := w) (hC.kept hb4) (Below.then_ hB hb4)
    clear k0 k1 k2 k3 k4 k5 k6 k7 k8 hC hB hb4
    obtain ⟨k0, k1, k2, k3, k4, k5, k6, k7, k8, hC, hB⟩ := S3
    go_wp2_with (fail)
    with_reducible refine (c4 _).mono ?_
    rintro e w5 ⟨rfl, hb5⟩
    have S4 := seg_all (w := w) (hC.kept hb5) (Below.then_ hB hb5)
    clear k0 k1 k2 k3 k4 k5 k6 k7 k8 hC hB hb5
    obtain ⟨k0, k1, k2, k3, k4, k5, k6, k7, k8, hC, hB⟩ := S4
    go_wp2_with (fail)
    with_reducible refine (c5 _).mono ?_
    rintro e w6 ⟨rfl, hb6⟩
    have S5 := seg_all (w := w) (hC.kept hb6) (Below.then_ hB hb6)
    clear k0 k1 k2 k3 k4 k5 k6 k7 k8 hC hB hb6
    obtain ⟨k0, k1, k2, k3, k4, k5, k6, k7, k8, hC, hB⟩ := S5
    go_wp2_with (fail)
    go_ret
    exact ⟨by rw [HN.out]; rfl, hB⟩
  have z5 : ta.toList.isEmpty = false := by rw [empty_b1, decide_eq_false h5]
  have y5 : ¬ ta.toList = [] := fun h => by rw [h] at z5; cases z5
  by_cases h6 : 0 ≤ x.flags ∧ x.flags ≤ 15
  rotate_left
  · have HN := Lib.hid (HX.out.2.2.2.2.2.2.1 h6)
    rw [decide_eq_false h6] at c6
    clear h6 HX
    go_enter Try.func68, Try.ntmps68
    go_wp2_with (fail)
    with_reducible refine (c0 _).mono ?_
    rintro e w1 ⟨rfl, hb1⟩
    have S0 := seg_all (w := w) (hC.kept hb1) (Below.then_ hB hb1)
    clear k0 k1 k2 k3 k4 k5 k6 k7 k8 hC hB hb1
    obtain ⟨k0, k1, k2, k3, k4, k5, k6, k7, k8, hC, hB⟩ := S0
    go_wp2_with (fail)
    with_reducible refine (c1 _).mono ?_
    rintro e w2 ⟨rfl, hb2⟩
    have S1 := seg_all (w := w) (hC.kept hb2) (Below.then_ hB hb2)
    clear k0 k1 k2 k3 k4 k5 k6 k7 k8 hC hB hb2
    obtain ⟨k0, k1, k2, k3, k4, k5, k6, k7, k8, hC, hB⟩ := S1
    go_wp2_with (fail)
    with_reducible refine (c2 _).mono ?_
    rintro e w3 ⟨rfl, hb3⟩
    have S2 := seg_all (w := w) (hC.kept hb3) (Below.then_ hB hb3)
    clear k0 k1 k2 k3 k4 k5 k6 k7 k8 hC hB hb3
    obtain ⟨k0, k1, k2, k3, k4, k5, k6, k7, k8, hC, hB⟩ := S2
    go_wp2_with (fail)
    with_reducible refine (c3 _).mono ?_
    rintro e w4 ⟨rfl, hb4⟩
    have S3 := seg_all (w := w) (hC.kept hb4) (Below.then_ hB hb4)
    clear k0 k1 k2 k3 k4 k5 k6 k7 k8 hC hB hb4
    obtain ⟨k0, k1, k2, k3, k4, k5, k6, k7, k8, hC, hB⟩ := S3
    go_wp2_with (fail)
    with_reducible refine (c4 _).mono ?_
    rintro e w5 ⟨rfl, hb5⟩
    have S4 := seg_all (w := w) (hC.kept hb5) (Below.then_ hB hb5)
    clear k0 k1 k2 k3 k4 k5 k6 k7 k8 hC hB hb5
    obtain ⟨k0, k1, k2, k3, k4, k5, k6, k7, k8, hC, hB⟩ := S4
    go_wp2_with (fail)
    with_reducible refine (c5 _).mono ?_
    rintro e w6 ⟨rfl, hb6⟩
    have S5 := seg_all (w := w) (hC.kept hb6) (Below.then_ hB hb6)
    clear k0 k1 k2 k3 k4 k5 k6 k7 k8 hC hB hb6
    obtain ⟨k0, k1, k2, k3, k4, k5, k6, k7, k8, hC, hB⟩ := S5
    go_wp2_with (fail)
    with_reducible refine (c6 _).mono ?_
    rintro e w7 ⟨rfl, rfl⟩
    go_wp2_with (fail)
    go_ret
    exact ⟨by rw [HN.out]; rfl, hB⟩
  rw [decide_eq_true h6] at c6
  by_cases h7 : (4 : Int) < (x.opts.length : Int)
  · have HN := Lib.hid (HX.out.2.2.2.2.2.2.2.1 h7)
    clear HX h6
    go_enter Try.func68, Try.ntmps68
    go_wp2_with (fail)
    with_reducible refine (c0 _).mono ?_
    rintro e w1 ⟨rfl, hb1⟩
    have S0 := seg_all (w := w) (hC.kept hb1) (Below.then_ hB hb1)
    clear k0 k1 k2 k3 k4 k5 k6 k7 k8 hC hB hb1
    obtain ⟨k0, k1, k2, k3, k4, k5, k6, k7, k8, hC, hB⟩ := S0
    go_wp2_with (fail)
    with_reducible refine (c1 _).mono ?_
    rintro e w2 ⟨rfl, hb2⟩
    have S1 := seg_all (w := w) (hC.kept hb2) (Below.then_ hB hb2)
    clear k0 k1 k2 k3 k4 k5 k6 k7 k8 hC hB hb2
    obtain ⟨k0, k1, k2, k3, k4, k5, k6, k7, k8, hC, hB⟩ := S1
    go_wp2_with (fail)
    with_reducible refine (c2 _).mono ?_
    rintro e w3 ⟨rfl, hb3⟩
    have S2 := seg_all (w := w) (hC.kept hb3) (Below.then_ hB hb3)
    clear k0 k1 k2 k3 k4 k5 k6 k7 k8 hC hB hb3
    obtain ⟨k0, k1, k2, k3, k4, k5, k6, k7, k8, hC, hB⟩ := S2
    go_wp2_with (fail)
    with_reducible refine (c3 _).mono ?_
    rintro e w4 ⟨rfl, hb4⟩
    have S3 := seg_all (w := w) (hC.kept hb4) (Below.then_ hB hb4)
    clear k0 k1 k2 k3 k4 k5 k6 k7 k8 hC hB hb4
    obtain ⟨k0, k1, k2, k3, k4, k5, k6, k7, k8, hC, hB⟩ := S3
    go_wp2_with (fail)
    with_reducible refine (c4 _).mono ?_
    rintro e w5 ⟨rfl, hb5⟩
    have S4 := seg_all (w := w) (hC.kept hb5) (Below.then_ hB hb5)
    clear k0 k1 k2 k3 k4 k5 k6 k7 k8 hC hB hb5
    obtain ⟨k0, k1, k2, k3, k4, k5, k6, k7, k8, hC, hB⟩ := S4
    go_wp2_with (fail)
    with_reducible refine (c5 _).mono ?_
    rintro e w6 ⟨rfl, hb6⟩
    have S5 := seg_all (w := w) (hC.kept hb6) (Below.then_ hB hb6)
    clear k0 k1 k2 k3 k4 k5 k6 k7 k8 hC hB hb6
    obtain ⟨k0, k1, k2, k3, k4, k5, k6, k7, k8, hC, hB⟩ := S5
    go_wp2_with (fail)
    with_reducible refine (c6 _).mono ?_
    rintro e w7 ⟨rfl, rfl⟩
    go_wp2_with (fail)
    go_ret
    exact ⟨by rw [HN.out]; rfl, hB⟩
  by_cases h8 : (120 : Int) < (x.data.size : Int)
  · have HN := Lib.hid (HX.out.2.2.2.2.2.2.2.2.1 h8)
    clear HX h6
    go_enter Try.func68, Try.ntmps68
    go_wp2_with (fail)
    with_reducible refine (c0 _).mono ?_
    rintro e w1 ⟨rfl, hb1⟩
    have S0 := seg_all (w := w) (hC.kept hb1) (Below.then_ hB hb1)
    clear k0 k1 k2 k3 k4 k5 k6 k7 k8 hC hB hb1
    obtain ⟨k0, k1, k2, k3, k4, k5, k6, k7, k8, hC, hB⟩ := S0
    go_wp2_with (fail)
    with_reducible refine (c1 _).mono ?_
    rintro e w2 ⟨rfl, hb2⟩
    have S1 := seg_all (w := w) (hC.kept hb2) (Below.then_ hB hb2)
    clear k0 k1 k2 k3 k4 k5 k6 k7 k8 hC hB hb2
    obtain ⟨k0, k1, k2, k3, k4, k5, k6, k7, k8, hC, hB⟩ := S1
    go_wp2_with (fail)
    with_reducible refine (c2 _).mono ?_
    rintro e w3 ⟨rfl, hb3⟩
    have S2 := seg_all (w := w) (hC.kept hb3) (Below.then_ hB hb3)
    clear k0 k1 k2 k3 k4 k5 k6 k7 k8 hC hB hb3
    obtain ⟨k0, k1, k2, k3, k4, k5, k6, k7, k8, hC, hB⟩ := S2
    go_wp2_with (fail)
    with_reducible refine (c3 _).mono ?_
    rintro e w4 ⟨rfl, hb4⟩
    have S3 := seg_all (w := w) (hC.kept hb4) (Below.then_ hB hb4)
    clear k0 k1 k2 k3 k4 k5 k6 k7 k8 hC hB hb4
    obtain ⟨k0, k1, k2, k3, k4, k5, k6, k7, k8, hC, hB⟩ := S3
    go_wp2_with (fail)
    with_reducible refine (c4 _).mono ?_
    rintro e w5 ⟨rfl, hb5⟩
    have S4 := seg_all (w := w) (hC.kept hb5) (Below.then_ hB hb5)
    clear k0 k1 k2 k3 k4 k5 k6 k7 k8 hC hB hb5
    obtain ⟨k0, k1, k2, k3, k4, k5, k6, k7, k8, hC, hB⟩ := S4
    go_wp2_with (fail)
    with_reducible refine (c5 _).mono ?_
    rintro e w6 ⟨rfl, hb6⟩
    have S5 := seg_all (w := w) (hC.kept hb6) (Below.then_ hB hb6)
    clear k0 k1 k2 k3 k4 k5 k6 k7 k8 hC hB hb6
    obtain ⟨k0, k1, k2, k3, k4, k5, k6, k7, k8, hC, hB⟩ := S5
    go_wp2_with (fail)
    with_reducible refine (c6 _).mono ?_
    rintro e w7 ⟨rfl, rfl⟩
    go_wp2_with (fail)
    go_ret
    exact ⟨by rw [HN.out]; rfl, hB⟩
  go_enter Try.func68, Try.ntmps68
  go_wp2_with (fail)
  with_reducible refine (c0 _).mono ?_
  rintro e w1 ⟨rfl, hb1⟩
  have S0 := seg_all (w := w) (hC.kept hb1) (Below.then_ hB hb1)
  clear k0 k1 k2 k3 k4 k5 k6 k7 k8 hC hB hb1
  obtain ⟨k0, k1, k2, k3, k4, k5, k6, k7, k8, hC, hB⟩ := S0
  go_wp2_with (fail)
  with_reducible refine (c1 _).mono ?_
  rintro e w2 ⟨rfl, hb2⟩
  have S1 := seg_all (w := w) (hC.kept hb2) (Below.then_ hB hb2)
  clear k0 k1 k2 k3 k4 k5 k6 k7 k8 hC hB hb2
  obtain ⟨k0, k1, k2, k3, k4, k5, k6, k7, k8, hC, hB⟩ := S1
  go_wp2_with (fail)
  with_reducible refine (c2 _).mono ?_
  rintro e w3 ⟨rfl, hb3⟩
  have S2 := seg_all (w := w) (hC.kept hb3) (Below.then_ hB hb3)
  clear k0 k1 k2 k3 k4 k5 k6 k7 k8 hC hB hb3
  obtain ⟨k0, k1, k2, k3, k4, k5, k6, k7, k8, hC, hB⟩ := S2
  go_wp2_with (fail)
  with_reducible refine (c3 _).mono ?_
  rintro e w4 ⟨rfl, hb4⟩
  have S3 := seg_all (w := w) (hC.kept hb4) (Below.then_ hB hb4)
  clear k0 k1 k2 k3 k4 k5 k6 k7 k8 hC hB hb4
  obtain ⟨k0, k1, k2, k3, k4, k5, k6, k7, k8, hC, hB⟩ := S3
  go_wp2_with (fail)
  with_reducible refine (c4 _).mono ?_
  rintro e w5 ⟨rfl, hb5⟩
  have S4 := seg_all (w := w) (hC.kept hb5) (Below.then_ hB hb5)
  clear k0 k1 k2 k3 k4 k5 k6 k7 k8 hC hB hb5
  obtain ⟨k0, k1, k2, k3, k4, k5, k6, k7, k8, hC, hB⟩ := S4
  go_wp2_with (fail)
  with_reducible refine (c5 _).mono ?_
  rintro e w6 ⟨rfl, hb6⟩
  have S5 := seg_all (w := w) (hC.kept hb6) (Below.then_ hB hb6)
  clear k0 k1 k2 k3 k4 k5 k6 k7 k8 hC hB hb6
  obtain ⟨k0, k1, k2, k3, k4, k5, k6, k7, k8, hC, hB⟩ := S5
  go_wp2_with (fail)
  with_reducible refine (c6 _).mono ?_
  rintro e w7 ⟨rfl, rfl⟩
  go_wp2_with (fail)
  go_loopw [3] (fun i wr => ∃ k : Nat, k ≤ x.opts.length ∧ i = .int .i64 k ∧ (∀ o ∈ x.opts.take k, ¬ optTx o = ⟨#[]⟩) ∧ Cel wr w.heap.size 36 (x.cells (.slice va x.opts.length vc)) ∧ Below w.heap.size w wr) (fun i _ => x.opts.length - (intOf i).toNat)
  case atStart => exact ⟨0, by omega, rfl, by simp, hC, hB⟩
  case round =>
    clear hC hB k0 k1 k2 k3 k4 k5 k6 k7 k8
    obtain ⟨k, hk, rfl, hne, hC, hB⟩ := hrel
    have k7 := (hC.cell 7).trans (x.ats _).2.2.2.2.2.2.2.1
    by_cases hlt : k < x.opts.length
    · have q : (k : Int) < (x.opts.length : Int) := by omega
      have q2 : (0 : Int) ≤ (k : Int) := by omega
      obtain ⟨_, _, he, h⟩ := hv.below hB
      injection he with e1 e2 e3
      subst e1 e3
      obtain ⟨b, off, ha, h3⟩ := h (by omega)
      subst ha
      obtain ⟨u, r1, r2⟩ := h3 k hlt
      clear h3 h
      have ld := r1.load
      have co := spec_optOk x.opts[k] u wr r2 (hbig _ (List.getElem_mem hlt))
      have hmem := List.getElem_mem hlt
      have hsn : x.opts.take (k + 1) = x.opts.take k ++ [x.opts[k]] := List.take_succ_eq_append_getElem hlt
      generalize x.opts[k] = o at *
      by_cases ho : optTx o = ⟨#[]⟩
      · rw [decide_eq_true ho] at co
        have HN := Lib.hid (HX.out.2.2.2.2.2.2.2.2.2 (fun h => h o hmem ho))
        clear hne hsn HX HG
        go_wp2_with (fail)
        with_reducible refine co.mono ?_
        rintro e w2 ⟨rfl, hb2⟩
        go_wp2_with (fail)
        go_ret
        exact ⟨by rw [HN.out]; rfl, Below.then_ hB hb2⟩
      · rw [decide_eq_false ho] at co
        have HS := Lib.hid (And.intro hsn ho)
        clear hsn ho
        go_wp2_with (fail)
        with_reducible refine co.mono ?_
        rintro e w2 ⟨rfl, hb2⟩
        have hC2 := hC.kept hb2
        have hB2 := Below.then_ hB hb2
        clear hC hB hb2 ld co k7 r1 r2
        go_wp2_with (fail)
        go_roundw
        case rel =>
          obtain ⟨hsn, ho⟩ := HS.out
          refine ⟨k + 1, by omega, by go_num, fun o' ho' => ?_, hC2, hB2⟩
          rw [hsn] at ho'
          rcases List.mem_append.1 ho' with h | h
          · exact hne o' h
          · rw [List.mem_singleton.1 h]; exact ho
        case measure => simp [intOf]; omega
    · obtain rfl : k = x.opts.length := by omega
      have q : ¬ (x.opts.length : Int) < (x.opts.length : Int) := by omega
      rw [List.take_length] at hne
      have HS := Lib.hid (HG.out ⟨h0, h1, h2, h3, h4, h5, h6, h7, h8, hne⟩)
      clear hne HG HX h0 h1 h2 h3 h4 h5
      go_wp2_with (fail)
      go_ret
      exact ⟨by rw [HS.out]; rfl, hB⟩

theorem app_nil2 (a : ByteArray) : a ++ (⟨#[]⟩ : ByteArray) = a := by
  apply ByteArray.ext
  simp [ByteArray.data_append]

theorem lim_in (n most w : Int) (h : n ≤ most) : limTx n most w = numText n w := by
  unfold limTx
  rw [if_neg (by omega)]

theorem join_seg (x : Sv) : joinOf (segParts x) = (joinOf (headParts x) ++ joinOf (x.opts.map optTx)) ++ limTx (x.data.size : Int) 120 2 := by
  unfold segParts
  apply ByteArray.ext
  apply Array.toList_inj.1
  simp [joinOf]
theorem join_eight (a b c d e f g h : ByteArray) : joinOf [a, b, c, d, e, f, g, h] = a ++ b ++ c ++ d ++ e ++ f ++ g ++ h := by
  apply ByteArray.ext
  apply Array.toList_inj.1
  simp [joinOf]

set_option maxRecDepth 100000 in
set_option maxHeartbeats 8000000 in
theorem spec_segText (x : Sv) (v : Value) (w : World) (hv : RdO w v x.opts) (hn : x.opts.length ≤ 1048576) (hd : x.data.size ≤ 1048576) (hbig : ∀ o ∈ x.opts, o.ids.length ≤ 1048576) :
    Calls Try.prog 33 #[.agg (x.cells v)] w fun e w' => e = .returned (.string (segTx x)) ∧ Below w.heap.size w w' := by
  obtain ⟨va, vc, rfl⟩ : ∃ a c, v = .slice a x.opts.length c := by obtain ⟨a, c, h, -⟩ := hv; exact ⟨a, c, h⟩
  have hB0 := below_new w (.cells (x.cells (.slice va x.opts.length vc)) 36)
  have hC0 : Cel (w.alloc (.cells (x.cells (.slice va x.opts.length vc)) 36)) w.heap.size 36 (x.cells (.slice va x.opts.length vc)) := Cel.new _ _ _
  have f0 := Cel.loadRow hC0 9 (Sv.cells_size _ _) (P := Try.prog)
  have ck := spec_segOk x (.slice va x.opts.length vc) _ (hv.below hB0) hn hd hbig
  by_cases hg : segGood x
  · obtain ⟨-, -, -, -, -, -, g6, g7, g8, -⟩ := (good_iff x).1 hg
    have hr := segTx_yes x hg
    rw [join_seg] at hr
    unfold headParts at hr
    rw [join_eight, lim_in x.flags 15 1 g6.2, lim_in (x.opts.length : Int) 4 1 (by omega), lim_in (x.data.size : Int) 120 2 (by omega)] at hr
    have c0 := fun W => spec_numTextA x.frm 4 W
    have c1 := fun W => spec_numTextA x.to 4 W
    have c2 := fun W => spec_numTextA x.port 2 W
    have c3 := fun W => spec_numTextA x.peer 2 W
    have c4 := fun W => spec_numTextA x.seq 4 W
    have c5 := fun W => spec_numTextA x.ack 4 W
    have c6 := fun W => spec_numTextA x.flags 1 W
    have c7 := fun W => spec_numTextA (x.opts.length : Int) 1 W
    have c8 := fun W => spec_numTextA (x.data.size : Int) 2 W
    have l0 := numTx_le x.frm 4
    have l1 := numTx_le x.to 4
    have l2 := numTx_le x.port 2
    have l3 := numTx_le x.peer 2
    have l4 := numTx_le x.seq 4
    have l5 := numTx_le x.ack 4
    have l6 := numTx_le x.flags 1
    have l7 := numTx_le (x.opts.length : Int) 1
    have l8 := numTx_le (x.data.size : Int) 2
    generalize numText x.frm 4 = tf at *
    generalize numText x.to 4 = tt at *
    generalize numText x.port 2 = tp at *
    generalize numText x.peer 2 = tq at *
    generalize numText x.seq 4 = ts at *
    generalize numText x.ack 4 = ta at *
    generalize numText x.flags 1 = tl at *
    generalize numText (x.opts.length : Int) 1 = tn at *
    generalize numText (x.data.size : Int) 2 = td at *
    have qq1 : tf.size + tt.size ≤ 9223372036854775807 := by omega
    have qq2 : tf.size + tt.size + tp.size ≤ 9223372036854775807 := by omega
    have qq3 : tf.size + tt.size + tp.size + tq.size ≤ 9223372036854775807 := by omega
    have qq4 : tf.size + tt.size + tp.size + tq.size + ts.size ≤ 9223372036854775807 := by omega
    have qq5 : tf.size + tt.size + tp.size + tq.size + ts.size + ta.size ≤ 9223372036854775807 := by omega
    have qq6 : tf.size + tt.size + tp.size + tq.size + ts.size + ta.size + tl.size ≤ 9223372036854775807 := by omega
    have qq7 : tf.size + tt.size + tp.size + tq.size + ts.size + ta.size + tl.size + tn.size ≤ 9223372036854775807 := by omega
    have hHs : (tf ++ tt ++ tp ++ tq ++ ts ++ ta ++ tl ++ tn).size ≤ 48 := by simp only [ByteArray.size_append]; omega
    have hgr := (segB_iff x).2 hg
    have HR := Lib.hid (And.intro hr hgr)
    clear hr hgr hg
    generalize segTx x = r at *
    go_enter Try.func33, Try.ntmps33
    go_wp2_with (fail)
    with_reducible refine ck.mono ?_
    rintro e w0 ⟨rfl, hb0⟩
    rw [HR.out.2]
    have hC := hC0.kept hb0
    have hB := Below.then_ hB0 hb0
    clear hC0 hB0 f0 ck hb0
    have S0 := seg_drew hC hB
    clear hC hB
    go_wp2_with (fail)
    refine wp_region_held_drew (S := fun W => W.cell? ⟨w.heap.size, 0, none⟩ = some (.int .i64 x.frm) ∧ W.cell? ⟨w.heap.size, 1, none⟩ = some (.int .i64 x.to) ∧ W.cell? ⟨w.heap.size, 2, none⟩ = some (.int .i64 x.port) ∧ W.cell? ⟨w.heap.size, 3, none⟩ = some (.int .i64 x.peer) ∧ W.cell? ⟨w.heap.size, 4, none⟩ = some (.int .i64 x.seq) ∧ W.cell? ⟨w.heap.size, 5, none⟩ = some (.int .i64 x.ack) ∧ W.cell? ⟨w.heap.size, 6, none⟩ = some (.int .i64 x.flags) ∧ W.cell? ⟨w.heap.size, 7, none⟩ = some (.slice va x.opts.length vc) ∧ W.cell? ⟨w.heap.size, 8, none⟩ = some (.string x.data) ∧ Cel W w.heap.size 36 (x.cells (.slice va x.opts.length vc)) ∧ Below w.heap.size w W) (by kernel_rfl) S0 (fun hHeld => ?_)
    refine take_yes (i := 0) (oi := { dst := some 8, op := Op.fieldAddr 36 (Operand.tmp 1) 0, type := 0, pos := "l07_segments.go:33", after := #[], guard := none }) (v := .pointer (some ⟨w.heap.size, 0, none⟩)) rfl (by kernel_rfl) (by kernel_rfl) (by kernel_rfl) (fun _ _ _ h => h) (by rfl) (fun w hSw => by (try dsimp only at hSw); go_simp) (by assumption) ?_
    try simp only [Act.put, List.setIfInBounds_toArray, List.set_cons_zero, List.set_cons_succ]
    refine take_yes (i := 1) (oi := { dst := some 9, op := Op.load 3 (Operand.tmp 8), type := 3, pos := "l07_segments.go:33", after := #[{ on := 0, ground := Ground.data }], guard := none }) (v := .int .i64 x.frm) rfl (by kernel_rfl) (by kernel_rfl) (by kernel_rfl) (fun _ _ _ h => h) (by rfl) (fun w hSw => by (try dsimp only at hSw); go_simp) (by assumption) ?_
    try simp only [Act.put, List.setIfInBounds_toArray, List.set_cons_zero, List.set_cons_succ]
    refine take_yes (i := 3) (oi := { dst := some 11, op := Op.fieldAddr 36 (Operand.tmp 1) 1, type := 0, pos := "l07_segments.go:33", after := #[], guard := none }) (v := .pointer (some ⟨w.heap.size, 1, none⟩)) rfl (by kernel_rfl) (by kernel_rfl) (by kernel_rfl) (fun _ _ _ h => h) (by rfl) (fun w hSw => by (try dsimp only at hSw); go_simp) (by assumption) ?_
    try simp only [Act.put, List.setIfInBounds_toArray, List.set_cons_zero, List.set_cons_succ]
    refine take_yes (i := 4) (oi := { dst := some 12, op := Op.load 3 (Operand.tmp 11), type := 3, pos := "l07_segments.go:33", after := #[{ on := 3, ground := Ground.data }], guard := none }) (v := .int .i64 x.to) rfl (by kernel_rfl) (by kernel_rfl) (by kernel_rfl) (fun _ _ _ h => h) (by rfl) (fun w hSw => by (try dsimp only at hSw); go_simp) (by assumption) ?_
    try simp only [Act.put, List.setIfInBounds_toArray, List.set_cons_zero, List.set_cons_succ]
    refine take_yes (i := 7) (oi := { dst := some 15, op := Op.fieldAddr 36 (Operand.tmp 1) 2, type := 0, pos := "l07_segments.go:33", after := #[], guard := none }) (v := .pointer (some ⟨w.heap.size, 2, none⟩)) rfl (by kernel_rfl) (by kernel_rfl) (by kernel_rfl) (fun _ _ _ h => h) (by rfl) (fun w hSw => by (try dsimp only at hSw); go_simp) (by assumption) ?_
    try simp only [Act.put, List.setIfInBounds_toArray, List.set_cons_zero, List.set_cons_succ]
    refine take_yes (i := 8) (oi := { dst := some 16, op := Op.load 3 (Operand.tmp 15), type := 3, pos := "l07_segments.go:33", after := #[{ on := 7, ground := Ground.data }], guard := none }) (v := .int .i64 x.port) rfl (by kernel_rfl) (by kernel_rfl) (by kernel_rfl) (fun _ _ _ h => h) (by rfl) (fun w hSw => by (try dsimp only at hSw); go_simp) (by assumption) ?_
    try simp only [Act.put, List.setIfInBounds_toArray, List.set_cons_zero, List.set_cons_succ]
    refine take_yes (i := 11) (oi := { dst := some 19, op := Op.fieldAddr 36 (Operand.tmp 1) 3, type := 0, pos := "l07_segments.go:33", after := #[], guard := none }) (v := .pointer (some ⟨w.heap.size, 3, none⟩)) rfl (by kernel_rfl) (by kernel_rfl) (by kernel_rfl) (fun _ _ _ h => h) (by rfl) (fun w hSw => by (try dsimp only at hSw); go_simp) (by assumption) ?_
    try simp only [Act.put, List.setIfInBounds_toArray, List.set_cons_zero, List.set_cons_succ]
    refine take_yes (i := 12) (oi := { dst := some 20, op := Op.load 3 (Operand.tmp 19), type := 3, pos := "l07_segments.go:33", after := #[{ on := 11, ground := Ground.data }], guard := none }) (v := .int .i64 x.peer) rfl (by kernel_rfl) (by kernel_rfl) (by kernel_rfl) (fun _ _ _ h => h) (by rfl) (fun w hSw => by (try dsimp only at hSw); go_simp) (by assumption) ?_
    try simp only [Act.put, List.setIfInBounds_toArray, List.set_cons_zero, List.set_cons_succ]
    refine take_yes (i := 15) (oi := { dst := some 23, op := Op.fieldAddr 36 (Operand.tmp 1) 4, type := 0, pos := "l07_segments.go:33", after := #[], guard := none }) (v := .pointer (some ⟨w.heap.size, 4, none⟩)) rfl (by kernel_rfl) (by kernel_rfl) (by kernel_rfl) (fun _ _ _ h => h) (by rfl) (fun w hSw => by (try dsimp only at hSw); go_simp) (by assumption) ?_
    try simp only [Act.put, List.setIfInBounds_toArray, List.set_cons_zero, List.set_cons_succ]
    refine take_yes (i := 16) (oi := { dst := some 24, op := Op.load 3 (Operand.tmp 23), type := 3, pos := "l07_segments.go:33", after := #[{ on := 15, ground := Ground.data }], guard := none }) (v := .int .i64 x.seq) rfl (by kernel_rfl) (by kernel_rfl) (by kernel_rfl) (fun _ _ _ h => h) (by rfl) (fun w hSw => by (try dsimp only at hSw); go_simp) (by assumption) ?_
    try simp only [Act.put, List.setIfInBounds_toArray, List.set_cons_zero, List.set_cons_succ]
    refine take_yes (i := 19) (oi := { dst := some 27, op := Op.fieldAddr 36 (Operand.tmp 1) 5, type := 0, pos := "l07_segments.go:33", after := #[], guard := none }) (v := .pointer (some ⟨w.heap.size, 5, none⟩)) rfl (by kernel_rfl) (by kernel_rfl) (by kernel_rfl) (fun _ _ _ h => h) (by rfl) (fun w hSw => by (try dsimp only at hSw); go_simp) (by assumption) ?_
    try simp only [Act.put, List.setIfInBounds_toArray, List.set_cons_zero, List.set_cons_succ]
    refine take_yes (i := 20) (oi := { dst := some 28, op := Op.load 3 (Operand.tmp 27), type := 3, pos := "l07_segments.go:33", after := #[{ on := 19, ground := Ground.data }], guard := none }) (v := .int .i64 x.ack) rfl (by kernel_rfl) (by kernel_rfl) (by kernel_rfl) (fun _ _ _ h => h) (by rfl) (fun w hSw => by (try dsimp only at hSw); go_simp) (by assumption) ?_
    try simp only [Act.put, List.setIfInBounds_toArray, List.set_cons_zero, List.set_cons_succ]
    refine take_yes (i := 23) (oi := { dst := some 31, op := Op.fieldAddr 36 (Operand.tmp 1) 6, type := 0, pos := "l07_segments.go:33", after := #[], guard := none }) (v := .pointer (some ⟨w.heap.size, 6, none⟩)) rfl (by kernel_rfl) (by kernel_rfl) (by kernel_rfl) (fun _ _ _ h => h) (by rfl) (fun w hSw => by (try dsimp only at hSw); go_simp) (by assumption) ?_
    try simp only [Act.put, List.setIfInBounds_toArray, List.set_cons_zero, List.set_cons_succ]
    refine take_yes (i := 24) (oi := { dst := some 32, op := Op.load 3 (Operand.tmp 31), type := 3, pos := "l07_segments.go:33", after := #[{ on := 23, ground := Ground.data }], guard := none }) (v := .int .i64 x.flags) rfl (by kernel_rfl) (by kernel_rfl) (by kernel_rfl) (fun _ _ _ h => h) (by rfl) (fun w hSw => by (try dsimp only at hSw); go_simp) (by assumption) ?_
    try simp only [Act.put, List.setIfInBounds_toArray, List.set_cons_zero, List.set_cons_succ]
    refine take_yes (i := 27) (oi := { dst := some 35, op := Op.fieldAddr 36 (Operand.tmp 1) 7, type := 0, pos := "l07_segments.go:33", after := #[], guard := none }) (v := .pointer (some ⟨w.heap.size, 7, none⟩)) rfl (by kernel_rfl) (by kernel_rfl) (by kernel_rfl) (fun _ _ _ h => h) (by rfl) (fun w hSw => by (try dsimp only at hSw); go_simp) (by assumption) ?_
    try simp only [Act.put, List.setIfInBounds_toArray, List.set_cons_zero, List.set_cons_succ]
    refine take_yes (i := 28) (oi := { dst := some 36, op := Op.load 34 (Operand.tmp 35), type := 34, pos := "l07_segments.go:33", after := #[{ on := 27, ground := Ground.data }], guard := none }) (v := (.slice va x.opts.length vc)) rfl (by kernel_rfl) (by kernel_rfl) (by kernel_rfl) (fun _ _ _ h => h) (by rfl) (fun w hSw => by (try dsimp only at hSw); go_simp) (by assumption) ?_
    try simp only [Act.put, List.setIfInBounds_toArray, List.set_cons_zero, List.set_cons_succ]
    refine take_yes (i := 29) (oi := { dst := some 37, op := Op.call { callee := Callee.builtin Builtin.len, args := #[Operand.tmp 36], argTypes := #[34] }, type := 3, pos := "l07_segments.go:33", after := #[{ on := 28, ground := Ground.data }], guard := none }) (v := .int .i64 (x.opts.length : Int)) rfl (by kernel_rfl) (by kernel_rfl) (by kernel_rfl) (fun _ _ _ h => h) (by rfl) (fun w hSw => by (try dsimp only at hSw); go_simp) (by assumption) ?_
    try simp only [Act.put, List.setIfInBounds_toArray, List.set_cons_zero, List.set_cons_succ]
    refine wpAnyH_ready (rs := [2]) (by kernel_rfl) (by simp) ?_
    refine AllReadyH.cons (o := { dst := some 10, op := Op.call { callee := Callee.value (Operand.func 46), args := #[Operand.tmp 9, Operand.const (Value.int IntKind.i64 4)], argTypes := #[3, 3] }, type := 9, pos := "l07_segments.go:33", after := #[{ on := 1, ground := Ground.data }], guard := none }) rfl (fun K hK => ?_) AllReadyH.nil
    go_simp
    with_reducible refine (c0 _).mono ?_
    rintro e w1 ⟨rfl, hb1⟩
    refine hK.out _ _ (seg_keep (by assumption) hb1) (fun hHeld => ?_)
    clear hK K
    try simp only [Act.put, List.setIfInBounds_toArray, List.set_cons_zero, List.set_cons_succ]
    refine wpAnyH_ready (rs := [5]) (by kernel_rfl) (by simp) ?_
    refine AllReadyH.cons (o := { dst := some 13, op := Op.call { callee := Callee.value (Operand.func 46), args := #[Operand.tmp 12, Operand.const (Value.int IntKind.i64 4)], argTypes := #[3, 3] }, type := 9, pos := "l07_segments.go:33", after := #[{ on := 4, ground := Ground.data }, { on := 2, ground := Ground.chain }], guard := none }) rfl (fun K hK => ?_) AllReadyH.nil
    go_simp
    with_reducible refine (c1 _).mono ?_
    rintro e w2 ⟨rfl, hb2⟩
    refine hK.out _ _ (seg_keep (by assumption) hb2) (fun hHeld => ?_)
    clear hK K
    try simp only [Act.put, List.setIfInBounds_toArray, List.set_cons_zero, List.set_cons_succ]
    refine take_yes (i := 6) (oi := { dst := some 14, op := Op.binOp BinOp.add 9 (Operand.tmp 10) (Operand.tmp 13) 9, type := 9, pos := "l07_segments.go:33", after := #[{ on := 2, ground := Ground.data }, { on := 5, ground := Ground.data }], guard := none }) (v := .string (tf ++ tt)) rfl (by kernel_rfl) (by kernel_rfl) (by kernel_rfl) (fun _ _ _ h => h) (by rfl) (fun w hSw => by (try dsimp only at hSw); go_simp) (by assumption) ?_
    try simp only [Act.put, List.setIfInBounds_toArray, List.set_cons_zero, List.set_cons_succ]
    refine wpAnyH_ready (rs := [9]) (by kernel_rfl) (by simp) ?_
    refine AllReadyH.cons (o := { dst := some 17, op := Op.call { callee := Callee.value (Operand.func 46), args := #[Operand.tmp 16, Operand.const (Value.int IntKind.i64 2)], argTypes := #[3, 3] }, type := 9, pos := "l07_segments.go:33", after := #[{ on := 8, ground := Ground.data }, { on := 5, ground := Ground.chain }], guard := none }) rfl (fun K hK => ?_) AllReadyH.nil
    go_simp
    with_reducible refine (c2 _).mono ?_
    rintro e w3 ⟨rfl, hb3⟩
    refine hK.out _ _ (seg_keep (by assumption) hb3) (fun hHeld => ?_)
    clear hK K
    try simp only [Act.put, List.setIfInBounds_toArray, List.set_cons_zero, List.set_cons_succ]
    refine take_yes (i := 10) (oi := { dst := some 18, op := Op.binOp BinOp.add 9 (Operand.tmp 14) (Operand.tmp 17) 9, type := 9, pos := "l07_segments.go:33", after := #[{ on := 6, ground := Ground.data }, { on := 9, ground := Ground.data }], guard := none }) (v := .string ((tf ++ tt) ++ tp)) rfl (by kernel_rfl) (by kernel_rfl) (by kernel_rfl) (fun _ _ _ h => h) (by rfl) (fun w hSw => by (try dsimp only at hSw); go_simp) (by assumption) ?_
    try simp only [Act.put, List.setIfInBounds_toArray, List.set_cons_zero, List.set_cons_succ]
    refine wpAnyH_ready (rs := [13]) (by kernel_rfl) (by simp) ?_
    refine AllReadyH.cons (o := { dst := some 21, op := Op.call { callee := Callee.value (Operand.func 46), args := #[Operand.tmp 20, Operand.const (Value.int IntKind.i64 2)], argTypes := #[3, 3] }, type := 9, pos := "l07_segments.go:33", after := #[{ on := 12, ground := Ground.data }, { on := 9, ground := Ground.chain }], guard := none }) rfl (fun K hK => ?_) AllReadyH.nil
    go_simp
    with_reducible refine (c3 _).mono ?_
    rintro e w4 ⟨rfl, hb4⟩
    refine hK.out _ _ (seg_keep (by assumption) hb4) (fun hHeld => ?_)
    clear hK K
    try simp only [Act.put, List.setIfInBounds_toArray, List.set_cons_zero, List.set_cons_succ]
    refine take_yes (i := 14) (oi := { dst := some 22, op := Op.binOp BinOp.add 9 (Operand.tmp 18) (Operand.tmp 21) 9, type := 9, pos := "l07_segments.go:33", after := #[{ on := 10, ground := Ground.data }, { on := 13, ground := Ground.data }], guard := none }) (v := .string (((tf ++ tt) ++ tp) ++ tq)) rfl (by kernel_rfl) (by kernel_rfl) (by kernel_rfl) (fun _ _ _ h => h) (by rfl) (fun w hSw => by (try dsimp only at hSw); go_simp) (by assumption) ?_
    try simp only [Act.put, List.setIfInBounds_toArray, List.set_cons_zero, List.set_cons_succ]
    refine wpAnyH_ready (rs := [17]) (by kernel_rfl) (by simp) ?_
    refine AllReadyH.cons (o := { dst := some 25, op := Op.call { callee := Callee.value (Operand.func 46), args := #[Operand.tmp 24, Operand.const (Value.int IntKind.i64 4)], argTypes := #[3, 3] }, type := 9, pos := "l07_segments.go:33", after := #[{ on := 16, ground := Ground.data }, { on := 13, ground := Ground.chain }], guard := none }) rfl (fun K hK => ?_) AllReadyH.nil
    go_simp
    with_reducible refine (c4 _).mono ?_
    rintro e w5 ⟨rfl, hb5⟩
    refine hK.out _ _ (seg_keep (by assumption) hb5) (fun hHeld => ?_)
    clear hK K
    try simp only [Act.put, List.setIfInBounds_toArray, List.set_cons_zero, List.set_cons_succ]
    refine take_yes (i := 18) (oi := { dst := some 26, op := Op.binOp BinOp.add 9 (Operand.tmp 22) (Operand.tmp 25) 9, type := 9, pos := "l07_segments.go:33", after := #[{ on := 14, ground := Ground.data }, { on := 17, ground := Ground.data }], guard := none }) (v := .string ((((tf ++ tt) ++ tp) ++ tq) ++ ts)) rfl (by kernel_rfl) (by kernel_rfl) (by kernel_rfl) (fun _ _ _ h => h) (by rfl) (fun w hSw => by (try dsimp only at hSw); go_simp) (by assumption) ?_
    try simp only [Act.put, List.setIfInBounds_toArray, List.set_cons_zero, List.set_cons_succ]
    refine wpAnyH_ready (rs := [21]) (by kernel_rfl) (by simp) ?_
    refine AllReadyH.cons (o := { dst := some 29, op := Op.call { callee := Callee.value (Operand.func 46), args := #[Operand.tmp 28, Operand.const (Value.int IntKind.i64 4)], argTypes := #[3, 3] }, type := 9, pos := "l07_segments.go:33", after := #[{ on := 20, ground := Ground.data }, { on := 17, ground := Ground.chain }], guard := none }) rfl (fun K hK => ?_) AllReadyH.nil
    go_simp
    with_reducible refine (c5 _).mono ?_
    rintro e w6 ⟨rfl, hb6⟩
    refine hK.out _ _ (seg_keep (by assumption) hb6) (fun hHeld => ?_)
    clear hK K
    try simp only [Act.put, List.setIfInBounds_toArray, List.set_cons_zero, List.set_cons_succ]
    refine take_yes (i := 22) (oi := { dst := some 30, op := Op.binOp BinOp.add 9 (Operand.tmp 26) (Operand.tmp 29) 9, type := 9, pos := "l07_segments.go:33", after := #[{ on := 18, ground := Ground.data }, { on := 21, ground := Ground.data }], guard := none }) (v := .string (((((tf ++ tt) ++ tp) ++ tq) ++ ts) ++ ta)) rfl (by kernel_rfl) (by kernel_rfl) (by kernel_rfl) (fun _ _ _ h => h) (by rfl) (fun w hSw => by (try dsimp only at hSw); go_simp) (by assumption) ?_
    try simp only [Act.put, List.setIfInBounds_toArray, List.set_cons_zero, List.set_cons_succ]
    refine wpAnyH_ready (rs := [25]) (by kernel_rfl) (by simp) ?_
    refine AllReadyH.cons (o := { dst := some 33, op := Op.call { callee := Callee.value (Operand.func 46), args := #[Operand.tmp 32, Operand.const (Value.int IntKind.i64 1)], argTypes := #[3, 3] }, type := 9, pos := "l07_segments.go:33", after := #[{ on := 24, ground := Ground.data }, { on := 21, ground := Ground.chain }], guard := none }) rfl (fun K hK => ?_) AllReadyH.nil
    go_simp
    with_reducible refine (c6 _).mono ?_
    rintro e w7 ⟨rfl, hb7⟩
    refine hK.out _ _ (seg_keep (by assumption) hb7) (fun hHeld => ?_)
    clear hK K
    try simp only [Act.put, List.setIfInBounds_toArray, List.set_cons_zero, List.set_cons_succ]
    refine take_yes (i := 26) (oi := { dst := some 34, op := Op.binOp BinOp.add 9 (Operand.tmp 30) (Operand.tmp 33) 9, type := 9, pos := "l07_segments.go:33", after := #[{ on := 22, ground := Ground.data }, { on := 25, ground := Ground.data }], guard := none }) (v := .string ((((((tf ++ tt) ++ tp) ++ tq) ++ ts) ++ ta) ++ tl)) rfl (by kernel_rfl) (by kernel_rfl) (by kernel_rfl) (fun _ _ _ h => h) (by rfl) (fun w hSw => by (try dsimp only at hSw); go_simp) (by assumption) ?_
    try simp only [Act.put, List.setIfInBounds_toArray, List.set_cons_zero, List.set_cons_succ]
    refine wpAnyH_ready (rs := [30]) (by kernel_rfl) (by simp) ?_
    refine AllReadyH.cons (o := { dst := some 38, op := Op.call { callee := Callee.value (Operand.func 46), args := #[Operand.tmp 37, Operand.const (Value.int IntKind.i64 1)], argTypes := #[3, 3] }, type := 9, pos := "l07_segments.go:33", after := #[{ on := 29, ground := Ground.data }, { on := 25, ground := Ground.chain }], guard := none }) rfl (fun K hK => ?_) AllReadyH.nil
    go_simp
    with_reducible refine (c7 _).mono ?_
    rintro e w8 ⟨rfl, hb8⟩
    refine hK.out _ _ (seg_keep (by assumption) hb8) (fun hHeld => ?_)
    clear hK K
    try simp only [Act.put, List.setIfInBounds_toArray, List.set_cons_zero, List.set_cons_succ]
    refine take_yes (i := 31) (oi := { dst := some 39, op := Op.binOp BinOp.add 9 (Operand.tmp 34) (Operand.tmp 38) 9, type := 9, pos := "l07_segments.go:33", after := #[{ on := 26, ground := Ground.data }, { on := 30, ground := Ground.data }], guard := none }) (v := .string (((((((tf ++ tt) ++ tp) ++ tq) ++ ts) ++ ta) ++ tl) ++ tn)) rfl (by kernel_rfl) (by kernel_rfl) (by kernel_rfl) (fun _ _ _ h => h) (by rfl) (fun w hSw => by (try dsimp only at hSw); go_simp) (by assumption) ?_
    try simp only [Act.put, List.setIfInBounds_toArray, List.set_cons_zero, List.set_cons_succ]
    refine take_yes (i := 32) (oi := { dst := some 3, op := Op.assign (Operand.tmp 39), type := 9, pos := "l07_segments.go:33", after := #[{ on := 31, ground := Ground.data }, { on := 30, ground := Ground.chain }, { on := 0, ground := Ground.phase }, { on := 1, ground := Ground.phase }, { on := 2, ground := Ground.phase }, { on := 3, ground := Ground.phase }, { on := 4, ground := Ground.phase }, { on := 5, ground := Ground.phase }, { on := 6, ground := Ground.phase }, { on := 7, ground := Ground.phase }, { on := 8, ground := Ground.phase }, { on := 9, ground := Ground.phase }, { on := 10, ground := Ground.phase }, { on := 11, ground := Ground.phase }, { on := 12, ground := Ground.phase }, { on := 13, ground := Ground.phase }, { on := 14, ground := Ground.phase }, { on := 15, ground := Ground.phase }, { on := 16, ground := Ground.phase }, { on := 17, ground := Ground.phase }, { on := 18, ground := Ground.phase }, { on := 19, ground := Ground.phase }, { on := 20, ground := Ground.phase }, { on := 21, ground := Ground.phase }, { on := 22, ground := Ground.phase }, { on := 23, ground := Ground.phase }, { on := 24, ground := Ground.phase }, { on := 25, ground := Ground.phase }, { on := 26, ground := Ground.phase }, { on := 27, ground := Ground.phase }, { on := 28, ground := Ground.phase }, { on := 29, ground := Ground.phase }, { on := 30, ground := Ground.phase }, { on := 31, ground := Ground.phase }], guard := none }) (v := .string (((((((tf ++ tt) ++ tp) ++ tq) ++ ts) ++ ta) ++ tl) ++ tn)) rfl (by kernel_rfl) (by kernel_rfl) (by kernel_rfl) (fun _ _ _ h => h) (by rfl) (fun w hSw => by (try dsimp only at hSw); go_simp) (by assumption) ?_
    try simp only [Act.put, List.setIfInBounds_toArray, List.set_cons_zero, List.set_cons_succ]
    refine wpAnyH_done (by kernel_rfl) ?_ _
    have S8 : w8.cell? ⟨w.heap.size, 0, none⟩ = some (.int .i64 x.frm) ∧ w8.cell? ⟨w.heap.size, 1, none⟩ = some (.int .i64 x.to) ∧ w8.cell? ⟨w.heap.size, 2, none⟩ = some (.int .i64 x.port) ∧ w8.cell? ⟨w.heap.size, 3, none⟩ = some (.int .i64 x.peer) ∧ w8.cell? ⟨w.heap.size, 4, none⟩ = some (.int .i64 x.seq) ∧ w8.cell? ⟨w.heap.size, 5, none⟩ = some (.int .i64 x.ack) ∧ w8.cell? ⟨w.heap.size, 6, none⟩ = some (.int .i64 x.flags) ∧ w8.cell? ⟨w.heap.size, 7, none⟩ = some (.slice va x.opts.length vc) ∧ w8.cell? ⟨w.heap.size, 8, none⟩ = some (.string x.data) ∧ Cel w8 w.heap.size 36 (x.cells (.slice va x.opts.length vc)) ∧ Below w.heap.size w w8 := by assumption
    obtain ⟨-, -, -, -, -, -, -, -, -, hC, hB⟩ := S8
    clear S0 hb1 hb2 hb3 hb4 hb5 hb6 hb7 hb8 c0 c1 c2 c3 c4 c5 c6 c7 qq1 qq2 qq3 qq4 qq5 qq6 qq7
    generalize tf ++ tt ++ tp ++ tq ++ ts ++ ta ++ tl ++ tn = HD at *
    clear l0 l1 l2 l3 l4 l5 l6 l7
    go_wp2_with (fail)
    have hst : joinOf (([] : List Ov).map optTx) = ⟨#[]⟩ := rfl
    go_loopw [3, 4] (fun t i wr => ∃ k : Nat, k ≤ x.opts.length ∧ i = .int .i64 k ∧ t = .string (HD ++ joinOf ((x.opts.take k).map optTx)) ∧ Cel wr w.heap.size 36 (x.cells (.slice va x.opts.length vc)) ∧ Below w.heap.size w wr) (fun _ i _ => x.opts.length - (intOf i).toNat)
    case atStart => exact ⟨0, by omega, rfl, by rw [List.take_zero, hst, app_nil2], hC, hB⟩
    case round =>
      clear hC hB hst
      obtain ⟨k, hk, rfl, rfl, hC, hB⟩ := hrel
      have k7 := (hC.cell 7).trans (x.ats _).2.2.2.2.2.2.2.1
      have hjs := join_take_le (x.opts.map optTx) (fun p hp => by obtain ⟨o, -, rfl⟩ := List.mem_map.1 hp; exact optTx_le o) k (by rw [List.length_map]; exact hk)
      rw [← List.map_take] at hjs
      by_cases hlt : k < x.opts.length
      · have q : (k : Int) < (x.opts.length : Int) := by omega
        have q2 : (0 : Int) ≤ (k : Int) := by omega
        obtain ⟨_, _, he, h⟩ := hv.below hB
        injection he with e1 e2 e3
        subst e1 e3
        obtain ⟨b, off, ha, h3⟩ := h (by omega)
        subst ha
        obtain ⟨u, r1, r2⟩ := h3 k hlt
        clear h3 h
        have ld := r1.load
        have co := spec_optText x.opts[k] u wr r2 (hbig _ (List.getElem_mem hlt))
        have hol := optTx_le x.opts[k]
        have hsn : joinOf ((x.opts.take (k + 1)).map optTx) = joinOf ((x.opts.take k).map optTx) ++ optTx x.opts[k] := by
          rw [List.take_succ_eq_append_getElem hlt, List.map_append]
          exact joinOf_snoc _ _
        generalize optTx x.opts[k] = new at *
        generalize x.opts[k] = o at *
        generalize joinOf ((x.opts.take k).map optTx) = jt at *
        have HS := Lib.hid hsn
        have qs : HD.size + jt.size + new.size ≤ 9223372036854775807 := by omega
        clear hsn r1 r2
        go_wp2_with (fail)
        with_reducible refine co.mono ?_
        rintro e w2 ⟨rfl, hb2⟩
        have hC2 := hC.kept hb2
        have hB2 := Below.then_ hB hb2
        clear hC hB hb2 ld co k7
        go_wp2_with (fail)
        go_roundw
        case rel => exact ⟨k + 1, by omega, by go_num, by rw [HS.out, ByteArray.append_assoc], hC2, hB2⟩
        case measure => simp [intOf]; omega
      · obtain rfl : k = x.opts.length := by omega
        have q : ¬ (x.opts.length : Int) < (x.opts.length : Int) := by omega
        rw [List.take_length] at *
        generalize joinOf (x.opts.map optTx) = jt at *
        have qa : HD.size + jt.size ≤ 2000000000 := by omega
        have qz : (HD ++ jt).size ≤ 2000000000 := by rw [ByteArray.size_append]; exact qa
        generalize HD ++ jt = sj at *
        have q1 : sj.size + td.size ≤ 9223372036854775807 := by omega
        have q2 : sj.size + td.size + x.data.size ≤ 9223372036854775807 := by omega
        have S1 := seg_drew hC hB
        clear hC hB
        go_wp2_with (fail)
        refine wp_region_held_drew (S := fun W => W.cell? ⟨w.heap.size, 0, none⟩ = some (.int .i64 x.frm) ∧ W.cell? ⟨w.heap.size, 1, none⟩ = some (.int .i64 x.to) ∧ W.cell? ⟨w.heap.size, 2, none⟩ = some (.int .i64 x.port) ∧ W.cell? ⟨w.heap.size, 3, none⟩ = some (.int .i64 x.peer) ∧ W.cell? ⟨w.heap.size, 4, none⟩ = some (.int .i64 x.seq) ∧ W.cell? ⟨w.heap.size, 5, none⟩ = some (.int .i64 x.ack) ∧ W.cell? ⟨w.heap.size, 6, none⟩ = some (.int .i64 x.flags) ∧ W.cell? ⟨w.heap.size, 7, none⟩ = some (.slice va x.opts.length vc) ∧ W.cell? ⟨w.heap.size, 8, none⟩ = some (.string x.data) ∧ Cel W w.heap.size 36 (x.cells (.slice va x.opts.length vc)) ∧ Below w.heap.size w W) (by kernel_rfl) S1 (fun hHeld => ?_)
        refine take_yes (i := 0) (oi := { dst := some 55, op := Op.move (Operand.tmp 3), type := 9, pos := "l07_segments.go:37", after := #[], guard := none }) (v := .string sj) rfl (by kernel_rfl) (by kernel_rfl) (by kernel_rfl) (fun _ _ _ h => h) (by rfl) (fun w hSw => by (try dsimp only at hSw); go_simp) (by assumption) ?_
        try simp only [Act.put, List.setIfInBounds_toArray, List.set_cons_zero, List.set_cons_succ]
        refine take_yes (i := 1) (oi := { dst := some 56, op := Op.fieldAddr 36 (Operand.tmp 1) 8, type := 0, pos := "l07_segments.go:37", after := #[], guard := none }) (v := .pointer (some ⟨w.heap.size, 8, none⟩)) rfl (by kernel_rfl) (by kernel_rfl) (by kernel_rfl) (fun _ _ _ h => h) (by rfl) (fun w hSw => by (try dsimp only at hSw); go_simp) (by assumption) ?_
        try simp only [Act.put, List.setIfInBounds_toArray, List.set_cons_zero, List.set_cons_succ]
        refine take_yes (i := 2) (oi := { dst := some 57, op := Op.load 9 (Operand.tmp 56), type := 9, pos := "l07_segments.go:37", after := #[{ on := 1, ground := Ground.data }], guard := none }) (v := .string x.data) rfl (by kernel_rfl) (by kernel_rfl) (by kernel_rfl) (fun _ _ _ h => h) (by rfl) (fun w hSw => by (try dsimp only at hSw); go_simp) (by assumption) ?_
        try simp only [Act.put, List.setIfInBounds_toArray, List.set_cons_zero, List.set_cons_succ]
        refine take_yes (i := 3) (oi := { dst := some 58, op := Op.call { callee := Callee.builtin Builtin.len, args := #[Operand.tmp 57], argTypes := #[9] }, type := 3, pos := "l07_segments.go:37", after := #[{ on := 2, ground := Ground.data }], guard := none }) (v := .int .i64 (x.data.size : Int)) rfl (by kernel_rfl) (by kernel_rfl) (by kernel_rfl) (fun _ _ _ h => h) (by rfl) (fun w hSw => by (try dsimp only at hSw); go_simp) (by assumption) ?_
        try simp only [Act.put, List.setIfInBounds_toArray, List.set_cons_zero, List.set_cons_succ]
        refine take_yes (i := 6) (oi := { dst := some 61, op := Op.fieldAddr 36 (Operand.tmp 1) 8, type := 0, pos := "l07_segments.go:37", after := #[], guard := none }) (v := .pointer (some ⟨w.heap.size, 8, none⟩)) rfl (by kernel_rfl) (by kernel_rfl) (by kernel_rfl) (fun _ _ _ h => h) (by rfl) (fun w hSw => by (try dsimp only at hSw); go_simp) (by assumption) ?_
        try simp only [Act.put, List.setIfInBounds_toArray, List.set_cons_zero, List.set_cons_succ]
        refine take_yes (i := 7) (oi := { dst := some 62, op := Op.load 9 (Operand.tmp 61), type := 9, pos := "l07_segments.go:37", after := #[{ on := 6, ground := Ground.data }], guard := none }) (v := .string x.data) rfl (by kernel_rfl) (by kernel_rfl) (by kernel_rfl) (fun _ _ _ h => h) (by rfl) (fun w hSw => by (try dsimp only at hSw); go_simp) (by assumption) ?_
        try simp only [Act.put, List.setIfInBounds_toArray, List.set_cons_zero, List.set_cons_succ]
        refine wpAnyH_ready (rs := [4]) (by kernel_rfl) (by simp) ?_
        refine AllReadyH.cons (o := { dst := some 59, op := Op.call { callee := Callee.value (Operand.func 46), args := #[Operand.tmp 58, Operand.const (Value.int IntKind.i64 2)], argTypes := #[3, 3] }, type := 9, pos := "l07_segments.go:37", after := #[{ on := 3, ground := Ground.data }], guard := none }) rfl (fun K hK => ?_) AllReadyH.nil
        go_simp
        with_reducible refine (c8 _).mono ?_
        rintro e w9 ⟨rfl, hb9⟩
        refine hK.out _ _ (seg_keep (by assumption) hb9) (fun hHeld => ?_)
        clear hK K
        try simp only [Act.put, List.setIfInBounds_toArray, List.set_cons_zero, List.set_cons_succ]
        refine take_yes (i := 5) (oi := { dst := some 60, op := Op.binOp BinOp.add 9 (Operand.tmp 55) (Operand.tmp 59) 9, type := 9, pos := "l07_segments.go:37", after := #[{ on := 0, ground := Ground.data }, { on := 4, ground := Ground.data }], guard := none }) (v := .string (sj ++ td)) rfl (by kernel_rfl) (by kernel_rfl) (by kernel_rfl) (fun _ _ _ h => h) (by rfl) (fun w hSw => by (try dsimp only at hSw); go_simp) (by assumption) ?_
        try simp only [Act.put, List.setIfInBounds_toArray, List.set_cons_zero, List.set_cons_succ]
        refine take_yes (i := 8) (oi := { dst := some 63, op := Op.binOp BinOp.add 9 (Operand.tmp 60) (Operand.tmp 62) 9, type := 9, pos := "l07_segments.go:37", after := #[{ on := 5, ground := Ground.data }, { on := 7, ground := Ground.data }], guard := none }) (v := .string (sj ++ td ++ x.data)) rfl (by kernel_rfl) (by kernel_rfl) (by kernel_rfl) (fun _ _ _ h => h) (by rfl) (fun w hSw => by (try dsimp only at hSw); go_simp) (by assumption) ?_
        try simp only [Act.put, List.setIfInBounds_toArray, List.set_cons_zero, List.set_cons_succ]
        refine take_yes (i := 9) (oi := { dst := some 2, op := Op.assign (Operand.tmp 63), type := 9, pos := "l07_segments.go:37", after := #[{ on := 8, ground := Ground.data }, { on := 4, ground := Ground.chain }, { on := 0, ground := Ground.phase }, { on := 1, ground := Ground.phase }, { on := 2, ground := Ground.phase }, { on := 3, ground := Ground.phase }, { on := 4, ground := Ground.phase }, { on := 5, ground := Ground.phase }, { on := 6, ground := Ground.phase }, { on := 7, ground := Ground.phase }, { on := 8, ground := Ground.phase }], guard := none }) (v := .string (sj ++ td ++ x.data)) rfl (by kernel_rfl) (by kernel_rfl) (by kernel_rfl) (fun _ _ _ h => h) (by rfl) (fun w hSw => by (try dsimp only at hSw); go_simp) (by assumption) ?_
        try simp only [Act.put, List.setIfInBounds_toArray, List.set_cons_zero, List.set_cons_succ]
        refine wpAnyH_done (by kernel_rfl) ?_ _
        have S9 : w9.cell? ⟨w.heap.size, 0, none⟩ = some (.int .i64 x.frm) ∧ w9.cell? ⟨w.heap.size, 1, none⟩ = some (.int .i64 x.to) ∧ w9.cell? ⟨w.heap.size, 2, none⟩ = some (.int .i64 x.port) ∧ w9.cell? ⟨w.heap.size, 3, none⟩ = some (.int .i64 x.peer) ∧ w9.cell? ⟨w.heap.size, 4, none⟩ = some (.int .i64 x.seq) ∧ w9.cell? ⟨w.heap.size, 5, none⟩ = some (.int .i64 x.ack) ∧ w9.cell? ⟨w.heap.size, 6, none⟩ = some (.int .i64 x.flags) ∧ w9.cell? ⟨w.heap.size, 7, none⟩ = some (.slice va x.opts.length vc) ∧ w9.cell? ⟨w.heap.size, 8, none⟩ = some (.string x.data) ∧ Cel w9 w.heap.size 36 (x.cells (.slice va x.opts.length vc)) ∧ Below w.heap.size w w9 := by assumption
        have hB9 := S9.2.2.2.2.2.2.2.2.2.2
        clear S1 S9 hb9
        go_wp2_with (fail)
        go_ret
        exact ⟨by rw [HR.out.1]; rfl, hB9⟩
  · have hr := segTx_no x hg
    have hgr := segB_no x hg
    rw [hr]
    have HR := Lib.hid hgr
    clear hgr hg hr
    go_enter Try.func33, Try.ntmps33
    go_wp2_with (fail)
    with_reducible refine ck.mono ?_
    rintro e w0 ⟨rfl, hb0⟩
    rw [HR.out]
    clear f0
    go_wp2_with (fail)
    go_ret
    exact ⟨rfl, Below.then_ hB0 hb0⟩
end Go.Proofs.Ytnlbeoifmdfbjaa
