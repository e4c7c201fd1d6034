import Derived.Test.YtihogaabojnbpaaGtr
import Derived.Test.YtihogaabojnbpaaGtl
import Derived.Test.YtihogaabojnbpaaRqd
namespace Go.Proofs.Ytihogaabojnbpaa
open Go.RowKit

/-- integers, made anew for a law -/
theorem to_intsK (v : Value) (zs : List Int) (w : World) (hv : RdE intK w v zs) (hn : zs.length ≤ 1048576) :
    Calls Try.prog 27 #[v] w fun e w' => ∃ v', e = .returned v' ∧ OwnE intK w' w.heap.size w'.heap.size v' zs ∧ Below w.heap.size w w' := by
  refine (to_ints v zs w (rd_of_ints hv) hn).mono ?_
  rintro e w' ⟨v', rfl, h, hb⟩
  have h1 := irow_own h
  refine ⟨v', rfl, ⟨h1.1, fun g hg => ?_⟩, hb⟩
  rcases h1.1.2 with ⟨rfl, -⟩ | ⟨g', cap', cur, rfl, -, hh, -⟩
  · cases hg
  · simp [Value.ownBlock] at hg
    subst hg
    exact (Array.getElem?_eq_some_iff.1 hh).1
theorem eq_intsK (v u : Value) (zs : List Int) (w : World) (hv : RdE intK w v zs) (hu : RdE intK w u zs) (hn : zs.length ≤ 1048576) :
    Calls Try.prog 29 #[v, u] w fun e w' => e = .returned (.bool true) ∧ Below w.heap.size w w' := below_q (eq_ints v u zs w (rd_of_ints hv) (rd_of_ints hu) hn)

/-- The frame of this law: the argument's box and rows; the model's answer, the program's argument, its answer. -/
abbrev F4 (w W : World) (b0 b1 b2 b4 : Nat) (u x g : Value) (os : List Bool) (xs : List Int) (gs : List Bool) : Prop := Fr4 boolK intK intK w W b0 b1 b2 b2 b4 u x (.slice none 0 0) g os xs [] gs

set_option maxRecDepth 100000 in
set_option maxHeartbeats 4000000 in
theorem runbucket_law (b : Bt) (v : Value) (zs : List Int) (w : World) (hv : RdE intK w v zs) (hn : zs.length ≤ 9223372036854775807) :
    Calls Try.prog 8 #[.agg #[.int .i64 b.rate, .int .i64 b.burst, .int .i64 b.hav], v] w fun e w' => e = .returned (.bool true) ∧ Below w.heap.size w w' := by
  obtain ⟨va, vc, rfl⟩ := hv.form
  by_cases h1 : zs.length ≤ 1048576
  · have q : ¬ (1048576 : Int) < (zs.length : Int) := by omega
    have cB := fun W => to_bucket b W
    have cT := fun W h => to_intsK (.slice va zs.length vc) zs W h h1
    have cS := fun u W h => spec_run b u zs W h (by omega)
    have cI := fun u W h => impl_run b u zs W h (by omega)
    have hol := run_len b zs
    generalize runB b zs = os at *
    have cE := fun v u W hv hu => eq_bools v u os W hv hu (by omega)
    have cN := fun v u W hv hu => eq_intsK v u zs W hv hu h1
    have hb0 : Below w.heap.size w (w.alloc (.cells #[.int .i64 b.rate, .int .i64 b.burst, .int .i64 b.hav] 37)) := below_new _ _
    obtain ⟨c0, c1, c2⟩ := cel3b (Cel.new w 37 #[.int .i64 b.rate, .int .i64 b.burst, .int .i64 b.hav])
    have HV := Lib.hid (fun W (h : Below w.heap.size w W) => hv.below h)
    have HC := Lib.hid (show ∀ W, Below (w.heap.size + 1) (w.alloc (.cells #[.int .i64 b.rate, .int .i64 b.burst, .int .i64 b.hav] 37)) W → W.cell? ⟨w.heap.size, 0, none⟩ = some (.int .i64 b.rate) ∧ W.cell? ⟨w.heap.size, 1, none⟩ = some (.int .i64 b.burst) ∧ W.cell? ⟨w.heap.size, 2, none⟩ = some (.int .i64 b.hav) from fun W h => cel3b ((Cel.new w 37 #[.int .i64 b.rate, .int .i64 b.burst, .int .i64 b.hav]).below h (Nat.lt_succ_self _)))
    have HB0 := Lib.hid hb0
    clear hb0 h1 hv
    obtain ⟨W0, hW0⟩ : ∃ W0, w.alloc (.cells #[.int .i64 b.rate, .int .i64 b.burst, .int .i64 b.hav] 37) = W0 := ⟨_, rfl⟩
    have hz0 : W0.heap.size = w.heap.size + 1 := by rw [← hW0]; simp
    rw [hW0] at HC HB0 c0 c1 c2
    have HD := Lib.hid (show ∀ W, Below W0.heap.size W0 W → (Below w.heap.size w W ∧ W.cell? ⟨w.heap.size, 0, none⟩ = some (.int .i64 b.rate) ∧ W.cell? ⟨w.heap.size, 1, none⟩ = some (.int .i64 b.burst) ∧ W.cell? ⟨w.heap.size, 2, none⟩ = some (.int .i64 b.hav)) from fun W h => ⟨HB0.out.trans (h.mono (by omega)), HC.out W (by rw [← hz0]; exact h)⟩)
    clear HC HB0 hz0
    have HW0 := Lib.hid hW0
    clear hW0
    go_enter Try.func8, Try.ntmps8
    go_upto_region 3 with (fail)
    rw [HW0.out]
    clear HW0
    go_wp2_with (fail)
    with_reducible refine (cB _).mono ?_
    rintro e w1 ⟨rfl, b1⟩
    clear c0 c1 c2
    go_wp2_with (fail)
    with_reducible refine (cT _ (HV.out _ (HD.out _ b1).1)).mono ?_
    rintro e w2 ⟨x, rfl, o2, b2⟩
    have H2 := Lib.hid (And.intro (Below.then_ b1 b2) o2)
    clear b1 b2 o2
    go_wp2_with (fail)
    with_reducible refine (cS _ _ H2.out.2.rd).mono ?_
    rintro e w3 ⟨u, rfl, o3, b3⟩
    have H3 := Lib.hid (And.intro (Below.then_ H2.out.1 b3) (And.intro o3 (show W0.heap.size ≤ w2.heap.size ∧ w2.heap.size ≤ w3.heap.size from ⟨H2.out.1.size, b3.size⟩)))
    obtain ⟨ua, uc, rfl, -⟩ := o3.form
    clear H2 b3 o3
    go_wp2_with (fail)
    with_reducible refine (cT _ (HV.out _ (HD.out _ H3.out.1).1)).mono ?_
    rintro e w4 ⟨x, rfl, o4, b4⟩
    have h4 := Below.then_ H3.out.1 b4
    obtain ⟨c0, c1, c2⟩ := (HD.out _ h4).2
    have H4 := Lib.hid (And.intro h4 (And.intro (H3.out.2.1.keep b4 (Nat.le_refl _)) (And.intro o4 (And.intro H3.out.2.2 b4.size))))
    obtain ⟨xa, xc, rfl, -⟩ := o4.form
    clear H3 b4 o4 h4
    go_wp2_with (fail)
    with_reducible refine (cB _).mono ?_
    rintro e w5 ⟨rfl, b5⟩
    have H5 := Lib.hid (And.intro (Below.then_ H4.out.1 b5) (And.intro (H4.out.2.1.keep b5 H4.out.2.2.2.2) (And.intro (H4.out.2.2.1.full b5) (And.intro H4.out.2.2.2.1 (Nat.le_trans H4.out.2.2.2.2 b5.size)))))
    clear H4 b5 c0 c1 c2
    go_wp2_with (fail)
    with_reducible refine (cI _ _ H5.out.2.2.1.rd).mono ?_
    rintro e w6 ⟨g, rfl, o6, b6⟩
    obtain ⟨b0, hb0⟩ : ∃ n, w2.heap.size = n := ⟨_, rfl⟩
    obtain ⟨b1, hb1⟩ : ∃ n, w3.heap.size = n := ⟨_, rfl⟩
    obtain ⟨b2, hb2⟩ : ∃ n, w5.heap.size = n := ⟨_, rfl⟩
    obtain ⟨b4, hb4⟩ : ∃ n, w6.heap.size = n := ⟨_, rfl⟩
    obtain ⟨ga, gc, rfl, -⟩ := o6.form
    have Q : F4 W0 w6 b0 b1 b2 b4 (.slice ua os.length uc) (.slice xa zs.length xc) (.slice ga os.length gc) os zs os := by
      obtain ⟨p1, p2, p3, ⟨p4, p5⟩, p6⟩ := H5.out
      rw [hb0] at p2 p4 p5
      rw [hb1] at p2 p3 p5 p6
      rw [hb2] at p3 p6 o6
      rw [hb4] at o6
      exact ⟨p2.keep b6 (by omega), p3.keep b6 (by omega), OwnE.nil, o6, Below.then_ p1 b6, p4, p5, p6, Nat.le_refl _, by rw [← hb2, ← hb4]; exact b6.size, Nat.le_of_eq hb4.symm⟩
    have Q6 := Lib.hid Q
    clear H5 b6 o6 Q hb0 hb1 hb2 hb4
    go_wp2_with (fail)
    with_reducible refine (cE _ _ _ Q6.out.g.rd Q6.out.m.rd).mono ?_
    rintro e w7 ⟨rfl, b7⟩
    have Q7 := Lib.hid (Q6.out.kept b7)
    clear Q6 b7
    go_wp2_with (fail)
    with_reducible refine (cT _ (HV.out _ (HD.out _ Q7.out.b).1)).mono ?_
    rintro e w8 ⟨y, rfl, o8, b8⟩
    have Q8 := Lib.hid (And.intro (Q7.out.kept b8) o8)
    clear Q7 b8 o8
    go_wp2_with (fail)
    with_reducible refine (cN _ _ _ Q8.out.1.x.rd Q8.out.2.rd).mono ?_
    rintro e w9 ⟨rfl, b9⟩
    have Q9 := Lib.hid (Q8.out.1.kept b9)
    clear Q8 b9
    have cm := mark_ints2 _ zs w9 b1 b2 1 Q9.out.x (by omega) (by omega)
    have ck := fun g W (h : OwnE boolK W b2 b4 g os) => mark_bools g os W b2 b4 1 h (by omega) (by omega)
    have ch := fun g W h => held_bools g 1 os.length W h (by omega) (by omega)
    rw [show (((1 : Nat) : Int)) = (1 : Int) from rfl] at cm
    simp only [show (((1 : Nat) : Int)) = (1 : Int) from rfl] at ck ch
    have hq1 : ¬ ((1 + zs.length : Nat) : Int) < 0 := by omega
    have hq2 : ¬ ((1 + os.length : Nat) : Int) < 0 := by omega
    generalize ((1 + zs.length : Nat) : Int) = k1 at *
    generalize ((1 + os.length : Nat) : Int) = k2 at *
    go_wp2_with (fail)
    with_reducible refine cm.mono ?_
    rintro e w10 ⟨rfl, hx, hb, hz, ho⟩
    have Q10 := Lib.hid (Q9.out.markX hx hb hz ho)
    clear Q9 hx hb hz ho cm
    go_wp2_with (fail)
    with_reducible refine (cE _ _ _ Q10.out.g.rd Q10.out.m.rd).mono ?_
    rintro e w11 ⟨rfl, b11⟩
    have Q11 := Lib.hid (Q10.out.kept b11)
    clear Q10 b11
    go_wp2_with (fail)
    with_reducible refine (ck _ _ Q11.out.g).mono ?_
    rintro e w12 ⟨rfl, hg, hb, hz, -⟩
    have Q12 := Lib.hid (Q11.out.markG hg hb (Nat.le_of_eq hz.symm))
    clear Q11 hg hb hz ck
    go_wp2_with (fail)
    with_reducible refine (ch _ _ Q12.out.g.rd).mono ?_
    rintro e w13 ⟨rfl, rfl⟩
    obtain ⟨c0, c1, c2⟩ := (HD.out _ Q12.out.b).2
    go_wp2_with (fail)
    with_reducible refine (cB _).mono ?_
    rintro e w14 ⟨rfl, b14⟩
    have Q14 := Lib.hid (Q12.out.kept b14)
    clear Q12 b14 c0 c1 c2
    go_wp2_with (fail)
    with_reducible refine (cT _ (HV.out _ (HD.out _ Q14.out.b).1)).mono ?_
    rintro e w15 ⟨y, rfl, o15, b15⟩
    have Q15 := Lib.hid (And.intro (Q14.out.kept b15) o15)
    clear Q14 b15 o15
    go_wp2_with (fail)
    with_reducible refine (cI _ _ Q15.out.2.rd).mono ?_
    rintro e w16 ⟨h, rfl, o16, b16⟩
    obtain ⟨ha, hc, rfl, -⟩ := o16.form
    have Q16 := Lib.hid (And.intro (Q15.out.1.kept b16) o16.rd)
    clear Q15 b16 o16
    go_wp2_with (fail)
    with_reducible refine (cE _ _ _ Q16.out.2 Q16.out.1.m.rd).mono ?_
    rintro e w17 ⟨rfl, b17⟩
    have Q17 := Lib.hid (Q16.out.1.kept b17)
    clear Q16 b17
    go_wp2_with (fail)
    with_reducible refine (ch _ _ Q17.out.g.rd).mono ?_
    rintro e w18 ⟨rfl, rfl⟩
    have HB := Lib.hid (HD.out _ Q17.out.b).1
    clear Q17
    go_wp2_with (fail)
    go_ret
    exact ⟨rfl, HB.out⟩
  · have q : (1048576 : Int) < (zs.length : Int) := by omega
    have HB := Lib.hid (show Below w.heap.size w (w.alloc (.cells #[.int .i64 b.rate, .int .i64 b.burst, .int .i64 b.hav] 37)) from below_new _ _)
    clear h1 hv
    go_enter Try.func8, Try.ntmps8
    go_wp2_with (fail)
    go_ret
    exact ⟨rfl, HB.out⟩
end Go.Proofs.Ytihogaabojnbpaa
