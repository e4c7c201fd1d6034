import Derived.Test.YtmokepopmfcdnaaRl1
import Derived.Test.YtmokepopmfcdnaaRl2
import Derived.Test.YtmokepopmfcdnaaRws
import Derived.Test.YtmokepopmfcdnaaAmk
namespace Go.Proofs.Ytmokepopmfcdnaa
open Go.RowKit

set_option maxRecDepth 100000 in
set_option maxHeartbeats 8000000 in
theorem wantedof_law (kd mn : Int) (v : Value) (ms : List Av) (v2 : Value) (ns : List Av) (w : World) (hv : RdV w v ms) (hn : ms.length ≤ 9223372036854775807) (_hw : ∀ x ∈ ms, (Lit.int .i64 x.id).wf = true) (hv2 : RdV w v2 ns) (hn2 : ns.length ≤ 9223372036854775807) (_hw2 : ∀ x ∈ ns, (Lit.int .i64 x.id).wf = true) :
    Calls Try.prog 5 #[.agg #[.int .i64 kd, .int .i64 mn], v, v2] w fun e w' => e = .returned (.bool true) ∧ Below w.heap.size w w' := by
  have hbx : Below w.heap.size w (w.alloc (.cells #[.int .i64 kd, .int .i64 mn] 39)) := below_new _ _
  obtain ⟨k0, k1⟩ := cel2a (Cel.new w 39 #[.int .i64 kd, .int .i64 mn])
  have hv := hv.below hbx
  have hv2 := hv2.below hbx
  have z1 := fun W h => sz_addrS v ms 1048576 W h hn (by omega) (by omega)
  by_cases h1 : (1048576 : Int) - (ms.length : Int) < 0
  · simp only [if_pos h1] at z1
    clear h1 hv2
    clear k0 k1
    go_enter Try.func5, Try.ntmps5
    go_wp2_with (fail)
    generalize (w.alloc (.cells #[.int .i64 kd, .int .i64 mn] 39)) = w0 at *
    with_reducible refine (z1 _ hv).mono ?_
    rintro e w1 ⟨rfl, rfl⟩
    clear z1 hv
    go_wp2_with (fail)
    go_ret
    exact ⟨rfl, hbx⟩
  · simp only [if_neg h1] at z1
    have hl : ms.length ≤ 1048576 := by omega
    have q : ¬ ((1048576 : Int) - (ms.length : Int) < 0) := h1
    generalize hr : (1048576 : Int) - (ms.length : Int) = r at *
    have z2 := fun W h => sz_addrS v2 ns r W h hn2 (by omega) (by omega)
    by_cases h2 : r - (ns.length : Int) < 0
    · simp only [if_pos h2] at z2
      clear h1 h2 hr
      clear k0 k1
      go_enter Try.func5, Try.ntmps5
      go_wp2_with (fail)
      generalize (w.alloc (.cells #[.int .i64 kd, .int .i64 mn] 39)) = w0 at *
      with_reducible refine (z1 _ hv).mono ?_
      rintro e w1 ⟨rfl, rfl⟩
      clear z1 hv
      go_wp2_with (fail)
      with_reducible refine (z2 _ hv2).mono ?_
      rintro e w2 ⟨rfl, rfl⟩
      clear z2 hv2
      go_wp2_with (fail)
      go_ret
      exact ⟨rfl, hbx⟩
    · simp only [if_neg h2] at z2
      have hl2 : ns.length ≤ 1048576 := by omega
      have q2 : ¬ (r - (ns.length : Int) < 0) := h2
      generalize r - (ns.length : Int) = r2 at *
      clear hr h1 h2
      have cT1 := fun W h => to_addrS v ms W h hl
      have cT2 := fun W h => to_addrS v2 ns W h hl2
      have hal : (wantR kd mn ms ns).length ≤ 1048576 := by have := want_len kd mn ms ns; omega
      have cS := fun u1 u2 W h1 h2 => spec_wanted kd mn u1 u2 ms ns W h1 h2
      have cI := fun u1 u2 W h1 h2 => impl_wanted kd mn u1 u2 ms ns W h1 h2
      have cE1 := fun u1 u2 W h1 h2 => eq_addrS u1 u2 ms W h1 h2 hn
      have cE2 := fun u1 u2 W h1 h2 => eq_addrS u1 u2 ns W h1 h2 hn2
      have cP := fun W => to_policy kd mn W
      generalize wantR kd mn ms ns = os at *
      have cE := fun u1 u2 W h1 h2 => eq_roadS u1 u2 os W h1 h2 (by omega)
      go_enter Try.func5, Try.ntmps5
      go_wp2_with (fail)
      generalize (w.alloc (.cells #[.int .i64 kd, .int .i64 mn] 39)) = w0 at *
      with_reducible refine (z1 _ hv).mono ?_
      rintro e w1 ⟨rfl, rfl⟩
      clear z1
      go_wp2_with (fail)
      with_reducible refine (z2 _ hv2).mono ?_
      rintro e w2 ⟨rfl, rfl⟩
      clear z2
      have HBASEv := Lib.hid (fun W (h : Below w0.heap.size w0 W) => hv.below h)
      have HBASEv2 := Lib.hid (fun W (h : Below w0.heap.size w0 W) => hv2.below h)
      have HBASEk0 := Lib.hid (fun W (h : Below w0.heap.size w0 W) => keepc' k0 h)
      have HBASEk1 := Lib.hid (fun W (h : Below w0.heap.size w0 W) => keepc' k1 h)
      have H1 := Lib.hid (And.intro (Below.refl w0.heap.size w0) (And.intro (hv) (And.intro (hv2) (And.intro (k0) (And.intro (k1) (hbx))))))
      clear hv hv2 k0 k1 hbx
      have k0 := H1.out.2.2.2.1
      have k1 := H1.out.2.2.2.2.1
      go_wp2_with (fail)
      with_reducible refine (cP _).mono ?_
      rintro e w3 ⟨rfl, b3⟩
      have H2 := Lib.hid (And.intro (Below.then_ (H1.out.1) b3) (And.intro ((H1.out.2.1).below b3) (And.intro ((H1.out.2.2.1).below b3) (And.intro (keepc' (H1.out.2.2.2.1) b3) (And.intro (keepc' (H1.out.2.2.2.2.1) b3) (H1.out.2.2.2.2.2))))))
      clear H1
      clear k0 k1 b3
      go_wp2_with (fail)
      with_reducible refine (cT1 _ (H2.out.2.1)).mono ?_
      rintro e w4 ⟨rfl, o4, b4⟩
      have H3 := Lib.hid (And.intro (Below.then_ (H2.out.1) b4) (And.intro ((H2.out.2.1).below b4) (And.intro ((H2.out.2.2.1).below b4) (And.intro (keepc' (H2.out.2.2.2.1) b4) (And.intro (keepc' (H2.out.2.2.2.2.1) b4) (And.intro (H2.out.2.2.2.2.2) (o4.rd)))))))
      clear H2
      clear o4 b4
      go_wp2_with (fail)
      with_reducible refine (cT2 _ (H3.out.2.2.1)).mono ?_
      rintro e w5 ⟨rfl, o5, b5⟩
      have H4 := Lib.hid (And.intro (Below.then_ (H3.out.1) b5) (And.intro ((H3.out.2.1).below b5) (And.intro ((H3.out.2.2.1).below b5) (And.intro (keepc' (H3.out.2.2.2.1) b5) (And.intro (keepc' (H3.out.2.2.2.2.1) b5) (And.intro (H3.out.2.2.2.2.2.1) (And.intro ((H3.out.2.2.2.2.2.2).below b5) (o5.rd))))))))
      clear H3
      clear o5 b5
      go_wp2_with (fail)
      with_reducible refine (cS _ _ _ (H4.out.2.2.2.2.2.2.1) (H4.out.2.2.2.2.2.2.2)).mono ?_
      rintro e w6 ⟨u, rfl, o6, b6⟩
      obtain ⟨ua, uc, rfl, -⟩ := o6.form
      have H5 := Lib.hid (And.intro (Below.then_ (H4.out.1) b6) (And.intro ((H4.out.2.1).below b6) (And.intro ((H4.out.2.2.1).below b6) (And.intro (keepc' (H4.out.2.2.2.1) b6) (And.intro (keepc' (H4.out.2.2.2.2.1) b6) (And.intro (H4.out.2.2.2.2.2.1) (And.intro (o6) (And.intro (Nat.le_refl w6.heap.size) (And.intro (show w0.heap.size ≤ w5.heap.size from (H4.out.1).size) (b6.size))))))))))
      clear H4
      clear o6 b6
      go_wp2_with (fail)
      with_reducible refine (cT1 _ (H5.out.2.1)).mono ?_
      rintro e w7 ⟨rfl, o7, b7⟩
      have H6 := Lib.hid (And.intro (Below.then_ (H5.out.1) b7) (And.intro ((H5.out.2.1).below b7) (And.intro ((H5.out.2.2.1).below b7) (And.intro (keepc' (H5.out.2.2.2.1) b7) (And.intro (keepc' (H5.out.2.2.2.2.1) b7) (And.intro (H5.out.2.2.2.2.2.1) (And.intro ((H5.out.2.2.2.2.2.2.1).keep b7 (H5.out.2.2.2.2.2.2.2.1)) (And.intro (Nat.le_trans (H5.out.2.2.2.2.2.2.2.1) b7.size) (And.intro (H5.out.2.2.2.2.2.2.2.2.1) (And.intro (H5.out.2.2.2.2.2.2.2.2.2) (And.intro (o7.mono (Nat.le_refl _) (Nat.succ_le_of_lt o7.lt)) (Nat.le_refl w7.heap.size))))))))))))
      clear H5
      clear o7 b7
      go_wp2_with (fail)
      with_reducible refine (cT2 _ (H6.out.2.2.1)).mono ?_
      rintro e w8 ⟨rfl, o8, b8⟩
      have H7 := Lib.hid (And.intro (Below.then_ (H6.out.1) b8) (And.intro ((H6.out.2.1).below b8) (And.intro ((H6.out.2.2.1).below b8) (And.intro (keepc' (H6.out.2.2.2.1) b8) (And.intro (keepc' (H6.out.2.2.2.2.1) b8) (And.intro (H6.out.2.2.2.2.2.1) (And.intro ((H6.out.2.2.2.2.2.2.1).keep b8 (H6.out.2.2.2.2.2.2.2.1)) (And.intro (Nat.le_trans (H6.out.2.2.2.2.2.2.2.1) b8.size) (And.intro (H6.out.2.2.2.2.2.2.2.2.1) (And.intro (H6.out.2.2.2.2.2.2.2.2.2.1) (And.intro ((H6.out.2.2.2.2.2.2.2.2.2.2.1).keep b8 (H6.out.2.2.2.2.2.2.2.2.2.2.2)) (And.intro (Nat.le_trans (H6.out.2.2.2.2.2.2.2.2.2.2.2) b8.size) (And.intro (o8.mono (Nat.le_refl _) (Nat.succ_le_of_lt o8.lt)) (Nat.le_refl w8.heap.size))))))))))))))
      clear H6
      clear o8 b8
      have k0 := H7.out.2.2.2.1
      have k1 := H7.out.2.2.2.2.1
      go_wp2_with (fail)
      with_reducible refine (cP _).mono ?_
      rintro e w9 ⟨rfl, b9⟩
      have H8 := Lib.hid (And.intro (Below.then_ (H7.out.1) b9) (And.intro ((H7.out.2.1).below b9) (And.intro ((H7.out.2.2.1).below b9) (And.intro (keepc' (H7.out.2.2.2.1) b9) (And.intro (keepc' (H7.out.2.2.2.2.1) b9) (And.intro (H7.out.2.2.2.2.2.1) (And.intro ((H7.out.2.2.2.2.2.2.1).keep b9 (H7.out.2.2.2.2.2.2.2.1)) (And.intro (Nat.le_trans (H7.out.2.2.2.2.2.2.2.1) b9.size) (And.intro (H7.out.2.2.2.2.2.2.2.2.1) (And.intro (H7.out.2.2.2.2.2.2.2.2.2.1) (And.intro ((H7.out.2.2.2.2.2.2.2.2.2.2.1).keep b9 (H7.out.2.2.2.2.2.2.2.2.2.2.2.1)) (And.intro (Nat.le_trans (H7.out.2.2.2.2.2.2.2.2.2.2.2.1) b9.size) (And.intro ((H7.out.2.2.2.2.2.2.2.2.2.2.2.2.1).keep b9 (H7.out.2.2.2.2.2.2.2.2.2.2.2.2.2)) (Nat.le_trans (H7.out.2.2.2.2.2.2.2.2.2.2.2.2.2) b9.size))))))))))))))
      clear H7
      clear k0 k1 b9
      go_wp2_with (fail)
      with_reducible refine (cI _ _ _ ((H8.out.2.2.2.2.2.2.2.2.2.2.1).rd) ((H8.out.2.2.2.2.2.2.2.2.2.2.2.2.1).rd)).mono ?_
      rintro e w10 ⟨g, rfl, o10, b10⟩
      obtain ⟨ga, gc, rfl, -⟩ := o10.form
      have Q : Fr4 rvK avK avK w0 w10 w5.heap.size w6.heap.size w7.heap.size w8.heap.size w10.heap.size (.slice ua os.length uc) (.slice (some ⟨w6.heap.size, 0, none⟩) ms.length ms.length) (.slice (some ⟨w7.heap.size, 0, none⟩) ns.length ns.length) (.slice ga os.length gc) os ms ns os := by
        have hx := H8.out.2.2.2.2.2.2.2.2.2.2.1
        have hy := H8.out.2.2.2.2.2.2.2.2.2.2.2.2.1
        have lx := H8.out.2.2.2.2.2.2.2.2.2.2.2.1
        have ly := H8.out.2.2.2.2.2.2.2.2.2.2.2.2.2
        have hm := H8.out.2.2.2.2.2.2.1
        have lm := H8.out.2.2.2.2.2.2.2.1
        have hB := H8.out.1
        have hs0 := H8.out.2.2.2.2.2.2.2.2.1
        have hs1 := H8.out.2.2.2.2.2.2.2.2.2.1
        have hs2 := hx.lt2
        have hs3 := hy.lt2
        exact ⟨hm.keep b10 lm, hx.keep b10 lx, hy.keep b10 ly, o10.mono ly (Nat.le_refl _), Below.then_ hB b10, hs0, hs1, hs2, hs3, Nat.le_trans ly b10.size, Nat.le_refl _⟩
      have H9 := Lib.hid (And.intro (Q) (And.intro ((H8.out.2.1).below b10) (And.intro ((H8.out.2.2.1).below b10) (And.intro (keepc' (H8.out.2.2.2.1) b10) (And.intro (keepc' (H8.out.2.2.2.2.1) b10) (H8.out.2.2.2.2.2.1))))))
      clear H8
      clear Q o10 b10
      go_wp2_with (fail)
      with_reducible refine (cE _ _ _ (H9.out.1).g.rd (H9.out.1).m.rd).mono ?_
      rintro e w11 ⟨rfl, b11⟩
      have H10 := Lib.hid (And.intro ((H9.out.1).kept b11) (And.intro ((H9.out.2.1).below b11) (And.intro ((H9.out.2.2.1).below b11) (And.intro (keepc' (H9.out.2.2.2.1) b11) (And.intro (keepc' (H9.out.2.2.2.2.1) b11) (H9.out.2.2.2.2.2))))))
      clear H9
      clear b11
      go_wp2_with (fail)
      with_reducible refine (cT1 _ (H10.out.2.1)).mono ?_
      rintro e w12 ⟨rfl, o12, b12⟩
      have H11 := Lib.hid (And.intro ((H10.out.1).kept b12) (And.intro ((H10.out.2.1).below b12) (And.intro ((H10.out.2.2.1).below b12) (And.intro (keepc' (H10.out.2.2.2.1) b12) (And.intro (keepc' (H10.out.2.2.2.2.1) b12) (And.intro (H10.out.2.2.2.2.2) (o12.rd)))))))
      clear H10
      clear o12 b12
      go_wp2_with (fail)
      with_reducible refine (cE1 _ _ _ (H11.out.1).x.rd (H11.out.2.2.2.2.2.2)).mono ?_
      rintro e w13 ⟨rfl, b13⟩
      have H12 := Lib.hid (And.intro ((H11.out.1).kept b13) (And.intro ((H11.out.2.1).below b13) (And.intro ((H11.out.2.2.1).below b13) (And.intro (keepc' (H11.out.2.2.2.1) b13) (And.intro (keepc' (H11.out.2.2.2.2.1) b13) (And.intro (H11.out.2.2.2.2.2.1) ((H11.out.2.2.2.2.2.2).below b13)))))))
      clear H11
      clear b13
      go_wp2_with (fail)
      with_reducible refine (cT2 _ (H12.out.2.2.1)).mono ?_
      rintro e w14 ⟨rfl, o14, b14⟩
      have H13 := Lib.hid (And.intro ((H12.out.1).kept b14) (And.intro ((H12.out.2.1).below b14) (And.intro ((H12.out.2.2.1).below b14) (And.intro (keepc' (H12.out.2.2.2.1) b14) (And.intro (keepc' (H12.out.2.2.2.2.1) b14) (And.intro (H12.out.2.2.2.2.2.1) (And.intro ((H12.out.2.2.2.2.2.2).below b14) (o14.rd))))))))
      clear H12
      clear o14 b14
      go_wp2_with (fail)
      with_reducible refine (cE2 _ _ _ (H13.out.1).y.rd (H13.out.2.2.2.2.2.2.2)).mono ?_
      rintro e w15 ⟨rfl, b15⟩
      have H14 := Lib.hid (And.intro ((H13.out.1).kept b15) (And.intro ((H13.out.2.1).below b15) (And.intro ((H13.out.2.2.1).below b15) (And.intro (keepc' (H13.out.2.2.2.1) b15) (And.intro (keepc' (H13.out.2.2.2.2.1) b15) (And.intro (H13.out.2.2.2.2.2.1) (And.intro ((H13.out.2.2.2.2.2.2.1).below b15) ((H13.out.2.2.2.2.2.2.2).below b15))))))))
      clear H13
      clear b15
      have cm1 := mark_addrS _ ms w15 w6.heap.size w7.heap.size 1 (H14.out.1).x (by omega) (by omega)
      have cm2 := fun W h => mark_addrS (.slice (some ⟨w7.heap.size, 0, none⟩) ns.length ns.length) ns W w7.heap.size w8.heap.size (1 + ms.length * 4) h (by omega) (by omega)
      have ck := fun g W (h : OwnR W w8.heap.size w10.heap.size g os) => mark_roadS g os W w8.heap.size w10.heap.size 1 h (by omega) (by omega)
      have ch := fun g W (h : OwnR W w8.heap.size w10.heap.size g (markR 1 os.length)) => held_roadS g 1 os.length W h.rd (by omega) (by omega)
      rw [show (((1 : Nat) : Int)) = (1 : Int) from rfl] at cm1
      simp only [show (((1 : Nat) : Int)) = (1 : Int) from rfl] at ck ch
      have hq1 : ¬ ((1 + ms.length * 4 + ns.length * 4 : Nat) : Int) < 0 := by omega
      have hq2 : ¬ ((1 + os.length * 3 : Nat) : Int) < 0 := by omega
      generalize ((1 + ms.length * 4 : Nat) : Int) = k1' at *
      generalize ((1 + ms.length * 4 + ns.length * 4 : Nat) : Int) = k2' at *
      generalize ((1 + os.length * 3 : Nat) : Int) = k3' at *
      go_wp2_with (fail)
      with_reducible refine (cm1).mono ?_
      rintro e w16 ⟨rfl, x16, b16, z16, y16⟩
      have H15 := Lib.hid (And.intro ((H14.out.1).markX x16 b16 z16 y16) (And.intro (HBASEv.out _ (((H14.out.1).markX x16 b16 z16 y16).b)) (And.intro (HBASEv2.out _ (((H14.out.1).markX x16 b16 z16 y16).b)) (And.intro (HBASEk0.out _ (((H14.out.1).markX x16 b16 z16 y16).b)) (And.intro (HBASEk1.out _ (((H14.out.1).markX x16 b16 z16 y16).b)) (H14.out.2.2.2.2.2.1))))))
      clear H14
      clear x16 b16 z16 y16
      go_wp2_with (fail)
      with_reducible refine (cm2 _ (H15.out.1).y).mono ?_
      rintro e w17 ⟨rfl, x17, b17, z17, y17⟩
      have H16 := Lib.hid (And.intro ((H15.out.1).markY x17 b17 z17 y17) (And.intro (HBASEv.out _ (((H15.out.1).markY x17 b17 z17 y17).b)) (And.intro (HBASEv2.out _ (((H15.out.1).markY x17 b17 z17 y17).b)) (And.intro (HBASEk0.out _ (((H15.out.1).markY x17 b17 z17 y17).b)) (And.intro (HBASEk1.out _ (((H15.out.1).markY x17 b17 z17 y17).b)) (H15.out.2.2.2.2.2))))))
      clear H15
      clear x17 b17 z17 y17
      go_wp2_with (fail)
      with_reducible refine (cE _ _ _ (H16.out.1).g.rd (H16.out.1).m.rd).mono ?_
      rintro e w18 ⟨rfl, b18⟩
      have H17 := Lib.hid (And.intro ((H16.out.1).kept b18) (And.intro ((H16.out.2.1).below b18) (And.intro ((H16.out.2.2.1).below b18) (And.intro (keepc' (H16.out.2.2.2.1) b18) (And.intro (keepc' (H16.out.2.2.2.2.1) b18) (H16.out.2.2.2.2.2))))))
      clear H16
      clear b18
      go_wp2_with (fail)
      with_reducible refine (ck _ _ (H17.out.1).g).mono ?_
      rintro e w19 ⟨rfl, x19, b19, z19, y19⟩
      have H18 := Lib.hid (And.intro ((H17.out.1).markG x19 b19 (Nat.le_of_eq z19.symm)) (And.intro (HBASEv.out _ (((H17.out.1).markG x19 b19 (Nat.le_of_eq z19.symm)).b)) (And.intro (HBASEv2.out _ (((H17.out.1).markG x19 b19 (Nat.le_of_eq z19.symm)).b)) (And.intro (HBASEk0.out _ (((H17.out.1).markG x19 b19 (Nat.le_of_eq z19.symm)).b)) (And.intro (HBASEk1.out _ (((H17.out.1).markG x19 b19 (Nat.le_of_eq z19.symm)).b)) (H17.out.2.2.2.2.2))))))
      clear H17
      clear x19 b19 z19 y19
      go_wp2_with (fail)
      with_reducible refine (ch _ _ (H18.out.1).g).mono ?_
      rintro e w20 ⟨rfl, rfl⟩
      have k0 := H18.out.2.2.2.1
      have k1 := H18.out.2.2.2.2.1
      go_wp2_with (fail)
      with_reducible refine (cP _).mono ?_
      rintro e w21 ⟨rfl, b21⟩
      have H19 := Lib.hid (And.intro ((H18.out.1).kept b21) (And.intro ((H18.out.2.1).below b21) (And.intro ((H18.out.2.2.1).below b21) (And.intro (keepc' (H18.out.2.2.2.1) b21) (And.intro (keepc' (H18.out.2.2.2.2.1) b21) (H18.out.2.2.2.2.2))))))
      clear H18
      clear k0 k1 b21
      go_wp2_with (fail)
      with_reducible refine (cT1 _ (H19.out.2.1)).mono ?_
      rintro e w22 ⟨rfl, o22, b22⟩
      have H20 := Lib.hid (And.intro ((H19.out.1).kept b22) (And.intro ((H19.out.2.1).below b22) (And.intro ((H19.out.2.2.1).below b22) (And.intro (keepc' (H19.out.2.2.2.1) b22) (And.intro (keepc' (H19.out.2.2.2.2.1) b22) (And.intro (H19.out.2.2.2.2.2) (o22.rd)))))))
      clear H19
      clear o22 b22
      go_wp2_with (fail)
      with_reducible refine (cT2 _ (H20.out.2.2.1)).mono ?_
      rintro e w23 ⟨rfl, o23, b23⟩
      have H21 := Lib.hid (And.intro ((H20.out.1).kept b23) (And.intro ((H20.out.2.1).below b23) (And.intro ((H20.out.2.2.1).below b23) (And.intro (keepc' (H20.out.2.2.2.1) b23) (And.intro (keepc' (H20.out.2.2.2.2.1) b23) (And.intro (H20.out.2.2.2.2.2.1) (And.intro ((H20.out.2.2.2.2.2.2).below b23) (o23.rd))))))))
      clear H20
      clear o23 b23
      go_wp2_with (fail)
      with_reducible refine (cI _ _ _ (H21.out.2.2.2.2.2.2.1) (H21.out.2.2.2.2.2.2.2)).mono ?_
      rintro e w24 ⟨h, rfl, o24, b24⟩
      obtain ⟨ha, hc, rfl, -⟩ := o24.form
      have H22 := Lib.hid (And.intro ((H21.out.1).kept b24) (And.intro ((H21.out.2.1).below b24) (And.intro ((H21.out.2.2.1).below b24) (And.intro (keepc' (H21.out.2.2.2.1) b24) (And.intro (keepc' (H21.out.2.2.2.2.1) b24) (And.intro (H21.out.2.2.2.2.2.1) (o24.rd)))))))
      clear H21
      clear o24 b24
      go_wp2_with (fail)
      with_reducible refine (cE _ _ _ (H22.out.2.2.2.2.2.2) (H22.out.1).m.rd).mono ?_
      rintro e w25 ⟨rfl, b25⟩
      have H23 := Lib.hid (And.intro ((H22.out.1).kept b25) (And.intro ((H22.out.2.1).below b25) (And.intro ((H22.out.2.2.1).below b25) (And.intro (keepc' (H22.out.2.2.2.1) b25) (And.intro (keepc' (H22.out.2.2.2.2.1) b25) (And.intro (H22.out.2.2.2.2.2.1) ((H22.out.2.2.2.2.2.2).below b25)))))))
      clear H22
      clear b25
      go_wp2_with (fail)
      with_reducible refine (ch _ _ (H23.out.1).g).mono ?_
      rintro e w26 ⟨rfl, rfl⟩
      go_wp2_with (fail)
      go_ret
      exact ⟨rfl, Below.then_ (H23.out.2.2.2.2.2.1) (H23.out.1).b⟩
end Go.Proofs.Ytmokepopmfcdnaa
