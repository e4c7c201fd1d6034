import Derived.Test.YtmokepopmfcdnaaRl1
namespace Go.Proofs.Ytmokepopmfcdnaa
open Go.RowKit

theorem OwnE.lt2 {α : Type} {K : EK α} {W : World} {B C g n c : Nat} {xs : List α} (h : OwnE K W B C (.slice (some ⟨g, 0, none⟩) n c) xs) : B ≤ C := by
  have := h.block g rfl
  omega

set_option maxRecDepth 100000 in
set_option maxHeartbeats 8000000 in
theorem missingof_law (v : Value) (ms : List Rv) (v2 : Value) (ns : List Rv) (w : World) (hv : RdR w v ms) (hn : ms.length ≤ 9223372036854775807) (hv2 : RdR w v2 ns) (hn2 : ns.length ≤ 9223372036854775807) :
    Calls Try.prog 6 #[v, v2] w fun e w' => e = .returned (.bool true) ∧ Below w.heap.size w w' := by
  have z1 := fun W h => sz_roadS v ms 1048576 W h hn (by omega) (by omega)
  by_cases h1 : (1048576 : Int) - (ms.length : Int) < 0
  · simp only [if_pos h1] at z1
    clear h1 hv2
    go_enter Try.func6, Try.ntmps6
    go_wp2_with (fail)
    with_reducible refine (z1 _ hv).mono ?_
    rintro e w1 ⟨rfl, rfl⟩
    clear z1 hv
    go_wp2_with (fail)
    go_ret
    exact ⟨rfl, Below.refl _ _⟩
  · simp only [if_neg h1] at z1
    have hl : ms.length ≤ 1048576 := by omega
    have q : ¬ ((1048576 : Int) - (ms.length : Int) < 0) := h1
    generalize hr : (1048576 : Int) - (ms.length : Int) = r at *
    have z2 := fun W h => sz_roadS v2 ns r W h hn2 (by omega) (by omega)
    by_cases h2 : r - (ns.length : Int) < 0
    · simp only [if_pos h2] at z2
      clear h1 h2 hr
      go_enter Try.func6, Try.ntmps6
      go_wp2_with (fail)
      with_reducible refine (z1 _ hv).mono ?_
      rintro e w1 ⟨rfl, rfl⟩
      clear z1 hv
      go_wp2_with (fail)
      with_reducible refine (z2 _ hv2).mono ?_
      rintro e w2 ⟨rfl, rfl⟩
      clear z2 hv2
      go_wp2_with (fail)
      go_ret
      exact ⟨rfl, Below.refl _ _⟩
    · simp only [if_neg h2] at z2
      have hl2 : ns.length ≤ 1048576 := by omega
      have q2 : ¬ (r - (ns.length : Int) < 0) := h2
      generalize r - (ns.length : Int) = r2 at *
      clear hr h1 h2
      have cT1 := fun W h => to_roadS v ms W h hl
      have cT2 := fun W h => to_roadS v2 ns W h hl2
      have hal : (missR ms ns).length ≤ 1048576 := by have := miss_len ms ns; omega
      have cS := fun u1 u2 W h1 h2 => spec_missing u1 u2 ms ns W h1 h2 (by omega) (by omega)
      have cI := fun u1 u2 W h1 h2 => impl_missing u1 u2 ms ns W h1 h2 (by omega) (by omega)
      have cE1 := fun u1 u2 W h1 h2 => eq_roadS u1 u2 ms W h1 h2 hn
      have cE2 := fun u1 u2 W h1 h2 => eq_roadS u1 u2 ns W h1 h2 hn2
      generalize missR ms ns = os at *
      have cE := fun u1 u2 W h1 h2 => eq_roadS u1 u2 os W h1 h2 (by omega)
      go_enter Try.func6, Try.ntmps6
      go_wp2_with (fail)
      with_reducible refine (z1 _ hv).mono ?_
      rintro e w1 ⟨rfl, rfl⟩
      clear z1
      go_wp2_with (fail)
      with_reducible refine (z2 _ hv2).mono ?_
      rintro e w2 ⟨rfl, rfl⟩
      clear z2
      have HBASEv := Lib.hid (fun W (h : Below w.heap.size w W) => hv.below h)
      have HBASEv2 := Lib.hid (fun W (h : Below w.heap.size w W) => hv2.below h)
      have H1 := Lib.hid (And.intro (Below.refl w.heap.size w) (And.intro (hv) (hv2)))
      clear hv hv2
      go_wp2_with (fail)
      with_reducible refine (cT1 _ (H1.out.2.1)).mono ?_
      rintro e w3 ⟨rfl, o3, b3⟩
      have H2 := Lib.hid (And.intro (Below.then_ (H1.out.1) b3) (And.intro ((H1.out.2.1).below b3) (And.intro ((H1.out.2.2).below b3) (o3.rd))))
      clear H1
      clear o3 b3
      go_wp2_with (fail)
      with_reducible refine (cT2 _ (H2.out.2.2.1)).mono ?_
      rintro e w4 ⟨rfl, o4, b4⟩
      have H3 := Lib.hid (And.intro (Below.then_ (H2.out.1) b4) (And.intro ((H2.out.2.1).below b4) (And.intro ((H2.out.2.2.1).below b4) (And.intro ((H2.out.2.2.2).below b4) (o4.rd)))))
      clear H2
      clear o4 b4
      go_wp2_with (fail)
      with_reducible refine (cS _ _ _ (H3.out.2.2.2.1) (H3.out.2.2.2.2)).mono ?_
      rintro e w5 ⟨u, rfl, o5, b5⟩
      obtain ⟨ua, uc, rfl, -⟩ := o5.form
      have H4 := Lib.hid (And.intro (Below.then_ (H3.out.1) b5) (And.intro ((H3.out.2.1).below b5) (And.intro ((H3.out.2.2.1).below b5) (And.intro (o5) (And.intro (Nat.le_refl w5.heap.size) (And.intro (show w.heap.size ≤ w4.heap.size from (H3.out.1).size) (b5.size)))))))
      clear H3
      clear o5 b5
      go_wp2_with (fail)
      with_reducible refine (cT1 _ (H4.out.2.1)).mono ?_
      rintro e w6 ⟨rfl, o6, b6⟩
      have H5 := Lib.hid (And.intro (Below.then_ (H4.out.1) b6) (And.intro ((H4.out.2.1).below b6) (And.intro ((H4.out.2.2.1).below b6) (And.intro ((H4.out.2.2.2.1).keep b6 (H4.out.2.2.2.2.1)) (And.intro (Nat.le_trans (H4.out.2.2.2.2.1) b6.size) (And.intro (H4.out.2.2.2.2.2.1) (And.intro (H4.out.2.2.2.2.2.2) (And.intro (o6.mono (Nat.le_refl _) (Nat.succ_le_of_lt o6.lt)) (Nat.le_refl w6.heap.size)))))))))
      clear H4
      clear o6 b6
      go_wp2_with (fail)
      with_reducible refine (cT2 _ (H5.out.2.2.1)).mono ?_
      rintro e w7 ⟨rfl, o7, b7⟩
      have H6 := Lib.hid (And.intro (Below.then_ (H5.out.1) b7) (And.intro ((H5.out.2.1).below b7) (And.intro ((H5.out.2.2.1).below b7) (And.intro ((H5.out.2.2.2.1).keep b7 (H5.out.2.2.2.2.1)) (And.intro (Nat.le_trans (H5.out.2.2.2.2.1) b7.size) (And.intro (H5.out.2.2.2.2.2.1) (And.intro (H5.out.2.2.2.2.2.2.1) (And.intro ((H5.out.2.2.2.2.2.2.2.1).keep b7 (H5.out.2.2.2.2.2.2.2.2)) (And.intro (Nat.le_trans (H5.out.2.2.2.2.2.2.2.2) b7.size) (And.intro (o7.mono (Nat.le_refl _) (Nat.succ_le_of_lt o7.lt)) (Nat.le_refl w7.heap.size)))))))))))
      clear H5
      clear o7 b7
      go_wp2_with (fail)
      with_reducible refine (cI _ _ _ ((H6.out.2.2.2.2.2.2.2.1).rd) ((H6.out.2.2.2.2.2.2.2.2.2.1).rd)).mono ?_
      rintro e w8 ⟨g, rfl, o8, b8⟩
      obtain ⟨ga, gc, rfl, -⟩ := o8.form
      have Q : Fr4 rvK rvK rvK w w8 w4.heap.size w5.heap.size w6.heap.size w7.heap.size w8.heap.size (.slice ua os.length uc) (.slice (some ⟨w5.heap.size, 0, none⟩) ms.length ms.length) (.slice (some ⟨w6.heap.size, 0, none⟩) ns.length ns.length) (.slice ga os.length gc) os ms ns os := by
        have hx := H6.out.2.2.2.2.2.2.2.1
        have hy := H6.out.2.2.2.2.2.2.2.2.2.1
        have lx := H6.out.2.2.2.2.2.2.2.2.1
        have ly := H6.out.2.2.2.2.2.2.2.2.2.2
        have hm := H6.out.2.2.2.1
        have lm := H6.out.2.2.2.2.1
        have hB := H6.out.1
        have hs0 := H6.out.2.2.2.2.2.1
        have hs1 := H6.out.2.2.2.2.2.2.1
        have hs2 := hx.lt2
        have hs3 := hy.lt2
        exact ⟨hm.keep b8 lm, hx.keep b8 lx, hy.keep b8 ly, o8.mono ly (Nat.le_refl _), Below.then_ hB b8, hs0, hs1, hs2, hs3, Nat.le_trans ly b8.size, Nat.le_refl _⟩
      have H7 := Lib.hid (And.intro (Q) (And.intro ((H6.out.2.1).below b8) ((H6.out.2.2.1).below b8)))
      clear H6
      clear Q o8 b8
      go_wp2_with (fail)
      with_reducible refine (cE _ _ _ (H7.out.1).g.rd (H7.out.1).m.rd).mono ?_
      rintro e w9 ⟨rfl, b9⟩
      have H8 := Lib.hid (And.intro ((H7.out.1).kept b9) (And.intro ((H7.out.2.1).below b9) ((H7.out.2.2).below b9)))
      clear H7
      clear b9
      go_wp2_with (fail)
      with_reducible refine (cT1 _ (H8.out.2.1)).mono ?_
      rintro e w10 ⟨rfl, o10, b10⟩
      have H9 := Lib.hid (And.intro ((H8.out.1).kept b10) (And.intro ((H8.out.2.1).below b10) (And.intro ((H8.out.2.2).below b10) (o10.rd))))
      clear H8
      clear o10 b10
      go_wp2_with (fail)
      with_reducible refine (cE1 _ _ _ (H9.out.1).x.rd (H9.out.2.2.2)).mono ?_
      rintro e w11 ⟨rfl, b11⟩
      have H10 := Lib.hid (And.intro ((H9.out.1).kept b11) (And.intro ((H9.out.2.1).below b11) (And.intro ((H9.out.2.2.1).below b11) ((H9.out.2.2.2).below b11))))
      clear H9
      clear b11
      go_wp2_with (fail)
      with_reducible refine (cT2 _ (H10.out.2.2.1)).mono ?_
      rintro e w12 ⟨rfl, o12, b12⟩
      have H11 := Lib.hid (And.intro ((H10.out.1).kept b12) (And.intro ((H10.out.2.1).below b12) (And.intro ((H10.out.2.2.1).below b12) (And.intro ((H10.out.2.2.2).below b12) (o12.rd)))))
      clear H10
      clear o12 b12
      go_wp2_with (fail)
      with_reducible refine (cE2 _ _ _ (H11.out.1).y.rd (H11.out.2.2.2.2)).mono ?_
      rintro e w13 ⟨rfl, b13⟩
      have H12 := Lib.hid (And.intro ((H11.out.1).kept b13) (And.intro ((H11.out.2.1).below b13) (And.intro ((H11.out.2.2.1).below b13) (And.intro ((H11.out.2.2.2.1).below b13) ((H11.out.2.2.2.2).below b13)))))
      clear H11
      clear b13
      have cm1 := mark_roadS _ ms w13 w5.heap.size w6.heap.size 1 (H12.out.1).x (by omega) (by omega)
      have cm2 := fun W h => mark_roadS (.slice (some ⟨w6.heap.size, 0, none⟩) ns.length ns.length) ns W w6.heap.size w7.heap.size (1 + ms.length * 3) h (by omega) (by omega)
      have ck := fun g W (h : OwnR W w7.heap.size w8.heap.size g os) => mark_roadS g os W w7.heap.size w8.heap.size 1 h (by omega) (by omega)
      have ch := fun g W (h : OwnR W w7.heap.size w8.heap.size g (markR 1 os.length)) => held_roadS g 1 os.length W h.rd (by omega) (by omega)
      rw [show (((1 : Nat) : Int)) = (1 : Int) from rfl] at cm1
      simp only [show (((1 : Nat) : Int)) = (1 : Int) from rfl] at ck ch
      have hq1 : ¬ ((1 + ms.length * 3 + ns.length * 3 : Nat) : Int) < 0 := by omega
      have hq2 : ¬ ((1 + os.length * 3 : Nat) : Int) < 0 := by omega
      generalize ((1 + ms.length * 3 : Nat) : Int) = k1' at *
      generalize ((1 + ms.length * 3 + ns.length * 3 : Nat) : Int) = k2' at *
      generalize ((1 + os.length * 3 : Nat) : Int) = k3' at *
      go_wp2_with (fail)
      with_reducible refine (cm1).mono ?_
      rintro e w14 ⟨rfl, x14, b14, z14, y14⟩
      have H13 := Lib.hid (And.intro ((H12.out.1).markX x14 b14 z14 y14) (And.intro (HBASEv.out _ (((H12.out.1).markX x14 b14 z14 y14).b)) (HBASEv2.out _ (((H12.out.1).markX x14 b14 z14 y14).b))))
      clear H12
      clear x14 b14 z14 y14
      go_wp2_with (fail)
      with_reducible refine (cm2 _ (H13.out.1).y).mono ?_
      rintro e w15 ⟨rfl, x15, b15, z15, y15⟩
      have H14 := Lib.hid (And.intro ((H13.out.1).markY x15 b15 z15 y15) (And.intro (HBASEv.out _ (((H13.out.1).markY x15 b15 z15 y15).b)) (HBASEv2.out _ (((H13.out.1).markY x15 b15 z15 y15).b))))
      clear H13
      clear x15 b15 z15 y15
      go_wp2_with (fail)
      with_reducible refine (cE _ _ _ (H14.out.1).g.rd (H14.out.1).m.rd).mono ?_
      rintro e w16 ⟨rfl, b16⟩
      have H15 := Lib.hid (And.intro ((H14.out.1).kept b16) (And.intro ((H14.out.2.1).below b16) ((H14.out.2.2).below b16)))
      clear H14
      clear b16
      go_wp2_with (fail)
      with_reducible refine (ck _ _ (H15.out.1).g).mono ?_
      rintro e w17 ⟨rfl, x17, b17, z17, y17⟩
      have H16 := Lib.hid (And.intro ((H15.out.1).markG x17 b17 (Nat.le_of_eq z17.symm)) (And.intro (HBASEv.out _ (((H15.out.1).markG x17 b17 (Nat.le_of_eq z17.symm)).b)) (HBASEv2.out _ (((H15.out.1).markG x17 b17 (Nat.le_of_eq z17.symm)).b))))
      clear H15
      clear x17 b17 z17 y17
      go_wp2_with (fail)
      with_reducible refine (ch _ _ (H16.out.1).g).mono ?_
      rintro e w18 ⟨rfl, rfl⟩
      go_wp2_with (fail)
      with_reducible refine (cT1 _ (H16.out.2.1)).mono ?_
      rintro e w19 ⟨rfl, o19, b19⟩
      have H17 := Lib.hid (And.intro ((H16.out.1).kept b19) (And.intro ((H16.out.2.1).below b19) (And.intro ((H16.out.2.2).below b19) (o19.rd))))
      clear H16
      clear o19 b19
      go_wp2_with (fail)
      with_reducible refine (cT2 _ (H17.out.2.2.1)).mono ?_
      rintro e w20 ⟨rfl, o20, b20⟩
      have H18 := Lib.hid (And.intro ((H17.out.1).kept b20) (And.intro ((H17.out.2.1).below b20) (And.intro ((H17.out.2.2.1).below b20) (And.intro ((H17.out.2.2.2).below b20) (o20.rd)))))
      clear H17
      clear o20 b20
      go_wp2_with (fail)
      with_reducible refine (cI _ _ _ (H18.out.2.2.2.1) (H18.out.2.2.2.2)).mono ?_
      rintro e w21 ⟨h, rfl, o21, b21⟩
      obtain ⟨ha, hc, rfl, -⟩ := o21.form
      have H19 := Lib.hid (And.intro ((H18.out.1).kept b21) (And.intro ((H18.out.2.1).below b21) (And.intro ((H18.out.2.2.1).below b21) (o21.rd))))
      clear H18
      clear o21 b21
      go_wp2_with (fail)
      with_reducible refine (cE _ _ _ (H19.out.2.2.2) (H19.out.1).m.rd).mono ?_
      rintro e w22 ⟨rfl, b22⟩
      have H20 := Lib.hid (And.intro ((H19.out.1).kept b22) (And.intro ((H19.out.2.1).below b22) (And.intro ((H19.out.2.2.1).below b22) ((H19.out.2.2.2).below b22))))
      clear H19
      clear b22
      go_wp2_with (fail)
      with_reducible refine (ch _ _ (H20.out.1).g).mono ?_
      rintro e w23 ⟨rfl, rfl⟩
      go_wp2_with (fail)
      go_ret
      exact ⟨rfl, (H20.out.1).b⟩
end Go.Proofs.Ytmokepopmfcdnaa
