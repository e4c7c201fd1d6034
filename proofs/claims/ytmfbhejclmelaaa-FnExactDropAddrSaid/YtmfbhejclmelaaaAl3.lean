import Derived.Test.YtmfbhejclmelaaaAqd
import Derived.Test.YtmfbhejclmelaaaAbt
namespace Go.Proofs.Ytmfbhejclmelaaa
open Go.RowKit

theorem drop_len (ms : List Av) (s : Int) : (dropA ms s).1.length ≤ ms.length := by
  unfold dropA
  split
  · simp; omega
  · simp

set_option maxRecDepth 100000 in
set_option maxHeartbeats 4000000 in
theorem dropaddr_law (v : Value) (ms : List Av) (s : Int) (w : World) (hv : RdV w v ms) (hn : ms.length ≤ 9223372036854775807) (hwf : ∀ x ∈ ms, (Lit.int .i64 x.id).wf = true) (hs : (Lit.int .i64 s).wf = true) :
    Calls Try.prog 6 #[v, .int .i64 s] w fun e w' => e = .returned (.bool true) ∧ Below w.heap.size w w' := by
  have z1 := sz_addrS v ms 1048576 w hv hn (by omega) (by omega)
  by_cases h1 : (1048576 : Int) - (ms.length : Int) < 0
  · rw [if_pos h1] at z1
    clear h1
    go_enter Try.func6, Try.ntmps6
    go_wp2_with (fail)
    with_reducible refine z1.mono ?_
    rintro e w1 ⟨rfl, rfl⟩
    go_wp2_with (fail)
    go_ret
    exact ⟨rfl, Below.refl _ _⟩
  · rw [if_neg h1] at z1
    have hl := sz_lawA ms h1
    have q : ¬ ((1048576 : Int) - (ms.length : Int) < 0) := h1
    generalize (1048576 : Int) - (ms.length : Int) = r at *
    have hol : (dropA ms s).1.length ≤ 1048577 := Nat.le_trans (drop_len ms s) (by omega)
    have cT := fun W h => to_addrS v ms W h hl
    have cS := fun u W B C (hC : C ≤ W.heap.size) (h : OwnV W B C u ms) => spec_dropAddr u ms s B C W h.lie hl
    have cI := fun u W B C (hC : C ≤ W.heap.size) (h : OwnV W B C u ms) => impl_dropAddr u ms s W h.rd hl hwf hs
    have cE := fun u1 u2 W h1 h2 => eq_addrS u1 u2 ms W h1 h2 hn
    generalize dropA ms s = rr at *
    obtain ⟨os, ok⟩ := rr
    dsimp only at hol cS cI
    have cEo := fun (B1 C1 : Nat) (u1 : Value) (B2 C2 : Nat) (u2 : Value) W (h1 : OwnE avK W B1 C1 u1 os) (h2 : OwnE avK W B2 C2 u2 os) => eq_addrS _ _ os W h1.rd h2.rd (by omega)
    clear h1
    go_enter Try.func6, Try.ntmps6
    go_wp2_with (fail)
    with_reducible refine z1.mono ?_
    rintro e w1 ⟨rfl, rfl⟩
    clear z1
    go_wp2_with (fail)
    with_reducible refine (cT _ hv).mono ?_
    rintro e w2 ⟨rfl, ho2, hb2⟩
    have hlt2 := ho2.lt
    go_wp2_with (fail)
    with_reducible refine (cS _ _ _ _ (Nat.succ_le_of_lt hlt2) ho2).mono ?_
    rintro e w3 ⟨u, rfl, hm3, hb3⟩
    have B3 := Below.then_ hb2 hb3
    obtain ⟨ua, uc, rfl, -⟩ := hm3.form
    have L0 : w.heap.size ≤ w2.heap.size := hb2.size
    have L1 : w2.heap.size ≤ w3.heap.size := hb3.size
    clear ho2 hb2 hb3 hlt2
    generalize w2.heap.size = b0 at *
    have Hm3 := Lib.hid (And.intro hm3 (And.intro L0 L1))
    clear hm3 L0 L1
    go_wp2_with (fail)
    with_reducible refine (cT _ (hv.below B3)).mono ?_
    rintro e w4 ⟨rfl, ho4, hb4⟩
    have hlt4 := ho4.lt
    have Hm4 := Lib.hid (And.intro (Hm3.out.1.keep hb4 (Nat.le_refl _)) (And.intro ho4 (And.intro Hm3.out.2 (And.intro (Below.then_ B3 hb4) (And.intro hb4.size hlt4)))))
    clear B3 hb4 ho4 Hm3 hlt4
    generalize w3.heap.size = b1 at *
    go_wp2_with (fail)
    with_reducible refine (cI _ _ _ _ (Nat.succ_le_of_lt Hm4.out.2.2.2.2.2) Hm4.out.2.1).mono ?_
    rintro e w5 ⟨g, rfl, hg5, hb5⟩
    obtain ⟨ga, gc, rfl, -⟩ := hg5.form
    have Q5 : QdA avK w w5 b0 b1 w4.heap.size w5.heap.size (.slice ua os.length uc) (.slice (some ⟨b1, 0, none⟩) ms.length ms.length) (.slice ga os.length gc) os ms os := by
      obtain ⟨p1, p2, ⟨p3, p4⟩, p5, p6, p7⟩ := Hm4.out
      exact ⟨p1.keep hb5 p6, (p2.keep hb5 p7).mono (Nat.le_refl _) p7, hg5, Below.then_ p5 hb5, p3, p4, p6, hb5.size, Nat.le_refl _⟩
    clear hg5 hb5 Hm4
    generalize w4.heap.size = b2 at *
    generalize hb3 : w5.heap.size = b3 at Q5
    clear hb3
    go_wp2_with (fail)
    with_reducible refine (cEo _ _ _ _ _ _ _ Q5.g Q5.m).mono ?_
    rintro e w6 ⟨rfl, hb6⟩
    have Q6 := Q5.kept hb6
    clear Q5 hb6
    go_wp2_with (fail)
    with_reducible refine (cT _ (hv.below Q6.b)).mono ?_
    rintro e w7 ⟨rfl, ho7, hb7⟩
    have Q7 := Q6.kept hb7
    have y7 := ho7.rd
    clear Q6 hb7 ho7
    go_wp2_with (fail)
    with_reducible refine (cE _ _ _ Q7.x.rd y7).mono ?_
    rintro e w8 ⟨rfl, hb8⟩
    have Q8 := Q7.kept hb8
    clear Q7 hb8 y7
    have cm := mark_addrS _ ms w8 b1 b2 1 Q8.x (by omega) (by omega)
    have ck := fun g W (h : OwnE avK W b2 b3 g os) => (mark_addrS g os W b2 b3 1 h (by omega) (by omega)).mono (R' := fun e w' => e = .returned (.int .i64 ((1 + os.length * 4 : Nat) : Int)) ∧ OwnV w' b2 b3 g (markV 1 os.length) ∧ Below b2 W w') (fun _ _ h => ⟨h.1, h.2.1, h.2.2.1⟩)
    have ch := fun g W h => held_addrS g 1 os.length W (OwnE.rd (B := b2) (C := b3) h) (by omega) (by omega)
    rw [show (((1 : Nat) : Int)) = (1 : Int) from rfl] at cm ck ch
    have hq1 : ¬ ((1 + ms.length * 4 : Nat) : Int) < 0 := by omega
    have hq2 : ¬ ((1 + os.length * 4 : Nat) : Int) < 0 := by omega
    generalize ((1 + ms.length * 4 : Nat) : Int) = k1 at *
    generalize ((1 + os.length * 4 : Nat) : Int) = k2 at *
    go_wp2_with (fail)
    with_reducible refine cm.mono ?_
    rintro e w9 ⟨rfl, hx9, hb9, hz9, ho9⟩
    have Q9 := Q8.markX hx9 hb9 hz9 ho9
    clear Q8 hx9 hb9 hz9 ho9 cm
    go_wp2_with (fail)
    with_reducible refine (cEo _ _ _ _ _ _ _ Q9.g Q9.m).mono ?_
    rintro e w10 ⟨rfl, hb10⟩
    have Q10 := Q9.kept hb10
    clear Q9 hb10
    go_wp2_with (fail)
    with_reducible refine (ck _ _ Q10.g).mono ?_
    rintro e w11 ⟨rfl, hg11, hb11⟩
    have Q11 := Q10.markG hg11 hb11 hb11.size
    clear Q10 hg11 hb11 ck
    go_wp2_with (fail)
    with_reducible refine (ch _ _ Q11.g).mono ?_
    rintro e w12 ⟨rfl, rfl⟩
    go_wp2_with (fail)
    with_reducible refine (cT _ (hv.below Q11.b)).mono ?_
    rintro e w13 ⟨rfl, ho13, hb13⟩
    have Q13 := Q11.kept hb13
    have hlt13 := ho13.lt
    have HO13 := Lib.hid (And.intro hlt13 ho13)
    clear Q11 hb13 ho13 hlt13
    go_wp2_with (fail)
    with_reducible refine (cI _ _ _ _ (Nat.succ_le_of_lt HO13.out.1) HO13.out.2).mono ?_
    rintro e w14 ⟨h, rfl, hh14, hb14⟩
    obtain ⟨ha, hc, rfl, -⟩ := hh14.form
    have Q14 := Q13.kept hb14
    clear Q13 hb14 HO13
    go_wp2_with (fail)
    with_reducible refine (cEo _ _ _ _ _ _ _ hh14 Q14.m).mono ?_
    rintro e w15 ⟨rfl, hb15⟩
    have Q15 := Q14.kept hb15
    clear Q14 hb15 hh14
    go_wp2_with (fail)
    with_reducible refine (ch _ _ Q15.g).mono ?_
    rintro e w16 ⟨rfl, rfl⟩
    have HB := Lib.hid Q15.b
    clear Q15
    go_wp2_with (fail)
    go_ret
    exact ⟨rfl, HB.out⟩
end Go.Proofs.Ytmfbhejclmelaaa
