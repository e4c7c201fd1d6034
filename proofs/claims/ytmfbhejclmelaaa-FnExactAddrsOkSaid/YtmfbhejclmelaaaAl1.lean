import Derived.Test.YtmfbhejclmelaaaAqd
namespace Go.Proofs.Ytmfbhejclmelaaa
open Go.RowKit

set_option maxRecDepth 100000 in
set_option maxHeartbeats 2000000 in
theorem addrsok_law (v : Value) (ms : List Av) (w : World) (hv : RdV w v ms) (hn : ms.length ≤ 9223372036854775807) (_hw : ∀ x ∈ ms, (Lit.int .i64 x.id).wf = true) :
    Calls Try.prog 4 #[v] w fun e w' => e = .returned (.bool true) ∧ Below w.heap.size w w' := by
  have z1 := sz_addrS v ms 1048576 w hv hn (by omega) (by omega)
  by_cases h1 : (1048576 : Int) - (ms.length : Int) < 0
  · rw [if_pos h1] at z1
    clear h1
    go_enter Try.func4, Try.ntmps4
    go_wp2_with (fail)
    with_reducible refine z1.mono ?_
    rintro e w1 ⟨rfl, rfl⟩
    go_wp2_with (fail)
    go_ret
    exact ⟨rfl, Below.refl _ _⟩
  · rw [if_neg h1] at z1
    have hl := sz_lawA ms h1
    have q : ¬ ((1048576 : Int) - (ms.length : Int) < 0) := h1
    generalize (1048576 : Int) - (ms.length : Int) = r at *
    have cT := fun W h => to_addrS v ms W h hl
    have cS := fun u W B C (h : OwnV W B C u ms) => spec_addrsOk u ms W h.rd (by omega)
    have cI := fun u W B C (h : OwnV W B C u ms) => impl_addrsOk u ms B C W h.lie (by omega)
    have cE := fun u1 u2 W h1 h2 => eq_addrS u1 u2 ms W h1 h2 hn
    generalize addrsOk ms = ok at *
    clear h1
    go_enter Try.func4, Try.ntmps4
    go_wp2_with (fail)
    with_reducible refine z1.mono ?_
    rintro e w1 ⟨rfl, rfl⟩
    clear z1
    go_wp2_with (fail)
    with_reducible refine (cT _ hv).mono ?_
    rintro e w2 ⟨rfl, ho2, hb2⟩
    go_wp2_with (fail)
    with_reducible refine (cS _ _ _ _ ho2).mono ?_
    rintro e w3 ⟨rfl, hb3⟩
    have B3 := Below.then_ hb2 hb3
    have r3 := hv.below B3
    clear ho2
    go_wp2_with (fail)
    with_reducible refine (cT _ r3).mono ?_
    rintro e w4 ⟨rfl, ho4, hb4⟩
    have B4 := Below.then_ B3 hb4
    have r4 := r3.below hb4
    have x4 := ho4.rd
    have HO := Lib.hid ho4
    clear B3 r3 hb4 ho4
    go_wp2_with (fail)
    with_reducible refine (cI _ _ _ _ HO.out).mono ?_
    rintro e w5 ⟨rfl, hb5⟩
    have B5 := Below.then_ B4 hb5
    have r5 := r4.below hb5
    have x5 := x4.below hb5
    clear B4 r4 x4 hb5 HO
    go_wp2_with (fail)
    with_reducible refine (cT _ r5).mono ?_
    rintro e w6 ⟨rfl, ho6, hb6⟩
    have B6 := Below.then_ B5 hb6
    have x6 := x5.below hb6
    have y6 := ho6.rd
    clear B5 r5 x5 hb6 ho6
    go_wp2_with (fail)
    with_reducible refine (cE _ _ _ x6 y6).mono ?_
    rintro e w7 ⟨rfl, hb7⟩
    have HB := Lib.hid (Below.then_ B6 hb7)
    clear x6 y6 B6 hb7
    go_wp2_with (fail)
    go_ret
    exact ⟨rfl, HB.out⟩

set_option maxRecDepth 100000 in
set_option maxHeartbeats 2000000 in
theorem addrat_law (v : Value) (ms : List Av) (s : Int) (w : World) (hv : RdV w v ms) (hn : ms.length ≤ 9223372036854775807) (_hw : ∀ x ∈ ms, (Lit.int .i64 x.id).wf = true) :
    Calls Try.prog 7 #[v, .int .i64 s] w fun e w' => e = .returned (.bool true) ∧ Below w.heap.size w w' := by
  have z1 := sz_addrS v ms 1048576 w hv hn (by omega) (by omega)
  by_cases h1 : (1048576 : Int) - (ms.length : Int) < 0
  · rw [if_pos h1] at z1
    clear h1
    go_enter Try.func7, Try.ntmps7
    go_wp2_with (fail)
    with_reducible refine z1.mono ?_
    rintro e w1 ⟨rfl, rfl⟩
    go_wp2_with (fail)
    go_ret
    exact ⟨rfl, Below.refl _ _⟩
  · rw [if_neg h1] at z1
    have hl := sz_lawA ms h1
    have q : ¬ ((1048576 : Int) - (ms.length : Int) < 0) := h1
    generalize (1048576 : Int) - (ms.length : Int) = r at *
    have cT := fun W h => to_addrS v ms W h hl
    have cS := fun u W B C (h : OwnV W B C u ms) => spec_addrAt u ms s W h.rd (by omega)
    have cI := fun u W B C (h : OwnV W B C u ms) => impl_addrAt u ms s W h.rd (by omega)
    have cE := fun u1 u2 W h1 h2 => eq_addrS u1 u2 ms W h1 h2 hn
    generalize atInt ms s = ok at *
    clear h1
    go_enter Try.func7, Try.ntmps7
    go_wp2_with (fail)
    with_reducible refine z1.mono ?_
    rintro e w1 ⟨rfl, rfl⟩
    clear z1
    go_wp2_with (fail)
    with_reducible refine (cT _ hv).mono ?_
    rintro e w2 ⟨rfl, ho2, hb2⟩
    go_wp2_with (fail)
    with_reducible refine (cS _ _ _ _ ho2).mono ?_
    rintro e w3 ⟨rfl, rfl⟩
    have B3 := hb2
    have r3 := hv.below B3
    clear ho2
    go_wp2_with (fail)
    with_reducible refine (cT _ r3).mono ?_
    rintro e w4 ⟨rfl, ho4, hb4⟩
    have B4 := Below.then_ B3 hb4
    have r4 := r3.below hb4
    have x4 := ho4.rd
    have HO := Lib.hid ho4
    clear B3 r3 hb4 ho4
    go_wp2_with (fail)
    with_reducible refine (cI _ _ _ _ HO.out).mono ?_
    rintro e w5 ⟨rfl, hb5⟩
    have B5 := Below.then_ B4 hb5
    have r5 := r4.below hb5
    have x5 := x4.below hb5
    clear B4 r4 x4 hb5 HO
    go_wp2_with (fail)
    with_reducible refine (cT _ r5).mono ?_
    rintro e w6 ⟨rfl, ho6, hb6⟩
    have B6 := Below.then_ B5 hb6
    have x6 := x5.below hb6
    have y6 := ho6.rd
    clear B5 r5 x5 hb6 ho6
    go_wp2_with (fail)
    with_reducible refine (cE _ _ _ x6 y6).mono ?_
    rintro e w7 ⟨rfl, hb7⟩
    have HB := Lib.hid (Below.then_ B6 hb7)
    clear x6 y6 B6 hb7
    go_wp2_with (fail)
    go_ret
    exact ⟨rfl, HB.out⟩
end Go.Proofs.Ytmfbhejclmelaaa
