import Derived.Test.YtjnobggefofjcaaMok
namespace Go.Proofs.Ytjnobggefofjcaa
open Go.RowKit

theorem sz_law (ms : List Mp) (h : ¬ (1048576 : Int) - (ms.length : Int) < 0) : ms.length ≤ 1048576 := by omega

set_option maxRecDepth 100000 in
theorem mapsok_law (v : Value) (ms : List Mp) (w : World) (hv : RdM w v ms) (hn : ms.length ≤ 9223372036854775807) :
    Calls Try.prog 4 #[v] w fun e w' => e = .returned (.bool true) ∧ Below w.heap.size w w' := by
  have z1 := sz_maps v ms 1048576 w hv hn (by omega) (by omega)
  by_cases h1 : (1048576 : Int) - (ms.length : Int) < 0
  · rw [if_pos h1] at z1
    clear h1
    go_enter Try.func4, Try.ntmps4
    go_wp2_with (fail)
    with_reducible refine z1.mono ?_
    rintro e w1 ⟨rfl, rfl⟩
    go_wp2_with (fail)
    go_ret
    exact ⟨rfl, Below.refl _ _⟩
  · rw [if_neg h1] at z1
    have hl := sz_law ms h1
    have q : ¬ ((1048576 : Int) - (ms.length : Int) < 0) := h1
    generalize (1048576 : Int) - (ms.length : Int) = r at *
    have cT := fun W h => to_maps v ms W h hl
    have cS := fun u W h => spec_mapsOk u ms W h hn
    have cI := fun u W h => impl_mapsOk u ms W h hn
    have cE := fun u1 u2 W h1 h2 => eq_maps u1 u2 ms W h1 h2 hn
    generalize mapsOk ms = ok at *
    clear h1
    go_enter Try.func4, Try.ntmps4
    go_wp2_with (fail)
    with_reducible refine z1.mono ?_
    rintro e w1 ⟨rfl, rfl⟩
    clear z1
    go_wp2_with (fail)
    with_reducible refine (cT _ hv).mono ?_
    rintro e w2 ⟨rfl, ho2, hb2⟩
    go_wp2_with (fail)
    with_reducible refine (cS _ _ ho2.rd).mono ?_
    rintro e w3 ⟨rfl, hb3⟩
    have B3 := Below.then_ hb2 hb3
    have r3 := hv.below B3
    clear ho2 hb2 hb3
    go_wp2_with (fail)
    with_reducible refine (cT _ r3).mono ?_
    rintro e w4 ⟨rfl, ho4, hb4⟩
    have B4 := Below.then_ B3 hb4
    have r4 := r3.below hb4
    have x4 := ho4.rd
    clear B3 r3 ho4 hb4
    go_wp2_with (fail)
    with_reducible refine (cI _ _ x4).mono ?_
    rintro e w5 ⟨rfl, hb5⟩
    have B5 := Below.then_ B4 hb5
    have r5 := r4.below hb5
    have x5 := x4.below hb5
    clear B4 r4 x4 hb5
    go_wp2_with (fail)
    with_reducible refine (cT _ r5).mono ?_
    rintro e w6 ⟨rfl, ho6, hb6⟩
    have B6 := Below.then_ B5 hb6
    have y6 := ho6.rd
    have x6 := x5.below hb6
    clear B5 r5 x5 hb6 ho6
    go_wp2_with (fail)
    with_reducible refine (cE _ _ _ x6 y6).mono ?_
    rintro e w7 ⟨rfl, hb7⟩
    clear x6 y6
    go_wp2_with (fail)
    go_ret
    exact ⟨rfl, Below.then_ B6 hb7⟩
end Go.Proofs.Ytjnobggefofjcaa
