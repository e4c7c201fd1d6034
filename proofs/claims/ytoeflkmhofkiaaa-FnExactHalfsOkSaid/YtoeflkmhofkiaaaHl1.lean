import Derived.Test.YtoeflkmhofkiaaaQdg
import Derived.Test.YtoeflkmhofkiaaaHim
import Derived.Test.YtoeflkmhofkiaaaHsp
namespace Go.Proofs.Ytoeflkmhofkiaaa
open Go.RowKit
set_option maxRecDepth 100000

set_option linter.unusedSimpArgs false in
set_option maxRecDepth 100000 in
set_option maxHeartbeats 8000000 in
theorem halfsok_law (v : Value) (ms : List Hv) (w : World) (hv : RdH w v ms) (hn : ms.length ≤ 9223372036854775807) :
    Calls Try.prog 5 #[v] w fun e w' => e = .returned (.bool true) ∧ Below w.heap.size w w' := by
  have hbx := Below.refl w.heap.size w
  have hvb := hv.below hbx
  have z1 := sz_halfS v ms 1048576 w hvb hn (by omega) (by omega)
  obtain ⟨va, vc, rfl⟩ := hv.form
  clear hv
  have HBX := Lib.hid hbx
  by_cases h1 : (1048576 : Int) - (ms.length : Int) < 0
  · rw [if_pos h1] at z1
    clear h1 hbx hvb
    go_enter Try.func5, Try.ntmps5
    go_wp2_with (fail)
    with_reducible refine z1.mono ?_
    rintro e w1 ⟨rfl, rfl⟩
    go_wp2_with (fail)
    go_ret
    exact ⟨rfl, HBX.out⟩
  · rw [if_neg h1] at z1
    have hl := sz_lawG h1
    have q : ¬ ((1048576 : Int) - (ms.length : Int) < 0) := h1
    generalize (1048576 : Int) - (ms.length : Int) = r9 at *
    have cT := fun W h => to_halfS (.slice va ms.length vc) ms W h hl
    have cS := fun u W B C (h : OwnH W B C u ms) => spec_halfsOk u ms W h.rd (by omega)
    have cI := fun u W B C (h : OwnH W B C u ms) => impl_halfsOk u ms W h.rd (by omega)
    have cE := fun u1 u2 W h1 h2 => eq_halfS u1 u2 ms W h1 h2 hn
    generalize okH ms = ok at *
    clear h1 hbx
    go_enter Try.func5, Try.ntmps5
    go_wp2_with (fail)
    with_reducible refine z1.mono ?_
    rintro e w1 ⟨rfl, rfl⟩
    clear z1
    go_wp2_with (fail)
    with_reducible refine (cT _ hvb).mono ?_
    rintro e w2 ⟨rfl, ho2, hb2⟩
    go_wp2_with (fail)
    with_reducible refine (cS _ _ _ _ ho2).mono ?_
    rintro e w3 ⟨rfl, hb3⟩
    have H3 := Lib.hid (Below.then_ hb2 hb3)
    clear ho2 hb2 hb3
    go_wp2_with (fail)
    with_reducible refine (cT _ (hvb.below H3.out)).mono ?_
    rintro e w4 ⟨rfl, ho4, hb4⟩
    have hlt4 := ho4.lt
    have H5 := Lib.hid (And.intro (Below.then_ H3.out hb4) (And.intro ho4 hlt4))
    clear hb4 ho4 H3 hlt4
    generalize w3.heap.size = b1 at *
    go_wp2_with (fail)
    with_reducible refine (cI _ _ _ _ H5.out.2.1).mono ?_
    rintro e w6 ⟨rfl, hb6⟩
    have H6 := Lib.hid (And.intro (Below.then_ (H5.out.1) hb6) (And.intro (H5.out.2.1.keep hb6 (Nat.succ_le_of_lt H5.out.2.2)) (Nat.lt_of_lt_of_le H5.out.2.2 hb6.size)))
    clear hb6 H5
    go_wp2_with (fail)
    with_reducible refine (cT _ (hvb.below H6.out.1)).mono ?_
    rintro e w7 ⟨rfl, ho7, hb7⟩
    have H7 := Lib.hid (And.intro (Below.then_ H6.out.1 hb7) (And.intro (H6.out.2.1.keep hb7 (Nat.succ_le_of_lt H6.out.2.2)) ho7.rd))
    clear hb7 ho7 H6
    go_wp2_with (fail)
    with_reducible refine (cE _ _ _ H7.out.2.1.rd H7.out.2.2).mono ?_
    rintro e w8 ⟨rfl, hb8⟩
    have HB := Lib.hid (Below.then_ HBX.out (Below.then_ H7.out.1 hb8))
    clear hb8 H7
    go_wp2_with (fail)
    go_ret
    exact ⟨rfl, HB.out⟩

end Go.Proofs.Ytoeflkmhofkiaaa
