import Derived.Test.YtnfnggdngddpkaaTxt
namespace Go.Proofs.Ytnfnggdngddpkaa
open Go.RowKit

theorem textat_law (s : ByteArray) (a m : Int) (w : World) (_hm : s.size ≤ maxLen) (a1 : -9223372036854775808 ≤ a) (a2 : a ≤ 9223372036854775807) (_m1 : -9223372036854775808 ≤ m) (_m2 : m ≤ 9223372036854775807) :
    Calls Try.prog 5 #[.string s, .int .i64 a, .int .i64 m] w fun e w' => e = .returned (.bool true) ∧ Below w.heap.size w w' := by
  by_cases h : s.size ≤ 1048576
  · have q : ¬ (1048576 < (s.size : Int)) := by omega
    by_cases hp : Part s a m
    · have c1 := fun W => spec_text_yes s a m W (by omega) hp
      have c2 := fun W => impl_text_yes s a m W (by omega) hp
      generalize s.extract a.toNat (a + m).toNat = r at c1 c2
      clear hp
      go_enter Try.func5, Try.ntmps5
      go_wp2_with (fail)
      with_reducible refine (c1 _).mono ?_
      rintro e w1 ⟨rfl, rfl⟩
      go_wp2_with (fail)
      with_reducible refine (c2 _).mono ?_
      rintro e w1 ⟨rfl, hb1⟩
      go_wp2_with (fail)
      go_ret
      exact ⟨rfl, hb1⟩
    · have c1 := fun W => spec_text_no s a m W (by omega) a1 a2 hp
      have c2 := fun W => impl_text_no s a m W (by omega) a2 hp
      clear hp
      go_enter Try.func5, Try.ntmps5
      go_wp2_with (fail)
      with_reducible refine (c1 _).mono ?_
      rintro e w1 ⟨rfl, rfl⟩
      go_wp2_with (fail)
      with_reducible refine (c2 _).mono ?_
      rintro e w1 ⟨rfl, hb1⟩
      go_wp2_with (fail)
      go_ret
      exact ⟨rfl, hb1⟩
  · have q : (1048576 < (s.size : Int)) := by omega
    go_enter Try.func5, Try.ntmps5
    go_wp2_with (fail)
    go_ret
    exact ⟨rfl, Below.refl _ _⟩
end Go.Proofs.Ytnfnggdngddpkaa
