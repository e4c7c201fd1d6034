import Derived.Test.YtjagediaaadkdaaKey
namespace Go.Proofs.Ytjagediaaadkdaa
open Go.RowKit

theorem keyok_law (s : ByteArray) (w : World) (_hm : s.size ≤ maxLen) :
    Calls Try.prog 3 #[.string s] w fun e w' => e = .returned (.bool true) ∧ Below w.heap.size w w' := by
  have c1 := fun W => spec_keyok s W
  have c2 := fun W => impl_keyok s W
  by_cases h : s.size ≤ 1048576
  · have q : ¬ (1048576 < (s.size : Int)) := by omega
    generalize decide (s.size = 8) = b at c1 c2
    cases b
    all_goals
      go_enter Try.func3, Try.ntmps3
      go_wp2_with (fail)
      with_reducible refine (c1 _).mono ?_
      rintro e w1 ⟨rfl, rfl⟩
      go_wp2_with (fail)
      with_reducible refine (c2 _).mono ?_
      rintro e w1 ⟨rfl, rfl⟩
      go_wp2_with (fail)
      go_ret
      exact ⟨rfl, Below.refl _ _⟩
  · have q : (1048576 < (s.size : Int)) := by omega
    go_enter Try.func3, Try.ntmps3
    go_wp2_with (fail)
    go_ret
    exact ⟨rfl, Below.refl _ _⟩
end Go.Proofs.Ytjagediaaadkdaa
