import Derived.Test.YtnfnggdngddpkaaNatI
namespace Go.Proofs.Ytnfnggdngddpkaa
open Go.RowKit

theorem numat_law (s : ByteArray) (a m : Int) (w : World) (_hm : s.size ≤ maxLen) (a1 : -9223372036854775808 ≤ a) (a2 : a ≤ 9223372036854775807) (_m1 : -9223372036854775808 ≤ m) (_m2 : m ≤ 9223372036854775807) :
    Calls Try.prog 4 #[.string s, .int .i64 a, .int .i64 m] w fun e w' => e = .returned (.bool true) ∧ Below w.heap.size w w' := by
  by_cases h : s.size ≤ 1048576
  · have q : ¬ (1048576 < (s.size : Int)) := by omega
    have hall : ∃ (n : Int) (b : Bool), (∀ W, Calls Try.prog 8 #[.string s, .int .i64 a, .int .i64 m] W fun e w' => e = .returned (.tuple #[.int .i64 n, .bool b]) ∧ W = w') ∧ (∀ W, Calls Try.prog 9 #[.string s, .int .i64 a, .int .i64 m] W fun e w' => e = .returned (.tuple #[.int .i64 n, .bool b]) ∧ Below W.heap.size W w') := by
      by_cases hw : 1 ≤ m ∧ m ≤ 6
      · by_cases hp : Part s a m
        · exact ⟨_, _, fun W => spec_num_yes s a m W (by omega) hw.1 hw.2 hp, fun W => impl_num_yes s a m W (by omega) hw.1 hw.2 hp⟩
        · exact ⟨_, _, fun W => spec_num_no s a m W (by omega) a1 a2 hw.1 hw.2 hp, fun W => impl_num_no s a m W (by omega) a2 hw.1 hw.2 hp⟩
      · exact ⟨_, _, fun W => spec_num_out s a m W hw, fun W => impl_num_out s a m W hw⟩
    obtain ⟨n, b, c1, c2⟩ := hall
    cases b
    all_goals
      go_enter Try.func4, Try.ntmps4
      go_wp2_with (fail)
      with_reducible refine (c1 _).mono ?_
      rintro e w1 ⟨rfl, rfl⟩
      go_wp2_with (fail)
      with_reducible refine (c2 _).mono ?_
      rintro e w1 ⟨rfl, hb1⟩
      go_wp2_with (fail)
      go_ret
      exact ⟨rfl, hb1⟩
  · have q : (1048576 < (s.size : Int)) := by omega
    go_enter Try.func4, Try.ntmps4
    go_wp2_with (fail)
    go_ret
    exact ⟨rfl, Below.refl _ _⟩
end Go.Proofs.Ytnfnggdngddpkaa
