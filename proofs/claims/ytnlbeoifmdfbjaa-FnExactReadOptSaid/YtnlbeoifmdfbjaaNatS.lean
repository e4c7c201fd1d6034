import Derived.Test.YtnlbeoifmdfbjaaNat
import Derived.Test.YtnlbeoifmdfbjaaTxtS
namespace Go.Proofs.Ytnlbeoifmdfbjaa
open Go.RowKit

set_option maxHeartbeats 1000000 in
theorem spec_num_yes (s : ByteArray) (a m : Int) (w : World) (hs : s.size ≤ 9223372036854775807) (h1 : 1 ≤ m) (h6 : m ≤ 6) (h : Part s a m) :
    Calls Try.prog 58 #[.string s, .int .i64 a, .int .i64 m] w fun e w' => e = .returned (.tuple #[.int .i64 (natAt s a m : Int), .bool true]) ∧ w = w' := by
  have c1 := fun W => spec_text_yes s a m W hs h
  have ci := fun W => spec_in m 1 6 W
  rw [decide_eq_true (show 1 ≤ m ∧ m ≤ 6 by omega)] at ci
  have hz := part_size s a m h
  unfold natAt
  generalize s.extract a.toNat (a + m).toNat = r at c1 hz
  clear h
  have hr6 : r.size ≤ 6 := by omega
  clear hz
  go_enter Try.func58, Try.ntmps58
  go_wp2_with (fail)
  with_reducible refine (ci _).mono ?_
  rintro e w1 ⟨rfl, rfl⟩
  go_wp2_with (fail)
  with_reducible refine (c1 _).mono ?_
  rintro e w1 ⟨rfl, rfl⟩
  go_wp2_with (fail)
  go_loop [10, 11] (fun n i => ∃ k : Nat, k ≤ r.size ∧ i = .int .i64 k ∧ n = .int .i64 (numOf (r.data.toList.take k) : Int)) (fun _ i => r.size - (intOf i).toNat)
  case atStart => exact ⟨0, by omega, rfl, by rw [List.take_zero, numOf_nil]; rfl⟩
  case round =>
    obtain ⟨k, hk, rfl, rfl⟩ := hrel
    by_cases hlt : k < r.size
    · have q : (k : Int) < (r.size : Int) := by omega
      have hn := numOf_take_lt r k hlt hr6
      have e1 := or_low (numOf (r.data.toList.take k)) r[k] hn
      have e2 := numOf_snoc (r.data.toList.take k) r[k]
      rw [← take_snoc r k hlt] at e2
      rw [← e2] at e1
      clear e2
      have e3 : wrap64 (r[k].toNat : Int) = (r[k].toNat : Int) := by
        have := r[k].toNat_lt
        exact IntWalk.wrap64_in _ ⟨by omega, by omega⟩
      have HW := Lib.hid e3
      clear e3
      have HY := Lib.hid e1
      generalize hx : numOf (r.data.toList.take k) = x at hn e1 HY ⊢
      clear hx e1
      go_wp2_with (fail)
      go_round
      case rel => exact ⟨k + 1, by omega, by go_num, by rw [HW.out, HY.out]⟩
      case measure => simp [intOf]; omega
    · obtain rfl : k = r.size := by omega
      have q : ¬ (r.size : Int) < (r.size : Int) := by omega
      rw [List.take_of_length_le (by simp)]
      go_wp2_with (fail)
      go_ret2
      exact ⟨rfl, rfl⟩

theorem spec_num_no (s : ByteArray) (a m : Int) (w : World) (hs : s.size ≤ 9223372036854775807) (ha : -9223372036854775808 ≤ a) (ha2 : a ≤ 9223372036854775807) (h1 : 1 ≤ m) (h6 : m ≤ 6) (h : ¬ Part s a m) :
    Calls Try.prog 58 #[.string s, .int .i64 a, .int .i64 m] w fun e w' => e = .returned (.tuple #[.int .i64 0, .bool false]) ∧ w = w' := by
  have c1 := fun W => spec_text_no s a m W hs ha ha2 h
  have ci := fun W => spec_in m 1 6 W
  rw [decide_eq_true (show 1 ≤ m ∧ m ≤ 6 by omega)] at ci
  clear h
  go_enter Try.func58, Try.ntmps58
  go_wp2_with (fail)
  with_reducible refine (ci _).mono ?_
  rintro e w1 ⟨rfl, rfl⟩
  go_wp2_with (fail)
  with_reducible refine (c1 _).mono ?_
  rintro e w1 ⟨rfl, rfl⟩
  go_wp2_with (fail)
  go_loop [10, 11] (fun n i => n = .int .i64 0 ∧ i = .int .i64 0) (fun _ _ => 0)
  case atStart => exact ⟨rfl, rfl⟩
  case round =>
    obtain ⟨rfl, rfl⟩ := hrel
    go_wp2_with (fail)
    go_ret2
    exact ⟨rfl, rfl⟩

theorem spec_num_out (s : ByteArray) (a m : Int) (w : World) (h : ¬ (1 ≤ m ∧ m ≤ 6)) :
    Calls Try.prog 58 #[.string s, .int .i64 a, .int .i64 m] w fun e w' => e = .returned (.tuple #[.int .i64 0, .bool false]) ∧ w = w' := by
  have ci := fun W => spec_in m 1 6 W
  rw [decide_eq_false h] at ci
  clear h
  go_enter Try.func58, Try.ntmps58
  go_wp2_with (fail)
  with_reducible refine (ci _).mono ?_
  rintro e w1 ⟨rfl, rfl⟩
  go_wp2_with (fail)
  go_ret2
  exact ⟨rfl, rfl⟩
end Go.Proofs.Ytnlbeoifmdfbjaa
