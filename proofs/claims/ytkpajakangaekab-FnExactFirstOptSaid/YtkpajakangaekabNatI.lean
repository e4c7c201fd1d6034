import Derived.Test.YtkpajakangaekabNat
namespace Go.Proofs.Ytkpajakangaekab
open Go.RowKit

set_option maxHeartbeats 1000000 in
theorem numberAt1_yes (s : ByteArray) (a : Int) (w : World) (hs : s.size ≤ 9223372036854775807) (h : Part s a 1) :
    Calls Try.prog 78 #[.string s, .int .i64 a] w fun e w' => e = .returned (.tuple #[.int .i64 (natAt s a 1 : Int), .bool true]) ∧ Below w.heap.size w w' := by
  have c1 := fun W => part_yes s a 1 W hs h
  have hz := part_size s a 1 h
  unfold natAt
  generalize s.extract a.toNat (a + 1).toNat = r at c1 hz
  clear h
  have hr6 : r.size ≤ 6 := by omega
  clear hz
  go_enter Try.func78, Try.ntmps78
  go_wp2_with (fail)
  with_reducible refine (c1 _).mono ?_
  rintro e w1 ⟨rfl, rfl⟩
  go_wp2_with (fail)
  go_loopw [9, 23] (fun n i wr => ∃ k : Nat, k ≤ r.size ∧ i = .int .i64 k ∧ n = .int .i64 (numOf (r.data.toList.take k) : Int) ∧ Below w.heap.size w wr) (fun _ i _ => r.size - (intOf i).toNat)
  case atStart => exact ⟨0, by omega, rfl, by rw [List.take_zero, numOf_nil]; rfl, (Below.refl _ _).alloc (Nat.le_refl _) _⟩
  case round =>
    obtain ⟨k, hk, rfl, rfl, hB⟩ := hrel
    by_cases hlt : k < r.size
    · have q : (k : Int) < (r.size : Int) := by omega
      have hn := numOf_take_lt r k hlt hr6
      have e1 := or_low (numOf (r.data.toList.take k)) r[k] hn
      have e2 := numOf_snoc (r.data.toList.take k) r[k]
      rw [← take_snoc r k hlt] at e2
      rw [← e2] at e1
      clear e2
      have e3 : wrap64 (r[k].toNat : Int) = (r[k].toNat : Int) := by
        have := r[k].toNat_lt
        exact IntWalk.wrap64_in _ ⟨by omega, by omega⟩
      have HW := Lib.hid e3
      clear e3
      have HY := Lib.hid e1
      generalize hx : numOf (r.data.toList.take k) = x at hn e1 HY ⊢
      clear hx e1
      go_wp2_with (fail)
      go_roundw
      case rel => exact ⟨k + 1, by omega, by go_num, by rw [HW.out, HY.out], hB⟩
      case measure => simp [intOf]; omega
    · obtain rfl : k = r.size := by omega
      have q : ¬ (r.size : Int) < (r.size : Int) := by omega
      rw [List.take_of_length_le (by simp)]
      go_wp2_with (fail)
      go_ret2
      exact ⟨rfl, hB⟩

theorem numberAt1_no (s : ByteArray) (a : Int) (w : World) (hs : s.size ≤ 9223372036854775807) (ha2 : a ≤ 9223372036854775807) (h : ¬ Part s a 1) :
    Calls Try.prog 78 #[.string s, .int .i64 a] w fun e w' => e = .returned (.tuple #[.int .i64 0, .bool false]) ∧ Below w.heap.size w w' := by
  have c1 := fun W => part_no s a 1 W hs ha2 h
  clear h
  go_enter Try.func78, Try.ntmps78
  go_wp2_with (fail)
  with_reducible refine (c1 _).mono ?_
  rintro e w1 ⟨rfl, rfl⟩
  go_wp2_with (fail)
  go_ret2
  exact ⟨rfl, (Below.refl _ _).alloc (Nat.le_refl _) _⟩

theorem impl_num1_yes (s : ByteArray) (a : Int) (w : World) (hs : s.size ≤ 9223372036854775807) (h : Part s a 1) :
    Calls Try.prog 74 #[.string s, .int .i64 a, .int .i64 1] w fun e w' => e = .returned (.tuple #[.int .i64 (natAt s a 1 : Int), .bool true]) ∧ Below w.heap.size w w' := by
  have c1 := fun W => numberAt1_yes s a W hs h
  generalize (natAt s a 1 : Int) = y at c1
  clear h
  go_enter Try.func74, Try.ntmps74
  go_wp2_with (fail)
  with_reducible refine (c1 _).mono ?_
  rintro e w1 ⟨rfl, hb⟩
  go_wp2_with (fail)
  go_ret2
  exact ⟨rfl, hb⟩

theorem impl_num1_no (s : ByteArray) (a : Int) (w : World) (hs : s.size ≤ 9223372036854775807) (ha2 : a ≤ 9223372036854775807) (h : ¬ Part s a 1) :
    Calls Try.prog 74 #[.string s, .int .i64 a, .int .i64 1] w fun e w' => e = .returned (.tuple #[.int .i64 0, .bool false]) ∧ Below w.heap.size w w' := by
  have c1 := fun W => numberAt1_no s a W hs ha2 h
  clear h
  go_enter Try.func74, Try.ntmps74
  go_wp2_with (fail)
  with_reducible refine (c1 _).mono ?_
  rintro e w1 ⟨rfl, hb⟩
  go_wp2_with (fail)
  go_ret2
  exact ⟨rfl, hb⟩

set_option maxHeartbeats 1000000 in
theorem numberAt2_yes (s : ByteArray) (a : Int) (w : World) (hs : s.size ≤ 9223372036854775807) (h : Part s a 2) :
    Calls Try.prog 79 #[.string s, .int .i64 a] w fun e w' => e = .returned (.tuple #[.int .i64 (natAt s a 2 : Int), .bool true]) ∧ Below w.heap.size w w' := by
  have c1 := fun W => part_yes s a 2 W hs h
  have hz := part_size s a 2 h
  unfold natAt
  generalize s.extract a.toNat (a + 2).toNat = r at c1 hz
  clear h
  have hr6 : r.size ≤ 6 := by omega
  clear hz
  go_enter Try.func79, Try.ntmps79
  go_wp2_with (fail)
  with_reducible refine (c1 _).mono ?_
  rintro e w1 ⟨rfl, rfl⟩
  go_wp2_with (fail)
  go_loopw [9, 23] (fun n i wr => ∃ k : Nat, k ≤ r.size ∧ i = .int .i64 k ∧ n = .int .i64 (numOf (r.data.toList.take k) : Int) ∧ Below w.heap.size w wr) (fun _ i _ => r.size - (intOf i).toNat)
  case atStart => exact ⟨0, by omega, rfl, by rw [List.take_zero, numOf_nil]; rfl, (Below.refl _ _).alloc (Nat.le_refl _) _⟩
  case round =>
    obtain ⟨k, hk, rfl, rfl, hB⟩ := hrel
    by_cases hlt : k < r.size
    · have q : (k : Int) < (r.size : Int) := by omega
      have hn := numOf_take_lt r k hlt hr6
      have e1 := or_low (numOf (r.data.toList.take k)) r[k] hn
      have e2 := numOf_snoc (r.data.toList.take k) r[k]
      rw [← take_snoc r k hlt] at e2
      rw [← e2] at e1
      clear e2
      have e3 : wrap64 (r[k].toNat : Int) = (r[k].toNat : Int) := by
        have := r[k].toNat_lt
        exact IntWalk.wrap64_in _ ⟨by omega, by omega⟩
      have HW := Lib.hid e3
      clear e3
      have HY := Lib.hid e1
      generalize hx : numOf (r.data.toList.take k) = x at hn e1 HY ⊢
      clear hx e1
      go_wp2_with (fail)
      go_roundw
      case rel => exact ⟨k + 1, by omega, by go_num, by rw [HW.out, HY.out], hB⟩
      case measure => simp [intOf]; omega
    · obtain rfl : k = r.size := by omega
      have q : ¬ (r.size : Int) < (r.size : Int) := by omega
      rw [List.take_of_length_le (by simp)]
      go_wp2_with (fail)
      go_ret2
      exact ⟨rfl, hB⟩

theorem numberAt2_no (s : ByteArray) (a : Int) (w : World) (hs : s.size ≤ 9223372036854775807) (ha2 : a ≤ 9223372036854775807) (h : ¬ Part s a 2) :
    Calls Try.prog 79 #[.string s, .int .i64 a] w fun e w' => e = .returned (.tuple #[.int .i64 0, .bool false]) ∧ Below w.heap.size w w' := by
  have c1 := fun W => part_no s a 2 W hs ha2 h
  clear h
  go_enter Try.func79, Try.ntmps79
  go_wp2_with (fail)
  with_reducible refine (c1 _).mono ?_
  rintro e w1 ⟨rfl, rfl⟩
  go_wp2_with (fail)
  go_ret2
  exact ⟨rfl, (Below.refl _ _).alloc (Nat.le_refl _) _⟩

theorem impl_num2_yes (s : ByteArray) (a : Int) (w : World) (hs : s.size ≤ 9223372036854775807) (h : Part s a 2) :
    Calls Try.prog 74 #[.string s, .int .i64 a, .int .i64 2] w fun e w' => e = .returned (.tuple #[.int .i64 (natAt s a 2 : Int), .bool true]) ∧ Below w.heap.size w w' := by
  have c1 := fun W => numberAt2_yes s a W hs h
  generalize (natAt s a 2 : Int) = y at c1
  clear h
  go_enter Try.func74, Try.ntmps74
  go_wp2_with (fail)
  with_reducible refine (c1 _).mono ?_
  rintro e w1 ⟨rfl, hb⟩
  go_wp2_with (fail)
  go_ret2
  exact ⟨rfl, hb⟩

theorem impl_num2_no (s : ByteArray) (a : Int) (w : World) (hs : s.size ≤ 9223372036854775807) (ha2 : a ≤ 9223372036854775807) (h : ¬ Part s a 2) :
    Calls Try.prog 74 #[.string s, .int .i64 a, .int .i64 2] w fun e w' => e = .returned (.tuple #[.int .i64 0, .bool false]) ∧ Below w.heap.size w w' := by
  have c1 := fun W => numberAt2_no s a W hs ha2 h
  clear h
  go_enter Try.func74, Try.ntmps74
  go_wp2_with (fail)
  with_reducible refine (c1 _).mono ?_
  rintro e w1 ⟨rfl, hb⟩
  go_wp2_with (fail)
  go_ret2
  exact ⟨rfl, hb⟩

set_option maxHeartbeats 1000000 in
theorem numberAt3_yes (s : ByteArray) (a : Int) (w : World) (hs : s.size ≤ 9223372036854775807) (h : Part s a 3) :
    Calls Try.prog 80 #[.string s, .int .i64 a] w fun e w' => e = .returned (.tuple #[.int .i64 (natAt s a 3 : Int), .bool true]) ∧ Below w.heap.size w w' := by
  have c1 := fun W => part_yes s a 3 W hs h
  have hz := part_size s a 3 h
  unfold natAt
  generalize s.extract a.toNat (a + 3).toNat = r at c1 hz
  clear h
  have hr6 : r.size ≤ 6 := by omega
  clear hz
  go_enter Try.func80, Try.ntmps80
  go_wp2_with (fail)
  with_reducible refine (c1 _).mono ?_
  rintro e w1 ⟨rfl, rfl⟩
  go_wp2_with (fail)
  go_loopw [9, 23] (fun n i wr => ∃ k : Nat, k ≤ r.size ∧ i = .int .i64 k ∧ n = .int .i64 (numOf (r.data.toList.take k) : Int) ∧ Below w.heap.size w wr) (fun _ i _ => r.size - (intOf i).toNat)
  case atStart => exact ⟨0, by omega, rfl, by rw [List.take_zero, numOf_nil]; rfl, (Below.refl _ _).alloc (Nat.le_refl _) _⟩
  case round =>
    obtain ⟨k, hk, rfl, rfl, hB⟩ := hrel
    by_cases hlt : k < r.size
    · have q : (k : Int) < (r.size : Int) := by omega
      have hn := numOf_take_lt r k hlt hr6
      have e1 := or_low (numOf (r.data.toList.take k)) r[k] hn
      have e2 := numOf_snoc (r.data.toList.take k) r[k]
      rw [← take_snoc r k hlt] at e2
      rw [← e2] at e1
      clear e2
      have e3 : wrap64 (r[k].toNat : Int) = (r[k].toNat : Int) := by
        have := r[k].toNat_lt
        exact IntWalk.wrap64_in _ ⟨by omega, by omega⟩
      have HW := Lib.hid e3
      clear e3
      have HY := Lib.hid e1
      generalize hx : numOf (r.data.toList.take k) = x at hn e1 HY ⊢
      clear hx e1
      go_wp2_with (fail)
      go_roundw
      case rel => exact ⟨k + 1, by omega, by go_num, by rw [HW.out, HY.out], hB⟩
      case measure => simp [intOf]; omega
    · obtain rfl : k = r.size := by omega
      have q : ¬ (r.size : Int) < (r.size : Int) := by omega
      rw [List.take_of_length_le (by simp)]
      go_wp2_with (fail)
      go_ret2
      exact ⟨rfl, hB⟩

theorem numberAt3_no (s : ByteArray) (a : Int) (w : World) (hs : s.size ≤ 9223372036854775807) (ha2 : a ≤ 9223372036854775807) (h : ¬ Part s a 3) :
    Calls Try.prog 80 #[.string s, .int .i64 a] w fun e w' => e = .returned (.tuple #[.int .i64 0, .bool false]) ∧ Below w.heap.size w w' := by
  have c1 := fun W => part_no s a 3 W hs ha2 h
  clear h
  go_enter Try.func80, Try.ntmps80
  go_wp2_with (fail)
  with_reducible refine (c1 _).mono ?_
  rintro e w1 ⟨rfl, rfl⟩
  go_wp2_with (fail)
  go_ret2
  exact ⟨rfl, (Below.refl _ _).alloc (Nat.le_refl _) _⟩

theorem impl_num3_yes (s : ByteArray) (a : Int) (w : World) (hs : s.size ≤ 9223372036854775807) (h : Part s a 3) :
    Calls Try.prog 74 #[.string s, .int .i64 a, .int .i64 3] w fun e w' => e = .returned (.tuple #[.int .i64 (natAt s a 3 : Int), .bool true]) ∧ Below w.heap.size w w' := by
  have c1 := fun W => numberAt3_yes s a W hs h
  generalize (natAt s a 3 : Int) = y at c1
  clear h
  go_enter Try.func74, Try.ntmps74
  go_wp2_with (fail)
  with_reducible refine (c1 _).mono ?_
  rintro e w1 ⟨rfl, hb⟩
  go_wp2_with (fail)
  go_ret2
  exact ⟨rfl, hb⟩

theorem impl_num3_no (s : ByteArray) (a : Int) (w : World) (hs : s.size ≤ 9223372036854775807) (ha2 : a ≤ 9223372036854775807) (h : ¬ Part s a 3) :
    Calls Try.prog 74 #[.string s, .int .i64 a, .int .i64 3] w fun e w' => e = .returned (.tuple #[.int .i64 0, .bool false]) ∧ Below w.heap.size w w' := by
  have c1 := fun W => numberAt3_no s a W hs ha2 h
  clear h
  go_enter Try.func74, Try.ntmps74
  go_wp2_with (fail)
  with_reducible refine (c1 _).mono ?_
  rintro e w1 ⟨rfl, hb⟩
  go_wp2_with (fail)
  go_ret2
  exact ⟨rfl, hb⟩

set_option maxHeartbeats 1000000 in
theorem numberAt4_yes (s : ByteArray) (a : Int) (w : World) (hs : s.size ≤ 9223372036854775807) (h : Part s a 4) :
    Calls Try.prog 81 #[.string s, .int .i64 a] w fun e w' => e = .returned (.tuple #[.int .i64 (natAt s a 4 : Int), .bool true]) ∧ Below w.heap.size w w' := by
  have c1 := fun W => part_yes s a 4 W hs h
  have hz := part_size s a 4 h
  unfold natAt
  generalize s.extract a.toNat (a + 4).toNat = r at c1 hz
  clear h
  have hr6 : r.size ≤ 6 := by omega
  clear hz
  go_enter Try.func81, Try.ntmps81
  go_wp2_with (fail)
  with_reducible refine (c1 _).mono ?_
  rintro e w1 ⟨rfl, rfl⟩
  go_wp2_with (fail)
  go_loopw [9, 23] (fun n i wr => ∃ k : Nat, k ≤ r.size ∧ i = .int .i64 k ∧ n = .int .i64 (numOf (r.data.toList.take k) : Int) ∧ Below w.heap.size w wr) (fun _ i _ => r.size - (intOf i).toNat)
  case atStart => exact ⟨0, by omega, rfl, by rw [List.take_zero, numOf_nil]; rfl, (Below.refl _ _).alloc (Nat.le_refl _) _⟩
  case round =>
    obtain ⟨k, hk, rfl, rfl, hB⟩ := hrel
    by_cases hlt : k < r.size
    · have q : (k : Int) < (r.size : Int) := by omega
      have hn := numOf_take_lt r k hlt hr6
      have e1 := or_low (numOf (r.data.toList.take k)) r[k] hn
      have e2 := numOf_snoc (r.data.toList.take k) r[k]
      rw [← take_snoc r k hlt] at e2
      rw [← e2] at e1
      clear e2
      have e3 : wrap64 (r[k].toNat : Int) = (r[k].toNat : Int) := by
        have := r[k].toNat_lt
        exact IntWalk.wrap64_in _ ⟨by omega, by omega⟩
      have HW := Lib.hid e3
      clear e3
      have HY := Lib.hid e1
      generalize hx : numOf (r.data.toList.take k) = x at hn e1 HY ⊢
      clear hx e1
      go_wp2_with (fail)
      go_roundw
      case rel => exact ⟨k + 1, by omega, by go_num, by rw [HW.out, HY.out], hB⟩
      case measure => simp [intOf]; omega
    · obtain rfl : k = r.size := by omega
      have q : ¬ (r.size : Int) < (r.size : Int) := by omega
      rw [List.take_of_length_le (by simp)]
      go_wp2_with (fail)
      go_ret2
      exact ⟨rfl, hB⟩

theorem numberAt4_no (s : ByteArray) (a : Int) (w : World) (hs : s.size ≤ 9223372036854775807) (ha2 : a ≤ 9223372036854775807) (h : ¬ Part s a 4) :
    Calls Try.prog 81 #[.string s, .int .i64 a] w fun e w' => e = .returned (.tuple #[.int .i64 0, .bool false]) ∧ Below w.heap.size w w' := by
  have c1 := fun W => part_no s a 4 W hs ha2 h
  clear h
  go_enter Try.func81, Try.ntmps81
  go_wp2_with (fail)
  with_reducible refine (c1 _).mono ?_
  rintro e w1 ⟨rfl, rfl⟩
  go_wp2_with (fail)
  go_ret2
  exact ⟨rfl, (Below.refl _ _).alloc (Nat.le_refl _) _⟩

theorem impl_num4_yes (s : ByteArray) (a : Int) (w : World) (hs : s.size ≤ 9223372036854775807) (h : Part s a 4) :
    Calls Try.prog 74 #[.string s, .int .i64 a, .int .i64 4] w fun e w' => e = .returned (.tuple #[.int .i64 (natAt s a 4 : Int), .bool true]) ∧ Below w.heap.size w w' := by
  have c1 := fun W => numberAt4_yes s a W hs h
  generalize (natAt s a 4 : Int) = y at c1
  clear h
  go_enter Try.func74, Try.ntmps74
  go_wp2_with (fail)
  with_reducible refine (c1 _).mono ?_
  rintro e w1 ⟨rfl, hb⟩
  go_wp2_with (fail)
  go_ret2
  exact ⟨rfl, hb⟩

theorem impl_num4_no (s : ByteArray) (a : Int) (w : World) (hs : s.size ≤ 9223372036854775807) (ha2 : a ≤ 9223372036854775807) (h : ¬ Part s a 4) :
    Calls Try.prog 74 #[.string s, .int .i64 a, .int .i64 4] w fun e w' => e = .returned (.tuple #[.int .i64 0, .bool false]) ∧ Below w.heap.size w w' := by
  have c1 := fun W => numberAt4_no s a W hs ha2 h
  clear h
  go_enter Try.func74, Try.ntmps74
  go_wp2_with (fail)
  with_reducible refine (c1 _).mono ?_
  rintro e w1 ⟨rfl, hb⟩
  go_wp2_with (fail)
  go_ret2
  exact ⟨rfl, hb⟩

set_option maxHeartbeats 1000000 in
theorem numberAt5_yes (s : ByteArray) (a : Int) (w : World) (hs : s.size ≤ 9223372036854775807) (h : Part s a 5) :
    Calls Try.prog 82 #[.string s, .int .i64 a] w fun e w' => e = .returned (.tuple #[.int .i64 (natAt s a 5 : Int), .bool true]) ∧ Below w.heap.size w w' := by
  have c1 := fun W => part_yes s a 5 W hs h
  have hz := part_size s a 5 h
  unfold natAt
  generalize s.extract a.toNat (a + 5).toNat = r at c1 hz
  clear h
  have hr6 : r.size ≤ 6 := by omega
  clear hz
  go_enter Try.func82, Try.ntmps82
  go_wp2_with (fail)
  with_reducible refine (c1 _).mono ?_
  rintro e w1 ⟨rfl, rfl⟩
  go_wp2_with (fail)
  go_loopw [9, 23] (fun n i wr => ∃ k : Nat, k ≤ r.size ∧ i = .int .i64 k ∧ n = .int .i64 (numOf (r.data.toList.take k) : Int) ∧ Below w.heap.size w wr) (fun _ i _ => r.size - (intOf i).toNat)
  case atStart => exact ⟨0, by omega, rfl, by rw [List.take_zero, numOf_nil]; rfl, (Below.refl _ _).alloc (Nat.le_refl _) _⟩
  case round =>
    obtain ⟨k, hk, rfl, rfl, hB⟩ := hrel
    by_cases hlt : k < r.size
    · have q : (k : Int) < (r.size : Int) := by omega
      have hn := numOf_take_lt r k hlt hr6
      have e1 := or_low (numOf (r.data.toList.take k)) r[k] hn
      have e2 := numOf_snoc (r.data.toList.take k) r[k]
      rw [← take_snoc r k hlt] at e2
      rw [← e2] at e1
      clear e2
      have e3 : wrap64 (r[k].toNat : Int) = (r[k].toNat : Int) := by
        have := r[k].toNat_lt
        exact IntWalk.wrap64_in _ ⟨by omega, by omega⟩
      have HW := Lib.hid e3
      clear e3
      have HY := Lib.hid e1
      generalize hx : numOf (r.data.toList.take k) = x at hn e1 HY ⊢
      clear hx e1
      go_wp2_with (fail)
      go_roundw
      case rel => exact ⟨k + 1, by omega, by go_num, by rw [HW.out, HY.out], hB⟩
      case measure => simp [intOf]; omega
    · obtain rfl : k = r.size := by omega
      have q : ¬ (r.size : Int) < (r.size : Int) := by omega
      rw [List.take_of_length_le (by simp)]
      go_wp2_with (fail)
      go_ret2
      exact ⟨rfl, hB⟩

theorem numberAt5_no (s : ByteArray) (a : Int) (w : World) (hs : s.size ≤ 9223372036854775807) (ha2 : a ≤ 9223372036854775807) (h : ¬ Part s a 5) :
    Calls Try.prog 82 #[.string s, .int .i64 a] w fun e w' => e = .returned (.tuple #[.int .i64 0, .bool false]) ∧ Below w.heap.size w w' := by
  have c1 := fun W => part_no s a 5 W hs ha2 h
  clear h
  go_enter Try.func82, Try.ntmps82
  go_wp2_with (fail)
  with_reducible refine (c1 _).mono ?_
  rintro e w1 ⟨rfl, rfl⟩
  go_wp2_with (fail)
  go_ret2
  exact ⟨rfl, (Below.refl _ _).alloc (Nat.le_refl _) _⟩

theorem impl_num5_yes (s : ByteArray) (a : Int) (w : World) (hs : s.size ≤ 9223372036854775807) (h : Part s a 5) :
    Calls Try.prog 74 #[.string s, .int .i64 a, .int .i64 5] w fun e w' => e = .returned (.tuple #[.int .i64 (natAt s a 5 : Int), .bool true]) ∧ Below w.heap.size w w' := by
  have c1 := fun W => numberAt5_yes s a W hs h
  generalize (natAt s a 5 : Int) = y at c1
  clear h
  go_enter Try.func74, Try.ntmps74
  go_wp2_with (fail)
  with_reducible refine (c1 _).mono ?_
  rintro e w1 ⟨rfl, hb⟩
  go_wp2_with (fail)
  go_ret2
  exact ⟨rfl, hb⟩

theorem impl_num5_no (s : ByteArray) (a : Int) (w : World) (hs : s.size ≤ 9223372036854775807) (ha2 : a ≤ 9223372036854775807) (h : ¬ Part s a 5) :
    Calls Try.prog 74 #[.string s, .int .i64 a, .int .i64 5] w fun e w' => e = .returned (.tuple #[.int .i64 0, .bool false]) ∧ Below w.heap.size w w' := by
  have c1 := fun W => numberAt5_no s a W hs ha2 h
  clear h
  go_enter Try.func74, Try.ntmps74
  go_wp2_with (fail)
  with_reducible refine (c1 _).mono ?_
  rintro e w1 ⟨rfl, hb⟩
  go_wp2_with (fail)
  go_ret2
  exact ⟨rfl, hb⟩

set_option maxHeartbeats 1000000 in
theorem numberAt6_yes (s : ByteArray) (a : Int) (w : World) (hs : s.size ≤ 9223372036854775807) (h : Part s a 6) :
    Calls Try.prog 83 #[.string s, .int .i64 a] w fun e w' => e = .returned (.tuple #[.int .i64 (natAt s a 6 : Int), .bool true]) ∧ Below w.heap.size w w' := by
  have c1 := fun W => part_yes s a 6 W hs h
  have hz := part_size s a 6 h
  unfold natAt
  generalize s.extract a.toNat (a + 6).toNat = r at c1 hz
  clear h
  have hr6 : r.size ≤ 6 := by omega
  clear hz
  go_enter Try.func83, Try.ntmps83
  go_wp2_with (fail)
  with_reducible refine (c1 _).mono ?_
  rintro e w1 ⟨rfl, rfl⟩
  go_wp2_with (fail)
  go_loopw [9, 23] (fun n i wr => ∃ k : Nat, k ≤ r.size ∧ i = .int .i64 k ∧ n = .int .i64 (numOf (r.data.toList.take k) : Int) ∧ Below w.heap.size w wr) (fun _ i _ => r.size - (intOf i).toNat)
  case atStart => exact ⟨0, by omega, rfl, by rw [List.take_zero, numOf_nil]; rfl, (Below.refl _ _).alloc (Nat.le_refl _) _⟩
  case round =>
    obtain ⟨k, hk, rfl, rfl, hB⟩ := hrel
    by_cases hlt : k < r.size
    · have q : (k : Int) < (r.size : Int) := by omega
      have hn := numOf_take_lt r k hlt hr6
      have e1 := or_low (numOf (r.data.toList.take k)) r[k] hn
      have e2 := numOf_snoc (r.data.toList.take k) r[k]
      rw [← take_snoc r k hlt] at e2
      rw [← e2] at e1
      clear e2
      have e3 : wrap64 (r[k].toNat : Int) = (r[k].toNat : Int) := by
        have := r[k].toNat_lt
        exact IntWalk.wrap64_in _ ⟨by omega, by omega⟩
      have HW := Lib.hid e3
      clear e3
      have HY := Lib.hid e1
      generalize hx : numOf (r.data.toList.take k) = x at hn e1 HY ⊢
      clear hx e1
      go_wp2_with (fail)
      go_roundw
      case rel => exact ⟨k + 1, by omega, by go_num, by rw [HW.out, HY.out], hB⟩
      case measure => simp [intOf]; omega
    · obtain rfl : k = r.size := by omega
      have q : ¬ (r.size : Int) < (r.size : Int) := by omega
      rw [List.take_of_length_le (by simp)]
      go_wp2_with (fail)
      go_ret2
      exact ⟨rfl, hB⟩

theorem numberAt6_no (s : ByteArray) (a : Int) (w : World) (hs : s.size ≤ 9223372036854775807) (ha2 : a ≤ 9223372036854775807) (h : ¬ Part s a 6) :
    Calls Try.prog 83 #[.string s, .int .i64 a] w fun e w' => e = .returned (.tuple #[.int .i64 0, .bool false]) ∧ Below w.heap.size w w' := by
  have c1 := fun W => part_no s a 6 W hs ha2 h
  clear h
  go_enter Try.func83, Try.ntmps83
  go_wp2_with (fail)
  with_reducible refine (c1 _).mono ?_
  rintro e w1 ⟨rfl, rfl⟩
  go_wp2_with (fail)
  go_ret2
  exact ⟨rfl, (Below.refl _ _).alloc (Nat.le_refl _) _⟩

theorem impl_num6_yes (s : ByteArray) (a : Int) (w : World) (hs : s.size ≤ 9223372036854775807) (h : Part s a 6) :
    Calls Try.prog 74 #[.string s, .int .i64 a, .int .i64 6] w fun e w' => e = .returned (.tuple #[.int .i64 (natAt s a 6 : Int), .bool true]) ∧ Below w.heap.size w w' := by
  have c1 := fun W => numberAt6_yes s a W hs h
  generalize (natAt s a 6 : Int) = y at c1
  clear h
  go_enter Try.func74, Try.ntmps74
  go_wp2_with (fail)
  with_reducible refine (c1 _).mono ?_
  rintro e w1 ⟨rfl, hb⟩
  go_wp2_with (fail)
  go_ret2
  exact ⟨rfl, hb⟩

theorem impl_num6_no (s : ByteArray) (a : Int) (w : World) (hs : s.size ≤ 9223372036854775807) (ha2 : a ≤ 9223372036854775807) (h : ¬ Part s a 6) :
    Calls Try.prog 74 #[.string s, .int .i64 a, .int .i64 6] w fun e w' => e = .returned (.tuple #[.int .i64 0, .bool false]) ∧ Below w.heap.size w w' := by
  have c1 := fun W => numberAt6_no s a W hs ha2 h
  clear h
  go_enter Try.func74, Try.ntmps74
  go_wp2_with (fail)
  with_reducible refine (c1 _).mono ?_
  rintro e w1 ⟨rfl, hb⟩
  go_wp2_with (fail)
  go_ret2
  exact ⟨rfl, hb⟩

theorem impl_num_out (s : ByteArray) (a m : Int) (w : World) (h : ¬ (1 ≤ m ∧ m ≤ 6)) :
    Calls Try.prog 74 #[.string s, .int .i64 a, .int .i64 m] w fun e w' => e = .returned (.tuple #[.int .i64 0, .bool false]) ∧ Below w.heap.size w w' := by
  have q : ∀ k : Int, 1 ≤ k → k ≤ 6 → (m == k) = false := fun k h1 h2 => by
    simp only [beq_eq_false_iff_ne, ne_eq]; intro e; exact h (by omega)
  have q1 := q 1 (by omega) (by omega)
  have q2 := q 2 (by omega) (by omega)
  have q3 := q 3 (by omega) (by omega)
  have q4 := q 4 (by omega) (by omega)
  have q5 := q 5 (by omega) (by omega)
  have q6 := q 6 (by omega) (by omega)
  clear q h
  go_enter Try.func74, Try.ntmps74
  go_wp2_with (fail)
  go_ret2
  exact ⟨rfl, Below.refl _ _⟩

theorem impl_num_yes (s : ByteArray) (a m : Int) (w : World) (hs : s.size ≤ 9223372036854775807) (h1 : 1 ≤ m) (h6 : m ≤ 6) (h : Part s a m) :
    Calls Try.prog 74 #[.string s, .int .i64 a, .int .i64 m] w fun e w' => e = .returned (.tuple #[.int .i64 (natAt s a m : Int), .bool true]) ∧ Below w.heap.size w w' := by
  have hc : m = 1 ∨ m = 2 ∨ m = 3 ∨ m = 4 ∨ m = 5 ∨ m = 6 := by omega
  rcases hc with rfl | rfl | rfl | rfl | rfl | rfl
  · exact impl_num1_yes s a w hs h
  · exact impl_num2_yes s a w hs h
  · exact impl_num3_yes s a w hs h
  · exact impl_num4_yes s a w hs h
  · exact impl_num5_yes s a w hs h
  · exact impl_num6_yes s a w hs h

theorem impl_num_no (s : ByteArray) (a m : Int) (w : World) (hs : s.size ≤ 9223372036854775807) (ha2 : a ≤ 9223372036854775807) (h1 : 1 ≤ m) (h6 : m ≤ 6) (h : ¬ Part s a m) :
    Calls Try.prog 74 #[.string s, .int .i64 a, .int .i64 m] w fun e w' => e = .returned (.tuple #[.int .i64 0, .bool false]) ∧ Below w.heap.size w w' := by
  have hc : m = 1 ∨ m = 2 ∨ m = 3 ∨ m = 4 ∨ m = 5 ∨ m = 6 := by omega
  rcases hc with rfl | rfl | rfl | rfl | rfl | rfl
  · exact impl_num1_no s a w hs ha2 h
  · exact impl_num2_no s a w hs ha2 h
  · exact impl_num3_no s a w hs ha2 h
  · exact impl_num4_no s a w hs ha2 h
  · exact impl_num5_no s a w hs ha2 h
  · exact impl_num6_no s a w hs ha2 h
end Go.Proofs.Ytkpajakangaekab
