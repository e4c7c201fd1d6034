import Derived.Test.YtnfnggdngddpkaaTxt
import Derived.IntWalk
namespace Go.Proofs.Ytnfnggdngddpkaa
open Go.RowKit

/-- The number that bytes are, the highest first. -/
def numOf (l : List UInt8) : Nat := l.foldl (fun n c => n * 256 + c.toNat) 0

theorem numOf_nil : numOf [] = 0 := rfl
theorem numOf_snoc (l : List UInt8) (c : UInt8) : numOf (l ++ [c]) = numOf l * 256 + c.toNat := by simp [numOf, List.foldl_append]

theorem foldl_lt (l : List UInt8) (n : Nat) : l.foldl (fun n c => n * 256 + c.toNat) n < (n + 1) * 256 ^ l.length := by
  induction l generalizing n with
  | nil => simp
  | cons c l ih =>
    have hc := c.toNat_lt
    have h := ih (n * 256 + c.toNat)
    rw [List.foldl_cons, List.length_cons, Nat.pow_succ]
    have h2 : (n * 256 + c.toNat + 1) * 256 ^ l.length ≤ ((n + 1) * 256) * 256 ^ l.length := Nat.mul_le_mul_right _ (by omega)
    calc _ < _ := h
      _ ≤ _ := h2
      _ = _ := by rw [Nat.mul_assoc, Nat.mul_comm 256]

theorem numOf_lt (l : List UInt8) : numOf l < 256 ^ l.length := by
  have h := foldl_lt l 0
  simpa [numOf] using h

theorem numOf_take_lt (s : ByteArray) (k : Nat) (hk : k < s.size) (h6 : s.size ≤ 6) : numOf (s.data.toList.take k) < 1099511627776 := by
  have h := numOf_lt (s.data.toList.take k)
  have hl : (s.data.toList.take k).length ≤ 5 := by rw [List.length_take]; omega
  have := Nat.pow_le_pow_right (n := 256) (by omega) hl
  omega

theorem take_snoc (s : ByteArray) (k : Nat) (h : k < s.size) : s.data.toList.take (k + 1) = s.data.toList.take k ++ [s[k]] := by
  rw [List.take_succ_eq_append_getElem (by simpa using h)]; rfl

theorem or_low (n : Nat) (c : UInt8) (hn : n < 1099511627776) : bits .or .i64 ((n : Int) * 256) (c.toNat : Int) = ((n * 256 + c.toNat : Nat) : Int) := by
  have hc := c.toNat_lt
  have e : ∀ n : Nat, n < 9223372036854775808 → (BitVec.ofInt 64 (n : Int)).toNat = n := fun n hn => by
    rw [BitVec.ofInt_natCast, BitVec.toNat_ofNat]; exact Nat.mod_eq_of_lt (by omega)
  rw [show ((n : Int) * 256) = ((n * 256 : Nat) : Int) by omega]
  show IntKind.i64.wrap ((BitVec.ofInt 64 ((n * 256 : Nat) : Int) ||| BitVec.ofInt 64 (c.toNat : Int)).toNat : Int) = _
  rw [BitVec.toNat_or, e _ (by omega), e _ (by omega)]
  have : n * 256 ||| c.toNat = n * 256 + c.toNat := by
    rw [show n * 256 = n <<< 8 by rw [Nat.shiftLeft_eq]]
    rw [Nat.shiftLeft_add_eq_or_of_lt (by omega)]
  rw [this]
  exact IntWalk.i64_in _ (by omega)

attribute [irreducible] numOf

/-- The number that stands at a, m bytes wide. -/
def natAt (s : ByteArray) (a m : Int) : Nat := numOf (s.extract a.toNat (a + m).toNat).data.toList

theorem part_size (s : ByteArray) (a m : Int) (h : Part s a m) : (s.extract a.toNat (a + m).toNat).size = m.toNat := by
  obtain ⟨h0, h1, h2⟩ := h
  simp only [ByteArray.size_extract]; omega

set_option maxHeartbeats 1000000 in
theorem spec_num_yes (s : ByteArray) (a m : Int) (w : World) (hs : s.size ≤ 9223372036854775807) (h1 : 1 ≤ m) (h6 : m ≤ 6) (h : Part s a m) :
    Calls Try.prog 8 #[.string s, .int .i64 a, .int .i64 m] w fun e w' => e = .returned (.tuple #[.int .i64 (natAt s a m : Int), .bool true]) ∧ w = w' := by
  have c1 := fun W => spec_text_yes s a m W hs h
  have ci := fun W => spec_in m 1 6 W
  rw [decide_eq_true (show 1 ≤ m ∧ m ≤ 6 by omega)] at ci
  have hz := part_size s a m h
  unfold natAt
  generalize s.extract a.toNat (a + m).toNat = r at c1 hz
  clear h
  have hr6 : r.size ≤ 6 := by omega
  clear hz
  go_enter Try.func8, Try.ntmps8
  go_wp2_with (fail)
  with_reducible refine (ci _).mono ?_
  rintro e w1 ⟨rfl, rfl⟩
  go_wp2_with (fail)
  with_reducible refine (c1 _).mono ?_
  rintro e w1 ⟨rfl, rfl⟩
  go_wp2_with (fail)
  go_loop [10, 11] (fun n i => ∃ k : Nat, k ≤ r.size ∧ i = .int .i64 k ∧ n = .int .i64 (numOf (r.data.toList.take k) : Int)) (fun _ i => r.size - (intOf i).toNat)
  case atStart => exact ⟨0, by omega, rfl, by rw [List.take_zero, numOf_nil]; rfl⟩
  case round =>
    obtain ⟨k, hk, rfl, rfl⟩ := hrel
    by_cases hlt : k < r.size
    · have q : (k : Int) < (r.size : Int) := by omega
      have hn := numOf_take_lt r k hlt hr6
      have e1 := or_low (numOf (r.data.toList.take k)) r[k] hn
      have e2 := numOf_snoc (r.data.toList.take k) r[k]
      rw [← take_snoc r k hlt] at e2
      rw [← e2] at e1
      clear e2
      have e3 : wrap64 (r[k].toNat : Int) = (r[k].toNat : Int) := by
        have := r[k].toNat_lt
        exact IntWalk.wrap64_in _ ⟨by omega, by omega⟩
      have HW := Lib.hid e3
      clear e3
      have HY := Lib.hid e1
      generalize hx : numOf (r.data.toList.take k) = x at hn e1 HY ⊢
      clear hx e1
      go_wp2_with (fail)
      go_round
      case rel => exact ⟨k + 1, by omega, by go_num, by rw [HW.out, HY.out]⟩
      case measure => simp [intOf]; omega
    · obtain rfl : k = r.size := by omega
      have q : ¬ (r.size : Int) < (r.size : Int) := by omega
      rw [List.take_of_length_le (by simp)]
      go_wp2_with (fail)
      go_ret2
      exact ⟨rfl, rfl⟩

theorem spec_num_no (s : ByteArray) (a m : Int) (w : World) (hs : s.size ≤ 9223372036854775807) (ha : -9223372036854775808 ≤ a) (ha2 : a ≤ 9223372036854775807) (h1 : 1 ≤ m) (h6 : m ≤ 6) (h : ¬ Part s a m) :
    Calls Try.prog 8 #[.string s, .int .i64 a, .int .i64 m] w fun e w' => e = .returned (.tuple #[.int .i64 0, .bool false]) ∧ w = w' := by
  have c1 := fun W => spec_text_no s a m W hs ha ha2 h
  have ci := fun W => spec_in m 1 6 W
  rw [decide_eq_true (show 1 ≤ m ∧ m ≤ 6 by omega)] at ci
  clear h
  go_enter Try.func8, Try.ntmps8
  go_wp2_with (fail)
  with_reducible refine (ci _).mono ?_
  rintro e w1 ⟨rfl, rfl⟩
  go_wp2_with (fail)
  with_reducible refine (c1 _).mono ?_
  rintro e w1 ⟨rfl, rfl⟩
  go_wp2_with (fail)
  go_loop [10, 11] (fun n i => n = .int .i64 0 ∧ i = .int .i64 0) (fun _ _ => 0)
  case atStart => exact ⟨rfl, rfl⟩
  case round =>
    obtain ⟨rfl, rfl⟩ := hrel
    go_wp2_with (fail)
    go_ret2
    exact ⟨rfl, rfl⟩

theorem spec_num_out (s : ByteArray) (a m : Int) (w : World) (h : ¬ (1 ≤ m ∧ m ≤ 6)) :
    Calls Try.prog 8 #[.string s, .int .i64 a, .int .i64 m] w fun e w' => e = .returned (.tuple #[.int .i64 0, .bool false]) ∧ w = w' := by
  have ci := fun W => spec_in m 1 6 W
  rw [decide_eq_false h] at ci
  clear h
  go_enter Try.func8, Try.ntmps8
  go_wp2_with (fail)
  with_reducible refine (ci _).mono ?_
  rintro e w1 ⟨rfl, rfl⟩
  go_wp2_with (fail)
  go_ret2
  exact ⟨rfl, rfl⟩
end Go.Proofs.Ytnfnggdngddpkaa
