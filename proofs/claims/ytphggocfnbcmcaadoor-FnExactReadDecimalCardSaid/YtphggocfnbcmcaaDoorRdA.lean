import Derived.Test.YtphggocfnbcmcaaDoorDec
import Derived.Lib.Atoi
import Derived.Lib.AtoiTie
namespace Go.Proofs.YtphggocfnbcmcaaDoor
open Go.RowKit

theorem decFrom_append : ∀ (a b : List UInt8) (acc : Nat), Lib.decFrom acc (a ++ b) = (Lib.decFrom acc a).bind fun n => Lib.decFrom n b
  | [], b, acc => rfl
  | c :: a, b, acc => by
    simp only [List.cons_append, Lib.decFrom]
    cases Lib.digitVal c with
    | none => rfl
    | some d => exact decFrom_append a b _

theorem digitVal_of (d : Nat) (h : d < 10) : Lib.digitVal (UInt8.ofNat (48 + d)) = some d := by
  have : ∀ m : Fin 10, Lib.digitVal (UInt8.ofNat (48 + m.val)) = some m.val := by decide +kernel
  exact this ⟨d, h⟩

theorem decFrom_digits (u : Nat) : Lib.decFrom 0 (Lib.decDigits u) = some u := by
  induction u using Nat.strongRecOn with
  | _ u ih =>
    rw [Lib.decDigits]
    split
    · rename_i h
      simp only [Lib.decFrom, digitVal_of u h, Nat.zero_mul, Nat.zero_add]
    · rename_i h
      rw [decFrom_append, ih (u / 10) (by omega)]
      simp only [Option.bind_some, Lib.decFrom, digitVal_of (u % 10) (by omega)]
      congr 1
      omega

/-- What ReadDecimal answers. -/
def rdEnd (s : ByteArray) : Value :=
  match Lib.decFrom 0 s.data.toList with
  | some n => if s.size ≤ 10 ∧ n ≤ 1000000000 ∧ Lib.decDigits n = s.data.toList then .tuple #[.int .i64 n, .bool true] else .tuple #[.int .i64 0, .bool false]
  | none => .tuple #[.int .i64 0, .bool false]

theorem rd_yes {s : ByteArray} {n : Nat} (h : Lib.decFrom 0 s.data.toList = some n) (h0 : s.size ≤ 10) (h1 : n ≤ 1000000000) (h2 : Lib.decDigits n = s.data.toList) : Value.tuple #[.int .i64 n, .bool true] = rdEnd s := by
  simp [rdEnd, h, h0, h1, h2]
theorem rd_none {s : ByteArray} (h : Lib.decFrom 0 s.data.toList = none) : Value.tuple #[.int .i64 0, .bool false] = rdEnd s := by
  simp [rdEnd, h]
theorem rd_not {s : ByteArray} (h : ∀ n, s.size ≤ 10 → Lib.decFrom 0 s.data.toList = some n → n ≤ 1000000000 → Lib.decDigits n = s.data.toList → False) : Value.tuple #[.int .i64 0, .bool false] = rdEnd s := by
  unfold rdEnd
  split
  · rename_i n hn
    rw [if_neg (fun hc => h n hc.1 hn hc.2.1 hc.2.2)]
  · rfl
theorem rd_form (s : ByteArray) : ∃ n b, rdEnd s = .tuple #[.int .i64 n, .bool b] := by
  unfold rdEnd
  split
  · split
    · exact ⟨_, _, rfl⟩
    · exact ⟨_, _, rfl⟩
  · exact ⟨_, _, rfl⟩

theorem byte_get (s : ByteArray) (k : Nat) (h : k < s.size) : s.data.toList[k]? = some s[k] := by
  rw [List.getElem?_eq_getElem (by simpa using h)]; simp; rfl

theorem ret_val {a b : Value} (h : a = b) : Ending.returned a = .returned b := by rw [h]

theorem take_bound {l : List UInt8} {k n : Nat} (h : Lib.decFrom 0 (l.take k) = some n) (hk : k ≤ 10) : n < 10000000000 := by
  have h1 := Lib.decFrom_lt _ _ _ h
  have h2 : 10 ^ (l.take k).length ≤ 10 ^ 10 := Nat.pow_le_pow_right (by omega) (by have := List.length_take_le k l; omega)
  have h3 : (10 : Nat) ^ 10 = 10000000000 := by decide
  omega

theorem digit_some (c : UInt8) (h1 : 48 ≤ (c.toNat : Int)) (h2 : (c.toNat : Int) ≤ 57) : Lib.digitVal c = some (c.toNat - 48) := by
  unfold Lib.digitVal
  rw [if_pos (by omega)]

theorem nondigit {s : ByteArray} {k : Nat} (h : k < s.size) (hd : ¬ (48 ≤ (s[k].toNat : Int) ∧ (s[k].toNat : Int) ≤ 57)) : Lib.decFrom 0 s.data.toList = none := by
  cases hx : Lib.decFrom 0 s.data.toList with
  | none => rfl
  | some n =>
    obtain ⟨d, h1⟩ := Lib.digit_of_decFrom _ _ _ hx k s[k] (byte_get s k h)
    have := Lib.digitVal_eq h1
    omega

theorem rd_whole {s : ByteArray} {k acc : Nat} (hk : k ≤ s.size) (h : ¬ k < s.size) (hacc : Lib.decFrom 0 (s.data.toList.take k) = some acc) : Lib.decFrom 0 s.data.toList = some acc := by
  rw [List.take_of_length_le (by simp; omega)] at hacc
  exact hacc

theorem itoa_nat (n : Nat) : Lib.itoa (n : Int) = Lib.decDigits n := by
  unfold Lib.itoa
  rw [if_neg (by omega)]
  simp

set_option maxRecDepth 100000 in
set_option maxHeartbeats 1600000 in
theorem model_rd (s : ByteArray) (w : World) (hs : s.size ≤ 10) :
    Calls Tryd.prog 15 #[.string s] w fun e w' => e = .returned (rdEnd s) ∧ Below w.heap.size w w' := by
  go_enter Tryd.func15, Tryd.ntmps15
  go_wp2
  go_loop [4, 5] (fun n i => ∃ k acc : Nat, k ≤ s.size ∧ i = .int .i64 k ∧ n = .int .i64 acc ∧ Lib.decFrom 0 (s.data.toList.take k) = some acc) (fun _ i => s.size - (intOf i).toNat)
  case atStart => exact ⟨0, 0, by omega, rfl, rfl, rfl⟩
  case round =>
    obtain ⟨k, acc, hk, rfl, rfl, hacc⟩ := hrel
    have hb := take_bound hacc (by omega)
    have Hacc := Lib.hid hacc
    clear hacc
    by_cases hlt : k < s.size
    · have hc1 : (s[k].toNat : Int) < 256 := by have := s[k].toNat_lt; omega
      by_cases d1 : (s[k].toNat : Int) < 48
      · have bad : Lib.decFrom 0 s.data.toList = none := nondigit hlt (by omega)
        go_wp2
        go_ret2
        exact ⟨ret_val (rd_none bad), Below.refl _ _⟩
      · by_cases d2 : (57 : Int) < (s[k].toNat : Int)
        · have bad : Lib.decFrom 0 s.data.toList = none := nondigit hlt (by omega)
          go_wp2
          go_ret2
          exact ⟨ret_val (rd_none bad), Below.refl _ _⟩
        · have Hn := Lib.hid (Lib.decFrom_take _ _ _ _ _ _ Hacc.out (byte_get s k hlt) (digit_some s[k] (by omega) (by omega)))
          go_wp2
          go_round
          case rel => exact ⟨k + 1, _, by omega, by go_num, by go_num, Hn.out⟩
          case measure => simp [intOf]; omega
    · by_cases big : 1000000000 < acc
      · go_wp2
        go_ret2
        exact ⟨ret_val (rd_not (fun n _ h2 h3 _ => by rw [rd_whole hk hlt Hacc.out] at h2; cases h2; omega)), Below.refl _ _⟩
      · have c1 := fun w => model_decimal (acc : Int) (by omega) (by omega) w
        rw [itoa_nat] at c1
        have hl : s.toList = s.data.toList := ByteArray.toList_eq s
        by_cases he : Lib.decDigits acc = s.data.toList
        · have hq : (Lib.decDigits acc == s.toList) = true := by rw [hl, he]; simp
          clear hl
          go_wp2_with (go_at_call 14; refine (c1 _).mono ?_; rintro e w1 ⟨rfl, hb1⟩)
          go_ret2
          exact ⟨ret_val (rd_yes (rd_whole hk hlt Hacc.out) hs (by omega) he), hb1⟩
        · have hq : (Lib.decDigits acc == s.toList) = false := by rw [hl]; simpa using he
          clear hl
          go_wp2_with (go_at_call 14; refine (c1 _).mono ?_; rintro e w1 ⟨rfl, hb1⟩)
          go_ret2
          exact ⟨ret_val (rd_not (fun n _ h2 _ h4 => by rw [rd_whole hk hlt Hacc.out] at h2; cases h2; exact he h4)), hb1⟩
end Go.Proofs.YtphggocfnbcmcaaDoor
