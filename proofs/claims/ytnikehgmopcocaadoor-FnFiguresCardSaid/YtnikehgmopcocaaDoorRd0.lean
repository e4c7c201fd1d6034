import Derived.Test.YtnikehgmopcocaaDoorDec0
import Derived.Test.YtnikehgmopcocaaDoorAtoi
import Derived.Lib.Atoi
import Derived.Lib.AtoiTie
import Derived.Lib.SmallJoins
namespace Go.Proofs.YtnikehgmopcocaaDoor
open Go.RowKit

theorem decFrom_append : ∀ (a b : List UInt8) (acc : Nat), Lib.decFrom acc (a ++ b) = (Lib.decFrom acc a).bind fun n => Lib.decFrom n b
  | [], b, acc => rfl
  | c :: a, b, acc => by
    simp only [List.cons_append, Lib.decFrom]
    cases Lib.digitVal c with
    | none => rfl
    | some d => exact decFrom_append a b _

theorem digitVal_of (d : Nat) (h : d < 10) : Lib.digitVal (UInt8.ofNat (48 + d)) = some d := by
  have : ∀ m : Fin 10, Lib.digitVal (UInt8.ofNat (48 + m.val)) = some m.val := by decide +kernel
  exact this ⟨d, h⟩

theorem decFrom_digits (u : Nat) : Lib.decFrom 0 (Lib.decDigits u) = some u := by
  induction u using Nat.strongRecOn with
  | _ u ih =>
    rw [Lib.decDigits]
    split
    · rename_i h
      simp only [Lib.decFrom, digitVal_of u h, Nat.zero_mul, Nat.zero_add]
    · rename_i h
      rw [decFrom_append, ih (u / 10) (by omega)]
      simp only [Option.bind_some, Lib.decFrom, digitVal_of (u % 10) (by omega)]
      congr 1
      omega

/-- What ReadDecimal answers. -/
def rdEnd (s : ByteArray) : Value :=
  match Lib.decFrom 0 s.data.toList with
  | some n => if s.size ≤ 10 ∧ n ≤ 1000000000 ∧ Lib.decDigits n = s.data.toList then .tuple #[.int .i64 n, .bool true] else .tuple #[.int .i64 0, .bool false]
  | none => .tuple #[.int .i64 0, .bool false]

theorem rd_yes {s : ByteArray} {n : Nat} (h : Lib.decFrom 0 s.data.toList = some n) (h0 : s.size ≤ 10) (h1 : n ≤ 1000000000) (h2 : Lib.decDigits n = s.data.toList) : Value.tuple #[.int .i64 n, .bool true] = rdEnd s := by
  simp [rdEnd, h, h0, h1, h2]
theorem rd_none {s : ByteArray} (h : Lib.decFrom 0 s.data.toList = none) : Value.tuple #[.int .i64 0, .bool false] = rdEnd s := by
  simp [rdEnd, h]
theorem rd_not {s : ByteArray} (h : ∀ n, s.size ≤ 10 → Lib.decFrom 0 s.data.toList = some n → n ≤ 1000000000 → Lib.decDigits n = s.data.toList → False) : Value.tuple #[.int .i64 0, .bool false] = rdEnd s := by
  unfold rdEnd
  split
  · rename_i n hn
    rw [if_neg (fun hc => h n hc.1 hn hc.2.1 hc.2.2)]
  · rfl
theorem rd_form (s : ByteArray) : ∃ n b, rdEnd s = .tuple #[.int .i64 n, .bool b] := by
  unfold rdEnd
  split
  · split
    · exact ⟨_, _, rfl⟩
    · exact ⟨_, _, rfl⟩
  · exact ⟨_, _, rfl⟩

theorem byte_get (s : ByteArray) (k : Nat) (h : k < s.size) : s.data.toList[k]? = some s[k] := by
  rw [List.getElem?_eq_getElem (by simpa using h)]; simp; rfl

theorem ret_val {a b : Value} (h : a = b) : Ending.returned a = .returned b := by rw [h]

theorem take_bound {l : List UInt8} {k n : Nat} (h : Lib.decFrom 0 (l.take k) = some n) (hk : k ≤ 10) : n < 10000000000 := by
  have h1 := Lib.decFrom_lt _ _ _ h
  have h2 : 10 ^ (l.take k).length ≤ 10 ^ 10 := Nat.pow_le_pow_right (by omega) (by have := List.length_take_le k l; omega)
  have h3 : (10 : Nat) ^ 10 = 10000000000 := by decide
  omega

theorem digit_some (c : UInt8) (h1 : 48 ≤ (c.toNat : Int)) (h2 : (c.toNat : Int) ≤ 57) : Lib.digitVal c = some (c.toNat - 48) := by
  unfold Lib.digitVal
  rw [if_pos (by omega)]

theorem nondigit {s : ByteArray} {k : Nat} (h : k < s.size) (hd : ¬ (48 ≤ (s[k].toNat : Int) ∧ (s[k].toNat : Int) ≤ 57)) : Lib.decFrom 0 s.data.toList = none := by
  cases hx : Lib.decFrom 0 s.data.toList with
  | none => rfl
  | some n =>
    obtain ⟨d, h1⟩ := Lib.digit_of_decFrom _ _ _ hx k s[k] (byte_get s k h)
    have := Lib.digitVal_eq h1
    omega

theorem rd_whole {s : ByteArray} {k acc : Nat} (hk : k ≤ s.size) (h : ¬ k < s.size) (hacc : Lib.decFrom 0 (s.data.toList.take k) = some acc) : Lib.decFrom 0 s.data.toList = some acc := by
  rw [List.take_of_length_le (by simp; omega)] at hacc
  exact hacc

theorem itoa_nat (n : Nat) : Lib.itoa (n : Int) = Lib.decDigits n := by
  unfold Lib.itoa
  rw [if_neg (by omega)]
  simp

theorem var_below {P : Program} {w w' : World} {n : String} {cs : Array Value} (h : w.var? P n = some cs) (hb : Below w.heap.size w w') : w'.var? P n = some cs := by
  unfold World.var? at *
  cases hg : P.globalNamed n with
  | none => simp [hg] at h
  | some g =>
    simp only [hg, Option.bind_some] at h ⊢
    have hlt : g < w.heap.size := by
      rcases Nat.lt_or_ge g w.heap.size with h' | h'
      · exact h'
      · rw [Array.getElem?_eq_none h'] at h; simp at h
    rw [hb.block g hlt]
    exact h

theorem atoi_digits {l : List UInt8} {n : Nat} (h : Lib.decFrom 0 l = some n) (h1 : l.length ≤ 10) (h2 : Lib.decDigits n = l) : Lib.atoiAll l = .ok (n : Int) := by
  rw [Lib.atoiAll_short l (by omega)]
  have hne : l ≠ [] := by
    intro he
    have := congrArg List.length h2
    rw [Lib.decDigits_length, he] at this
    have := Lib.nDigits_pos n
    simp at *
    omega
  obtain ⟨c, r, rfl⟩ := List.exists_cons_of_ne_nil hne
  obtain ⟨d, hd⟩ := Lib.digit_of_decFrom _ _ _ h 0 c rfl
  have hc := Lib.digitVal_eq hd
  have c1 : (c == 45) = false := by
    simp only [beq_eq_false_iff_ne, ne_eq]; rintro rfl; have : (45 : UInt8).toNat = 45 := rfl; omega
  have c2 : (c == 43) = false := by
    simp only [beq_eq_false_iff_ne, ne_eq]; rintro rfl; have : (43 : UInt8).toNat = 43 := rfl; omega
  simp [Lib.atoi, c1, c2, Lib.decNat, h, Lib.NumEnd.ofOption]

theorem nDigits_le : ∀ (k u : Nat), 1 ≤ k → u < 10 ^ k → Lib.nDigits u ≤ k
  | 0, _, h, _ => by omega
  | k + 1, u, _, h => by
    by_cases h10 : u < 10
    · rw [Lib.nDigits_small h10]; omega
    · rw [Lib.nDigits_big h10]
      have hk : 1 ≤ k := by
        rcases Nat.eq_zero_or_pos k with rfl | h'
        · simp at h; omega
        · exact h'
      have := nDigits_le k (u / 10) hk (by rw [Nat.pow_succ] at h; omega)
      omega

theorem rd_bad {s : ByteArray} (h : ∀ v : Int, Lib.atoiAll s.data.toList = .ok v → 0 ≤ v → v ≤ 1000000000 → Lib.itoa v = s.data.toList → False) : Value.tuple #[.int .i64 0, .bool false] = rdEnd s :=
  rd_not fun n h0 h1 h2 h3 => h n (atoi_digits h1 (by simpa using h0) h3) (by omega) (by omega) (by rw [itoa_nat]; exact h3)

theorem rd_good {s : ByteArray} {n : Nat} (h1 : n ≤ 1000000000) (h2 : Lib.decDigits n = s.data.toList) : Value.tuple #[.int .i64 n, .bool true] = rdEnd s := by
  have hl : s.data.toList.length ≤ 10 := by rw [← h2, Lib.decDigits_length]; exact nDigits_le 10 n (by omega) (by omega)
  exact rd_yes (by rw [← h2]; exact decFrom_digits n) (by simpa using hl) h1 h2

set_option maxRecDepth 100000 in
set_option maxHeartbeats 1600000 in
theorem program_rd (s : ByteArray) (w : World) (hs : s.size ≤ 1048576) (htab : Lib.TabIs Tryd.prog w "internal/strconv.uint64pow10" .u64 Lib.pow10Tab)
    (t0 t1 : TypeId) (p0 p1 : Value) (hv0 : w.var? Tryd.prog "strconv.ErrSyntax" = some #[.iface t0 p0]) (hv1 : w.var? Tryd.prog "strconv.ErrRange" = some #[.iface t1 p1]) :
    Calls Tryd.prog 10 #[.string s] w fun e w' => e = .returned (rdEnd s) ∧ Below w.heap.size w w' := by
  cases h : Lib.atoiAll s.data.toList
  · rename_i v
    have hvb := Lib.atoiAll_bounds h
    have c25 : ∀ w, Calls Tryd.prog 21 #[.string s] w fun e w' => e = .returned (.tuple #[.int .i64 v, .nilIface]) ∧ Below w.heap.size w w' := fun w =>
      (Any.strconv_Atoi_ok Tryd.laysC172 s (by omega) v h w).mono fun e w' ⟨he, hw⟩ => ⟨he, by
        rcases hw with rfl | ⟨t, rfl⟩
        · exact Below.refl _ _
        · exact Joins.below_bytesWorld _ _ _ _ (Nat.le_refl _)⟩
    have H := Lib.hid h
    clear h
    by_cases v0 : v < 0
    · go_enter Tryd.func10, Tryd.ntmps10
      go_wp2_with (go_at_call 21; refine (c25 _).mono ?_; rintro e w1 ⟨rfl, hb1⟩)
      go_ret2
      exact ⟨ret_val (rd_bad fun v' h1 h2 _ _ => by rw [H.out] at h1; cases h1; omega), hb1⟩
    · by_cases v1 : 1000000000 < v
      · go_enter Tryd.func10, Tryd.ntmps10
        go_wp2_with (go_at_call 21; refine (c25 _).mono ?_; rintro e w1 ⟨rfl, hb1⟩)
        go_ret2
        exact ⟨ret_val (rd_bad fun v' h1 _ h3 _ => by rw [H.out] at h1; cases h1; omega), hb1⟩
      · obtain ⟨n, rfl⟩ : ∃ n : Nat, v = (n : Int) := ⟨v.toNat, by omega⟩
        have c9 := fun w h => program_decimal (n : Int) (by omega) (by omega) w h
        rw [itoa_nat] at c9
        have hl : s.toList = s.data.toList := ByteArray.toList_eq s
        by_cases he : Lib.decDigits n = s.data.toList
        · have hq : (Lib.decDigits n == s.toList) = true := by rw [hl, he]; simp
          clear hl
          go_enter Tryd.func10, Tryd.ntmps10
          go_wp2_with (first
            | (go_at_call 21; refine (c25 _).mono ?_; rintro e w1 ⟨rfl, hb1⟩)
            | (go_at_call 7; refine (c9 _ (Lib.tabBelow_of_tabIs htab _ hb1)).mono ?_; rintro e w2 ⟨rfl, hb2⟩))
          go_ret2
          exact ⟨ret_val (rd_good (by omega) he), hb1.trans (hb2.mono hb1.size)⟩
        · have hq : (Lib.decDigits n == s.toList) = false := by rw [hl]; simpa using he
          clear hl
          go_enter Tryd.func10, Tryd.ntmps10
          go_wp2_with (first
            | (go_at_call 21; refine (c25 _).mono ?_; rintro e w1 ⟨rfl, hb1⟩)
            | (go_at_call 7; refine (c9 _ (Lib.tabBelow_of_tabIs htab _ hb1)).mono ?_; rintro e w2 ⟨rfl, hb2⟩))
          go_ret2
          exact ⟨ret_val (rd_bad fun v' h1 _ _ h4 => by rw [H.out] at h1; cases h1; rw [itoa_nat] at h4; exact he h4), hb1.trans (hb2.mono hb1.size)⟩
  · have c25 := fun w h0 => Any.strconv_Atoi_syntax_var Tryd.laysC172 s (by omega) h t0 p0 w h0
    have H := Lib.hid h
    clear h
    go_enter Tryd.func10, Tryd.ntmps10
    go_wp2_with (go_at_call 21; refine (c25 _ hv0).mono ?_; rintro e w1 ⟨N, rfl, -, -, hb1⟩)
    go_ret2
    exact ⟨ret_val (rd_bad fun v' h1 _ _ _ => by rw [H.out] at h1; cases h1), hb1⟩
  · have c25 := fun w h0 => Any.strconv_Atoi_range_var Tryd.laysC172 s (by omega) h t1 p1 w h0
    have H := Lib.hid h
    clear h
    go_enter Tryd.func10, Tryd.ntmps10
    go_wp2_with (go_at_call 21; refine (c25 _ hv1).mono ?_; rintro e w1 ⟨N, rfl, -, -, hb1⟩)
    go_ret2
    exact ⟨ret_val (rd_bad fun v' h1 _ _ _ => by rw [H.out] at h1; cases h1), hb1⟩

end Go.Proofs.YtnikehgmopcocaaDoor
