import Derived.Test.YtlkhgamhhblmgabSame
namespace Go.Proofs.Ytlkhgamhhblmgab
open Go.RowKit

theorem bits_or_i64 (a m : UInt8) : bits .or .i64 (a.toNat : Int) (m.toNat : Int) = ((a ||| m).toNat : Int) := by
  have ha := a.toNat_lt
  have hm := m.toNat_lt
  have h := (a ||| m).toNat_lt
  have e : ∀ n : Nat, n < 256 → (BitVec.ofInt 64 (n : Int)).toNat = n := fun n hn => by
    rw [BitVec.ofInt_natCast, BitVec.toNat_ofNat]; exact Nat.mod_eq_of_lt (by omega)
  show IntKind.i64.wrap ((BitVec.ofInt 64 (a.toNat : Int) ||| BitVec.ofInt 64 (m.toNat : Int)).toNat : Int) = _
  rw [BitVec.toNat_or, e _ (by omega), e _ (by omega), ← UInt8.toNat_or]
  exact IntWalk.i64_in _ (by omega)

set_option maxHeartbeats 400000 in
theorem spec_same (a b : ByteArray) (w : World) (ha : a.size ≤ 9223372036854775807) (_hb : b.size ≤ 9223372036854775807) :
    Calls Try.prog 4 #[.string a, .string b] w fun e w' => e = .returned (.bool (decide (a = b))) ∧ Below w.heap.size w w' := by
  by_cases hl : a.size = b.size
  · have hend := diffTo_end a b hl
    have q0 : (((a.size : Int)) != (b.size : Int)) = false := by simp [hl]
    have hl2 : b.size ≤ a.size := by omega
    have hl3 : a.size ≤ b.size := by omega
    clear hl
    have HE := Lib.hid hend
    clear hend
    have h0 : diffTo a b 0 = 0 := by unfold diffTo; rfl
    go_enter Try.func4, Try.ntmps4
    go_wp2_with (fail)
    go_loopw [5, 6] (fun d i wr => ∃ k n : Nat, k ≤ a.size ∧ i = .int .i64 k ∧ d = .int .i64 ((diffTo a b k).toNat : Int) ∧ wr = w.drewN n) (fun _ i _ => a.size - (intOf i).toNat)
    case atStart => exact ⟨0, 0, by omega, rfl, by rw [h0]; rfl, rfl⟩
    case round =>
      clear h0 q0
      obtain ⟨k, n, hk, rfl, rfl, rfl⟩ := hrel
      by_cases hlt : k < a.size
      · have hlt2 : k < b.size := by omega
        have q : (k : Int) < (a.size : Int) := by omega
        have e2 := bits_or_i64 (diffTo a b k) (a[k] ^^^ b[k])
        rw [← diffTo_succ a b k hlt hlt2] at e2
        have e1 := bits_xor_u8 a[k] b[k]
        have e3 : wrap64 ((a[k] ^^^ b[k]).toNat : Int) = ((a[k] ^^^ b[k]).toNat : Int) := by
          have := (a[k] ^^^ b[k]).toNat_lt
          exact IntWalk.wrap64_in _ ⟨by omega, by omega⟩
        have E1 := Lib.hid e1
        have E2 := Lib.hid e2
        have E3 := Lib.hid e3
        clear e1 e2 e3
        go_wp2_with (fail)
        go_quiet (fail)
        go_wp2_with (fail)
        go_roundw
        case rel => exact ⟨k + 1, _, by omega, by go_num, by rw [E1.out, E3.out, E2.out], rfl⟩
        case measure => simp [intOf]; omega
      · obtain rfl : k = a.size := by omega
        have q : ¬ ((a.size : Int) < (a.size : Int)) := by omega
        by_cases he : a = b
        · have h0 := HE.out.2 he
          have e2 := Lib.hid (decide_eq_true he)
          rw [h0]
          go_wp2_with (fail)
          go_ret
          exact ⟨by first | rfl | (rw [e2.out]; rfl) | (rw [e2.out]; simp), below_drewN' (Below.refl _ _) n⟩
        · have h0 : ¬ diffTo a b a.size = 0 := fun h => he (HE.out.1 h)
          have e2 := Lib.hid (decide_eq_false he)
          have e3 : ¬ (diffTo a b a.size).toNat = 0 := fun h => h0 (UInt8.toNat_inj.1 h)
          have e4 : (((diffTo a b a.size).toNat : Int) == 0) = false := by simpa using e3
          clear h0 he
          generalize (diffTo a b a.size).toNat = d at e3 e4 ⊢
          go_wp2_with (fail)
          go_ret
          exact ⟨by first | rfl | (rw [e2.out]; rfl) | (rw [e2.out]; simp), below_drewN' (Below.refl _ _) n⟩
  · have q0 : (((a.size : Int)) != (b.size : Int)) = true := by simp; omega
    have e2 : decide (a = b) = false := decide_eq_false (fun h => hl (by rw [h]))
    rw [e2]
    clear e2
    go_enter Try.func4, Try.ntmps4
    go_wp2_with (fail)
    go_ret
    exact ⟨rfl, Below.refl _ _⟩

theorem samebytes_law (s t : ByteArray) (w : World) (hm : s.size ≤ maxLen) (hm2 : t.size ≤ maxLen) :
    Calls Try.prog 3 #[.string s, .string t] w fun e w' => e = .returned (.bool true) ∧ Below w.heap.size w w' := by
  unfold maxLen at hm hm2
  by_cases h : s.size ≤ 1048576
  · have q : ¬ (1048576 < (s.size : Int)) := by omega
    by_cases h2 : t.size ≤ 1048576
    · have c1 := fun W => spec_same s t W (by omega) (by omega)
      have c2 := fun W => impl_same s t W (by omega) (by omega)
      generalize decide (s = t) = r at c1 c2
      have q2 : ¬ (1048576 < (t.size : Int)) := by omega
      cases r
      all_goals
        go_enter Try.func3, Try.ntmps3
        go_wp2_with (first
          | (go_at_call 4; refine (c1 _).mono ?_; rintro e w1 ⟨rfl, hb1⟩)
          | (go_at_call 5; refine (c2 _).mono ?_; rintro e w2 ⟨rfl, hb2⟩))
        go_ret
        exact ⟨rfl, hb1.trans (hb2.mono hb1.size)⟩
    · have q2 : (1048576 < (t.size : Int)) := by omega
      go_enter Try.func3, Try.ntmps3
      go_wp2_with (fail)
      go_ret
      exact ⟨rfl, Below.refl _ _⟩
  · have q : (1048576 < (s.size : Int)) := by omega
    go_enter Try.func3, Try.ntmps3
    go_wp2_with (fail)
    go_ret
    exact ⟨rfl, Below.refl _ _⟩
end Go.Proofs.Ytlkhgamhhblmgab
