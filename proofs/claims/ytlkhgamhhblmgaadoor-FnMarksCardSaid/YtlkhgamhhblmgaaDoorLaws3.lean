import Derived.Test.YtlkhgamhhblmgaaDoorHm
import Derived.Test.YtlkhgamhhblmgaaDoorSame
namespace Go.Proofs.YtlkhgamhhblmgaaDoor
open Go.RowKit

theorem hmackey_law (s : ByteArray) (w : World) (hk : Keys w) (hst : Starts w) (_hm : s.size ≤ maxLen) :
    Calls Tryd.prog 6 #[.string s] w fun e w' => e = .returned (.bool true) ∧ Below w.heap.size w w' := by
  by_cases h : s.size ≤ 1048576
  · have c1 := fun W => spec_key s W h
    have c2 := fun W a b => impl_key s W h a b
    generalize keyOf s = t at c1 c2
    have q : ¬ (1048576 < (s.size : Int)) := by omega
    go_enter Tryd.func6, Tryd.ntmps6
    go_wp2_with (first
      | (go_at_call 26; refine (c1 _).mono ?_; rintro e w1 ⟨rfl, hb1⟩)
      | (go_at_call 25; refine (c2 _ (hk.below hb1) (hst.below hb1)).mono ?_; rintro e w2 ⟨rfl, hb2⟩))
    go_ret
    exact ⟨rfl, Below.then_ hb1 hb2⟩
  · have q : (1048576 < (s.size : Int)) := by omega
    go_enter Tryd.func6, Tryd.ntmps6
    go_wp2_with (fail)
    go_ret
    exact ⟨rfl, Below.refl _ _⟩

theorem hmac_law (s t : ByteArray) (w : World) (hk : Keys w) (hst : Starts w) (_hm : s.size ≤ maxLen) (_hm2 : t.size ≤ maxLen) :
    Calls Tryd.prog 7 #[.string s, .string t] w fun e w' => e = .returned (.bool true) ∧ Below w.heap.size w w' := by
  by_cases h : s.size ≤ 1048576
  · have q : ¬ (1048576 < (s.size : Int)) := by omega
    by_cases h2 : t.size ≤ 1048576
    · have c1 := fun W => spec_hmac s t W h (by omega)
      have c2 := fun W a b => impl_hmac s t W h (by omega) a b
      generalize hmacOf s t = r at c1 c2
      have q2 : ¬ (1048576 < (t.size : Int)) := by omega
      go_enter Tryd.func7, Tryd.ntmps7
      go_wp2_with (first
        | (go_at_call 24; refine (c1 _).mono ?_; rintro e w1 ⟨rfl, hb1⟩)
        | (go_at_call 11; refine (c2 _ (hk.below hb1) (hst.below hb1)).mono ?_; rintro e w2 ⟨rfl, hb2⟩))
      go_ret
      exact ⟨rfl, Below.then_ hb1 hb2⟩
    · have q2 : (1048576 < (t.size : Int)) := by omega
      go_enter Tryd.func7, Tryd.ntmps7
      go_wp2_with (fail)
      go_ret
      exact ⟨rfl, Below.refl _ _⟩
  · have q : (1048576 < (s.size : Int)) := by omega
    go_enter Tryd.func7, Tryd.ntmps7
    go_wp2_with (fail)
    go_ret
    exact ⟨rfl, Below.refl _ _⟩

theorem spec_ok (k t m : ByteArray) (w : World) (hk : k.size ≤ 1048576) (ht : t.size ≤ 1100000) :
    Calls Tryd.prog 27 #[.string k, .string t, .string m] w fun e w' => e = .returned (.bool (decide (hmacOf k t = m))) ∧ Below w.heap.size w w' := by
  have c1 := fun W => spec_hmac k t W hk ht
  generalize hmacOf k t = r at c1
  by_cases he : r = m
  · have he2 : (r.toList == m.toList) = true := by rw [he]; simp
    have e3 := Lib.hid (decide_eq_true he)
    clear he
    go_enter Tryd.func27, Tryd.ntmps27
    go_wp2_with (go_at_call 24; refine (c1 _).mono ?_; rintro e w1 ⟨rfl, hb1⟩)
    go_ret
    exact ⟨by rw [e3.out]; rfl, hb1⟩
  · have he2 : (r.toList == m.toList) = false := by
      simp only [beq_eq_false_iff_ne, ne_eq]
      intro h
      rw [ByteArray.toList_eq, ByteArray.toList_eq] at h
      exact he (ByteArray.ext (Array.toList_inj.1 h))
    have e3 := Lib.hid (decide_eq_false he)
    clear he
    go_enter Tryd.func27, Tryd.ntmps27
    go_wp2_with (go_at_call 24; refine (c1 _).mono ?_; rintro e w1 ⟨rfl, hb1⟩)
    go_ret
    exact ⟨by rw [e3.out]; rfl, hb1⟩

theorem impl_ok (k t m : ByteArray) (w : World) (hks : k.size ≤ 1048576) (ht : t.size ≤ 1100000) (hm : m.size ≤ 9223372036854775807) (hk : Keys w) (hst : Starts w) :
    Calls Tryd.prog 13 #[.string k, .string t, .string m] w fun e w' => e = .returned (.bool (decide (hmacOf k t = m))) ∧ Below w.heap.size w w' := by
  have c1 := impl_hmac k t w hks ht hk hst
  have c2 := fun W => impl_same (hmacOf k t) m W (by rw [hmacOf_size]; omega) hm
  generalize hmacOf k t = r at c1 c2
  generalize decide (r = m) = b at c2
  go_enter Tryd.func13, Tryd.ntmps13
  go_wp2_with (fail)
  with_reducible refine c1.mono ?_
  rintro e w1 ⟨rfl, hb1⟩
  go_wp2_with (fail)
  with_reducible refine (c2 _).mono ?_
  rintro e w2 ⟨rfl, hb2⟩
  go_wp2_with (fail)
  go_ret
  exact ⟨rfl, Below.then_ hb1 hb2⟩

theorem hmacok_law (s t m : ByteArray) (w : World) (hk : Keys w) (hst : Starts w) (_hm : s.size ≤ maxLen) (_hm2 : t.size ≤ maxLen) (hm3 : m.size ≤ maxLen) :
    Calls Tryd.prog 8 #[.string s, .string t, .string m] w fun e w' => e = .returned (.bool true) ∧ Below w.heap.size w w' := by
  unfold maxLen at hm3
  by_cases h : s.size ≤ 1048576
  · have q : ¬ (1048576 < (s.size : Int)) := by omega
    by_cases h2 : t.size ≤ 1048576
    · have q2 : ¬ (1048576 < (t.size : Int)) := by omega
      by_cases h3 : m.size ≤ 1048576
      · have q3 : ¬ (1048576 < (m.size : Int)) := by omega
        have c1 := fun W => spec_ok s t m W h (by omega)
        have c2 := fun W a b => impl_ok s t m W h (by omega) (by omega) a b
        generalize decide (hmacOf s t = m) = r at c1 c2
        cases r
        all_goals
          go_enter Tryd.func8, Tryd.ntmps8
          go_wp2_with (first
            | (go_at_call 27; refine (c1 _).mono ?_; rintro e w1 ⟨rfl, hb1⟩)
            | (go_at_call 13; refine (c2 _ (hk.below hb1) (hst.below hb1)).mono ?_; rintro e w2 ⟨rfl, hb2⟩))
          go_ret
          exact ⟨rfl, Below.then_ hb1 hb2⟩
      · have q3 : (1048576 < (m.size : Int)) := by omega
        go_enter Tryd.func8, Tryd.ntmps8
        go_wp2_with (fail)
        go_ret
        exact ⟨rfl, Below.refl _ _⟩
    · have q2 : (1048576 < (t.size : Int)) := by omega
      go_enter Tryd.func8, Tryd.ntmps8
      go_wp2_with (fail)
      go_ret
      exact ⟨rfl, Below.refl _ _⟩
  · have q : (1048576 < (s.size : Int)) := by omega
    go_enter Tryd.func8, Tryd.ntmps8
    go_wp2_with (fail)
    go_ret
    exact ⟨rfl, Below.refl _ _⟩
end Go.Proofs.YtlkhgamhhblmgaaDoor
