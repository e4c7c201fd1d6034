import Derived.Test.YtlkhgamhhblmgabDoorHm
namespace Go.Proofs.YtlkhgamhhblmgabDoor
open Go.RowKit

theorem spec_in (x lo hi : Int) (w : World) :
    Calls Tryd.prog 6 #[.int .i64 x, .int .i64 lo, .int .i64 hi] w fun e w' => e = .returned (.bool (decide (lo ≤ x ∧ x ≤ hi))) ∧ w = w' := by
  by_cases h1 : lo ≤ x
  · by_cases h2 : x ≤ hi
    · go_enter Tryd.func6, Tryd.ntmps6
      go_wp2
      go_ret
      simp [h1, h2]
    · have h2' : hi < x := by omega
      go_enter Tryd.func6, Tryd.ntmps6
      go_wp2
      go_ret
      simp [h2]
  · have h1' : x < lo := by omega
    go_enter Tryd.func6, Tryd.ntmps6
    go_wp2
    go_ret
    simp
    omega

/-- What CutMark answers. -/
def cutMarkOf (k t : ByteArray) (x : Int) : ByteArray := if 1 ≤ x ∧ x ≤ 32 then (hmacOf k t).extract 0 x.toNat else ⟨#[]⟩

theorem slice_cut (t : ByteArray) (x : Int) (h1 : 0 ≤ x) (h2 : x ≤ (t.size : Int)) (W : World) :
    (Instr.slice 9 (.string t) none (some (.int .i64 x)) none).run Tryd.prog W = .ok (.string (t.extract 0 x.toNat)) W := by
  have h3 : ((t.size : Nat) : Int) ≤ (t.size : Int) := Int.le_refl _
  simp [Instr.slice, run_underlying Tryd.underlying9, Instr.sliceBounds, Instr.sliceBound, asIntOf, h1, h2]

theorem spec_cutmark (k t : ByteArray) (x : Int) (w : World) (hk : k.size ≤ 1048576) (ht : t.size ≤ 1100000) :
    Calls Tryd.prog 4 #[.string k, .string t, .int .i64 x] w fun e w' => e = .returned (.string (cutMarkOf k t x)) ∧ Below w.heap.size w w' := by
  have c1 := fun W => spec_hmac k t W hk ht
  have c2 := fun W => spec_in x 1 32 W
  by_cases h : 1 ≤ x ∧ x ≤ 32
  · have hd : decide (1 ≤ x ∧ x ≤ 32) = true := by simpa using h
    have hc : cutMarkOf k t x = (hmacOf k t).extract 0 x.toNat := by rw [cutMarkOf, if_pos h]
    have hsl := slice_cut (hmacOf k t) x (by omega) (by rw [hmacOf_size]; omega)
    rw [hc]
    rw [hd] at c2
    generalize (hmacOf k t).extract 0 x.toNat = r at hsl
    generalize hmacOf k t = m at c1 hsl
    go_enter Tryd.func4, Tryd.ntmps4
    go_wp2_with (first
      | (go_at_call 7; refine (c1 _).mono ?_; rintro e w1 ⟨rfl, hb1⟩)
      | (go_at_call 6; refine (c2 _).mono ?_; rintro e w2 ⟨rfl, rfl⟩))
    go_ret
    exact ⟨rfl, hb1⟩
  · have hd : decide (1 ≤ x ∧ x ≤ 32) = false := by simpa using h
    have hc : cutMarkOf k t x = ⟨#[]⟩ := by rw [cutMarkOf, if_neg h]
    rw [hc]
    rw [hd] at c2
    go_enter Tryd.func4, Tryd.ntmps4
    go_wp2_with (go_at_call 6; refine (c2 _).mono ?_; rintro e w2 ⟨rfl, rfl⟩)
    go_ret
    exact ⟨rfl, Below.refl _ _⟩

theorem impl_cutmark (k t : ByteArray) (x : Int) (w : World) (hks : k.size ≤ 1048576) (ht : t.size ≤ 1100000) (hk : Keys w) (hst : Starts w) :
    Calls Tryd.prog 5 #[.string k, .string t, .int .i64 x] w fun e w' => e = .returned (.string (cutMarkOf k t x)) ∧ Below w.heap.size w w' := by
  have c1 := impl_hmac k t w hks ht hk hst
  by_cases h : 1 ≤ x ∧ x ≤ 32
  · have hc : cutMarkOf k t x = (hmacOf k t).extract 0 x.toNat := by rw [cutMarkOf, if_pos h]
    have hsl := slice_cut (hmacOf k t) x (by omega) (by rw [hmacOf_size]; omega)
    rw [hc]
    generalize (hmacOf k t).extract 0 x.toNat = r at hsl
    generalize hmacOf k t = m at c1 hsl
    have q1 : ¬ x < 1 := by omega
    have q2 : ¬ 32 < x := by omega
    clear h
    go_enter Tryd.func5, Tryd.ntmps5
    go_wp2_with (go_at_call 8; refine c1.mono ?_; rintro e w1 ⟨rfl, hb1⟩)
    go_ret
    exact ⟨rfl, hb1⟩
  · have hc : cutMarkOf k t x = ⟨#[]⟩ := by rw [cutMarkOf, if_neg h]
    rw [hc]
    by_cases q1 : x < 1
    · clear h
      go_enter Tryd.func5, Tryd.ntmps5
      go_wp2_with (fail)
      go_ret
      exact ⟨rfl, Below.refl _ _⟩
    · have q2 : 32 < x := by omega
      clear h
      go_enter Tryd.func5, Tryd.ntmps5
      go_wp2_with (fail)
      go_ret
      exact ⟨rfl, Below.refl _ _⟩

theorem cutmark_law (s t : ByteArray) (x : Int) (w : World) (hk : Keys w) (hst : Starts w) (_hm : s.size ≤ maxLen) (_hm2 : t.size ≤ maxLen) (_b1 : -9223372036854775808 ≤ x) (_b2 : x ≤ 9223372036854775807) :
    Calls Tryd.prog 3 #[.string s, .string t, .int .i64 x] w fun e w' => e = .returned (.bool true) ∧ Below w.heap.size w w' := by
  by_cases h : s.size ≤ 1048576
  · have q : ¬ (1048576 < (s.size : Int)) := by omega
    by_cases h2 : t.size ≤ 1048576
    · have c1 := fun W => spec_cutmark s t x W h (by omega)
      have c2 := fun W a b => impl_cutmark s t x W h (by omega) a b
      generalize cutMarkOf s t x = r at c1 c2
      have q2 : ¬ (1048576 < (t.size : Int)) := by omega
      go_enter Tryd.func3, Tryd.ntmps3
      go_wp2_with (first
        | (go_at_call 4; refine (c1 _).mono ?_; rintro e w1 ⟨rfl, hb1⟩)
        | (go_at_call 5; refine (c2 _ (hk.below hb1) (hst.below hb1)).mono ?_; rintro e w2 ⟨rfl, hb2⟩))
      go_ret
      exact ⟨rfl, Below.then_ hb1 hb2⟩
    · have q2 : (1048576 < (t.size : Int)) := by omega
      go_enter Tryd.func3, Tryd.ntmps3
      go_wp2_with (fail)
      go_ret
      exact ⟨rfl, Below.refl _ _⟩
  · have q : (1048576 < (s.size : Int)) := by omega
    go_enter Tryd.func3, Tryd.ntmps3
    go_wp2_with (fail)
    go_ret
    exact ⟨rfl, Below.refl _ _⟩
end Go.Proofs.YtlkhgamhhblmgabDoor
