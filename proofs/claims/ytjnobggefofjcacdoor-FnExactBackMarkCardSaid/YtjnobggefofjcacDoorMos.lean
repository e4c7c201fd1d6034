import Derived.Test.YtjnobggefofjcacDoorMop
namespace Go.Proofs.YtjnobggefofjcacDoor
open Go.RowKit

theorem first_none (m : Int) (_h : 0 ≤ m) : firstOf ⟨#[]⟩ m = ⟨#[]⟩ := by
  unfold firstOf
  rw [show (min m ((⟨#[]⟩ : ByteArray).size : Int)).toNat = 0 by show (min m 0).toNat = 0; omega]
  rfl

theorem spec_cut (t : ByteArray) (m : Int) (w : World) (ht : t.size = 32 ∨ t = ⟨#[]⟩) (h0 : 1 ≤ m) (h1 : m ≤ 32) :
    Calls Tryd.prog 20 #[.string t, .int .i64 m] w fun e w' => e = .returned (.string (firstOf t m)) ∧ w = w' := by
  rcases ht with ht | rfl
  · have q : ¬ (t.size : Int) < m := by omega
    have hsl := slice_cut' t m (by omega) (by omega)
    unfold firstOf
    rw [show min m (t.size : Int) = m by omega]
    generalize t.extract 0 m.toNat = r at hsl
    clear ht
    go_enter Tryd.func20, Tryd.ntmps20
    go_wp2_with (fail)
    go_ret
    exact ⟨rfl, rfl⟩
  · have q : (0 : Int) < m := by omega
    rw [first_none m (by omega)]
    go_enter Tryd.func20, Tryd.ntmps20
    go_wp2_with (fail)
    go_ret
    exact ⟨rfl, rfl⟩

/-- No bytes, as the walk spells it. -/
theorem none_iff (x : ByteArray) : x.toList = [] ↔ x = ⟨#[]⟩ := by
  rw [ByteArray.toList_eq]
  exact ⟨fun h => ByteArray.ext (Array.toList_inj.1 h), fun h => by rw [h]⟩
theorem some_empty (x : ByteArray) (h : ¬ x = ⟨#[]⟩) : x.toList.isEmpty = false := by
  rw [List.isEmpty_eq_false_iff]
  exact fun h2 => h ((none_iff x).1 h2)

theorem place_two (a b : ByteArray) : placeOf [a, b] ⟨#[]⟩ < 2 ↔ a = ⟨#[]⟩ ∨ b = ⟨#[]⟩ := by
  have := placeOf_mem [a, b] ⟨#[]⟩
  simp only [List.length_cons, List.length_nil, List.mem_cons, List.not_mem_nil, or_false] at this
  rw [this]
  exact ⟨fun h => h.imp Eq.symm Eq.symm, fun h => h.imp Eq.symm Eq.symm⟩

theorem place_three (a b c : ByteArray) : placeOf [a, b, c] ⟨#[]⟩ < 3 ↔ a = ⟨#[]⟩ ∨ b = ⟨#[]⟩ ∨ c = ⟨#[]⟩ := by
  have := placeOf_mem [a, b, c] ⟨#[]⟩
  simp only [List.length_cons, List.length_nil, List.mem_cons, List.not_mem_nil, or_false] at this
  rw [this]
  exact ⟨fun h => h.imp Eq.symm (fun h => h.imp Eq.symm Eq.symm), fun h => h.imp Eq.symm (fun h => h.imp Eq.symm Eq.symm)⟩

set_option maxHeartbeats 800000 in
theorem spec_join (k1 k2 : ByteArray) (n m : Int) (w : World) :
    Calls Tryd.prog 7 #[.string k1, .string k2, .int .i64 n, .int .i64 m] w fun e w' => e = .returned (.string (partsMark k1 k2 [numText n 4, numText m 4])) ∧ Below w.heap.size w w' := by
  have c1 := fun W => spec_keyok k1 W
  have c2 := fun W => spec_keyok k2 W
  have c3 := fun W => spec_numTextA n 4 W
  have c4 := fun W => spec_numTextA m 4 W
  have z1 := numText_le n 4
  have z2 := numText_le m 4
  generalize numText n 4 = a at c3 z1 ⊢
  generalize numText m 4 = b at c4 z2 ⊢
  have ha := none_iff a
  have hb := none_iff b
  by_cases h1 : k1.size = 8
  · rw [decide_eq_true h1] at c1
    by_cases h2 : k2.size = 8
    · rw [decide_eq_true h2] at c2
      by_cases h3 : a = ⟨#[]⟩
      · replace ha := ha.2 h3
        have hr : partsMark k1 k2 [a, b] = ⟨#[]⟩ := if_neg (fun h => h.2.2 ((place_two a b).2 (.inl h3)))
        rw [hr]
        clear h1 h2 h3 hr hb z1 z2
        go_enter Tryd.func7, Tryd.ntmps7
        go_wp2_with (fail)
        with_reducible refine (c1 _).mono ?_
        rintro e w1 ⟨rfl, rfl⟩
        go_wp2_with (fail)
        with_reducible refine (c2 _).mono ?_
        rintro e w1 ⟨rfl, rfl⟩
        go_wp2_with (fail)
        with_reducible refine (c3 _).mono ?_
        rintro e w3 ⟨rfl, hb3⟩
        go_wp2_with (fail)
        go_ret
        exact ⟨rfl, hb3⟩
      · replace ha := some_empty a h3
        by_cases h4 : b = ⟨#[]⟩
        · replace hb := hb.2 h4
          have hr : partsMark k1 k2 [a, b] = ⟨#[]⟩ := if_neg (fun h => h.2.2 ((place_two a b).2 (.inr h4)))
          rw [hr]
          clear h1 h2 h3 h4 hr z1 z2
          go_enter Tryd.func7, Tryd.ntmps7
          go_wp2_with (fail)
          with_reducible refine (c1 _).mono ?_
          rintro e w1 ⟨rfl, rfl⟩
          go_wp2_with (fail)
          with_reducible refine (c2 _).mono ?_
          rintro e w1 ⟨rfl, rfl⟩
          go_wp2_with (fail)
          with_reducible refine (c3 _).mono ?_
          rintro e w3 ⟨rfl, hb3⟩
          go_wp2_with (fail)
          with_reducible refine (c4 _).mono ?_
          rintro e w4 ⟨rfl, hb4⟩
          go_wp2_with (fail)
          go_ret
          exact ⟨rfl, Below.then_ hb3 hb4⟩
        · replace hb := some_empty b h4
          have hr : partsMark k1 k2 [a, b] = hmacOf (k1 ++ k2) (a ++ b) := by rw [← joinOf_two a b]; exact if_pos ⟨h1, h2, fun h => (not_or.2 ⟨h3, h4⟩) ((place_two a b).1 h)⟩
          rw [hr]
          have c5 := fun W => spec_hmac (k1 ++ k2) (a ++ b) W (by rw [ByteArray.size_append]; omega) (by rw [ByteArray.size_append]; omega)
          have b1 : k1.size + k2.size ≤ 9223372036854775807 := by omega
          have b2 : a.size + b.size ≤ 9223372036854775807 := by omega
          generalize hmacOf (k1 ++ k2) (a ++ b) = r at c5 ⊢
          clear h1 h2 h3 h4 hr z1 z2
          go_enter Tryd.func7, Tryd.ntmps7
          go_wp2_with (fail)
          with_reducible refine (c1 _).mono ?_
          rintro e w1 ⟨rfl, rfl⟩
          go_wp2_with (fail)
          with_reducible refine (c2 _).mono ?_
          rintro e w1 ⟨rfl, rfl⟩
          go_wp2_with (fail)
          with_reducible refine (c3 _).mono ?_
          rintro e w3 ⟨rfl, hb3⟩
          go_wp2_with (fail)
          with_reducible refine (c4 _).mono ?_
          rintro e w4 ⟨rfl, hb4⟩
          go_wp2_with (fail)
          with_reducible refine (c3 _).mono ?_
          rintro e w5 ⟨rfl, hb5⟩
          go_wp2_with (fail)
          with_reducible refine (c4 _).mono ?_
          rintro e w6 ⟨rfl, hb6⟩
          go_wp2_with (fail)
          with_reducible refine (c5 _).mono ?_
          rintro e w7 ⟨rfl, hb7⟩
          go_wp2_with (fail)
          go_ret
          exact ⟨rfl, Below.then_ (Below.then_ (Below.then_ (Below.then_ hb3 hb4) hb5) hb6) hb7⟩
    · rw [decide_eq_false h2] at c2
      have hr : partsMark k1 k2 [a, b] = ⟨#[]⟩ := if_neg (fun h => h2 h.2.1)
      rw [hr]
      clear h1 h2 hr ha hb z1 z2
      go_enter Tryd.func7, Tryd.ntmps7
      go_wp2_with (fail)
      with_reducible refine (c1 _).mono ?_
      rintro e w1 ⟨rfl, rfl⟩
      go_wp2_with (fail)
      with_reducible refine (c2 _).mono ?_
      rintro e w1 ⟨rfl, rfl⟩
      go_wp2_with (fail)
      go_ret
      exact ⟨rfl, Below.refl _ _⟩
  · rw [decide_eq_false h1] at c1
    have hr : partsMark k1 k2 [a, b] = ⟨#[]⟩ := if_neg (fun h => h1 h.1)
    rw [hr]
    clear h1 hr ha hb z1 z2
    go_enter Tryd.func7, Tryd.ntmps7
    go_wp2_with (fail)
    with_reducible refine (c1 _).mono ?_
    rintro e w1 ⟨rfl, rfl⟩
    go_wp2_with (fail)
    go_ret
    exact ⟨rfl, Below.refl _ _⟩
end Go.Proofs.YtjnobggefofjcacDoor
