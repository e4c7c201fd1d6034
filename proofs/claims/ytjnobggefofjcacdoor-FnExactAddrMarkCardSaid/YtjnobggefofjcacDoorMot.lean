import Derived.Test.YtjnobggefofjcacDoorMos
namespace Go.Proofs.YtjnobggefofjcacDoor
open Go.RowKit

theorem last_none (m : Int) : lastOf ⟨#[]⟩ m = ⟨#[]⟩ := by
  apply ByteArray.ext
  apply Array.size_eq_zero_iff.1
  show (lastOf ⟨#[]⟩ m).size = 0
  unfold lastOf
  rw [ByteArray.size_extract]
  show min 0 0 - _ = 0
  omega

set_option maxHeartbeats 800000 in
theorem spec_addr (k1 k2 : ByteArray) (x y z : Int) (w : World) :
    Calls Tryd.prog 13 #[.string k1, .string k2, .int .i64 x, .int .i64 y, .int .i64 z] w fun e w' => e = .returned (.string (lastOf (partsMark k1 k2 [numText x 1, numText y 4, numText z 2]) 8)) ∧ Below w.heap.size w w' := by
  have c1 := fun W => spec_keyok k1 W
  have c2 := fun W => spec_keyok k2 W
  have c3 := fun W => spec_numTextA x 1 W
  have c4 := fun W => spec_numTextA y 4 W
  have c5 := fun W => spec_numTextA z 2 W
  have z1 := numText_le x 1
  have z2 := numText_le y 4
  have z3 := numText_le z 2
  generalize numText x 1 = a at c3 z1 ⊢
  generalize numText y 4 = b at c4 z2 ⊢
  generalize numText z 2 = c at c5 z3 ⊢
  have ha := none_iff a
  have hb := none_iff b
  have hc := none_iff c
  by_cases h1 : k1.size = 8
  · rw [decide_eq_true h1] at c1
    by_cases h2 : k2.size = 8
    · rw [decide_eq_true h2] at c2
      by_cases h3 : a = ⟨#[]⟩
      · replace ha := ha.2 h3
        have hr : partsMark k1 k2 [a, b, c] = ⟨#[]⟩ := if_neg (fun h => h.2.2 ((place_three a b c).2 (.inl h3)))
        rw [hr, last_none]
        clear h1 h2 h3 hr hb hc z1 z2 z3
        go_enter Tryd.func13, Tryd.ntmps13
        go_wp2_with (fail)
        with_reducible refine (c1 _).mono ?_
        rintro e w1 ⟨rfl, rfl⟩
        go_wp2_with (fail)
        with_reducible refine (c2 _).mono ?_
        rintro e w1 ⟨rfl, rfl⟩
        go_wp2_with (fail)
        with_reducible refine (c3 _).mono ?_
        rintro e w3 ⟨rfl, hb3⟩
        go_wp2_with (fail)
        go_ret
        exact ⟨rfl, hb3⟩
      · replace ha := some_empty a h3
        by_cases h4 : b = ⟨#[]⟩
        · replace hb := hb.2 h4
          have hr : partsMark k1 k2 [a, b, c] = ⟨#[]⟩ := if_neg (fun h => h.2.2 ((place_three a b c).2 (.inr (.inl h4))))
          rw [hr, last_none]
          clear h1 h2 h3 h4 hr hc z1 z2 z3
          go_enter Tryd.func13, Tryd.ntmps13
          go_wp2_with (fail)
          with_reducible refine (c1 _).mono ?_
          rintro e w1 ⟨rfl, rfl⟩
          go_wp2_with (fail)
          with_reducible refine (c2 _).mono ?_
          rintro e w1 ⟨rfl, rfl⟩
          go_wp2_with (fail)
          with_reducible refine (c3 _).mono ?_
          rintro e w3 ⟨rfl, hb3⟩
          go_wp2_with (fail)
          with_reducible refine (c4 _).mono ?_
          rintro e w4 ⟨rfl, hb4⟩
          go_wp2_with (fail)
          go_ret
          exact ⟨rfl, Below.then_ hb3 hb4⟩
        · replace hb := some_empty b h4
          by_cases h5 : c = ⟨#[]⟩
          · replace hc := hc.2 h5
            have hr : partsMark k1 k2 [a, b, c] = ⟨#[]⟩ := if_neg (fun h => h.2.2 ((place_three a b c).2 (.inr (.inr h5))))
            rw [hr, last_none]
            clear h1 h2 h3 h4 h5 hr z1 z2 z3
            go_enter Tryd.func13, Tryd.ntmps13
            go_wp2_with (fail)
            with_reducible refine (c1 _).mono ?_
            rintro e w1 ⟨rfl, rfl⟩
            go_wp2_with (fail)
            with_reducible refine (c2 _).mono ?_
            rintro e w1 ⟨rfl, rfl⟩
            go_wp2_with (fail)
            with_reducible refine (c3 _).mono ?_
            rintro e w3 ⟨rfl, hb3⟩
            go_wp2_with (fail)
            with_reducible refine (c4 _).mono ?_
            rintro e w4 ⟨rfl, hb4⟩
            go_wp2_with (fail)
            with_reducible refine (c5 _).mono ?_
            rintro e w5 ⟨rfl, hb5⟩
            go_wp2_with (fail)
            go_ret
            exact ⟨rfl, Below.then_ (Below.then_ hb3 hb4) hb5⟩
          · replace hc := some_empty c h5
            have hr : partsMark k1 k2 [a, b, c] = hmacOf (k1 ++ k2) (a ++ b ++ c) := by rw [← joinOf_three a b c]; exact if_pos ⟨h1, h2, fun h => (not_or.2 ⟨h3, not_or.2 ⟨h4, h5⟩⟩) ((place_three a b c).1 h)⟩
            rw [hr]
            have c6 := fun W => spec_hmac (k1 ++ k2) (a ++ b ++ c) W (by rw [ByteArray.size_append]; omega) (by rw [ByteArray.size_append, ByteArray.size_append]; omega)
            have b1 : k1.size + k2.size ≤ 9223372036854775807 := by omega
            have b2 : a.size + b.size ≤ 9223372036854775807 := by omega
            have b3 : (a ++ b).size + c.size ≤ 9223372036854775807 := by rw [ByteArray.size_append]; omega
            have hz := hmacOf_size (k1 ++ k2) (a ++ b ++ c)
            generalize hmacOf (k1 ++ k2) (a ++ b ++ c) = r at c6 hz ⊢
            have hsl := slice_from r 24 (by omega) (by omega)
            rw [show (24 : Int).toNat = 24 from rfl, ← last_32 _ hz] at hsl
            generalize lastOf r 8 = q at hsl ⊢
            clear h1 h2 h3 h4 h5 hr z1 z2 z3 hz
            go_enter Tryd.func13, Tryd.ntmps13
            go_wp2_with (fail)
            with_reducible refine (c1 _).mono ?_
            rintro e w1 ⟨rfl, rfl⟩
            go_wp2_with (fail)
            with_reducible refine (c2 _).mono ?_
            rintro e w1 ⟨rfl, rfl⟩
            go_wp2_with (fail)
            with_reducible refine (c3 _).mono ?_
            rintro e w3 ⟨rfl, hb3⟩
            go_wp2_with (fail)
            with_reducible refine (c4 _).mono ?_
            rintro e w4 ⟨rfl, hb4⟩
            go_wp2_with (fail)
            with_reducible refine (c5 _).mono ?_
            rintro e w5 ⟨rfl, hb5⟩
            go_wp2_with (fail)
            with_reducible refine (c3 _).mono ?_
            rintro e w6 ⟨rfl, hb6⟩
            go_wp2_with (fail)
            with_reducible refine (c4 _).mono ?_
            rintro e w7 ⟨rfl, hb7⟩
            go_wp2_with (fail)
            with_reducible refine (c5 _).mono ?_
            rintro e w8 ⟨rfl, hb8⟩
            go_wp2_with (fail)
            with_reducible refine (c6 _).mono ?_
            rintro e w9 ⟨rfl, hb9⟩
            go_wp2_with (fail)
            go_ret
            exact ⟨rfl, Below.then_ (Below.then_ (Below.then_ (Below.then_ (Below.then_ (Below.then_ hb3 hb4) hb5) hb6) hb7) hb8) hb9⟩
    · rw [decide_eq_false h2] at c2
      have hr : partsMark k1 k2 [a, b, c] = ⟨#[]⟩ := if_neg (fun h => h2 h.2.1)
      rw [hr, last_none]
      clear h1 h2 hr ha hb hc z1 z2 z3
      go_enter Tryd.func13, Tryd.ntmps13
      go_wp2_with (fail)
      with_reducible refine (c1 _).mono ?_
      rintro e w1 ⟨rfl, rfl⟩
      go_wp2_with (fail)
      with_reducible refine (c2 _).mono ?_
      rintro e w1 ⟨rfl, rfl⟩
      go_wp2_with (fail)
      go_ret
      exact ⟨rfl, Below.refl _ _⟩
  · rw [decide_eq_false h1] at c1
    have hr : partsMark k1 k2 [a, b, c] = ⟨#[]⟩ := if_neg (fun h => h1 h.1)
    rw [hr, last_none]
    clear h1 hr ha hb hc z1 z2 z3
    go_enter Tryd.func13, Tryd.ntmps13
    go_wp2_with (fail)
    with_reducible refine (c1 _).mono ?_
    rintro e w1 ⟨rfl, rfl⟩
    go_wp2_with (fail)
    go_ret
    exact ⟨rfl, Below.refl _ _⟩

theorem spec_back (k1 k2 : ByteArray) (n m : Int) (w : World) :
    Calls Tryd.prog 9 #[.string k1, .string k2, .int .i64 n, .int .i64 m] w fun e w' => e = .returned (.string (firstOf (partsMark k1 k2 [numText n 4, numText m 4]) 8)) ∧ Below w.heap.size w w' := by
  have c1 := spec_join k1 k2 n m w
  have zp := partsMark_size k1 k2 [numText n 4, numText m 4]
  generalize partsMark k1 k2 [numText n 4, numText m 4] = r at c1 zp ⊢
  have c2 := fun W => spec_cut r 8 W zp (by omega) (by omega)
  generalize firstOf r 8 = q at c2 ⊢
  clear zp
  go_enter Tryd.func9, Tryd.ntmps9
  go_wp2_with (fail)
  with_reducible refine c1.mono ?_
  rintro e w1 ⟨rfl, hb1⟩
  go_wp2_with (fail)
  with_reducible refine (c2 _).mono ?_
  rintro e w2 ⟨rfl, rfl⟩
  go_wp2_with (fail)
  go_ret
  exact ⟨rfl, hb1⟩

theorem spec_done (k1 k2 : ByteArray) (n m : Int) (w : World) :
    Calls Tryd.prog 11 #[.string k1, .string k2, .int .i64 n, .int .i64 m] w fun e w' => e = .returned (.string (firstOf (partsMark k1 k2 [numText n 4, numText m 4]) 20)) ∧ Below w.heap.size w w' := by
  have c1 := spec_join k1 k2 n m w
  have zp := partsMark_size k1 k2 [numText n 4, numText m 4]
  generalize partsMark k1 k2 [numText n 4, numText m 4] = r at c1 zp ⊢
  have c2 := fun W => spec_cut r 20 W zp (by omega) (by omega)
  generalize firstOf r 20 = q at c2 ⊢
  clear zp
  go_enter Tryd.func11, Tryd.ntmps11
  go_wp2_with (fail)
  with_reducible refine c1.mono ?_
  rintro e w1 ⟨rfl, hb1⟩
  go_wp2_with (fail)
  with_reducible refine (c2 _).mono ?_
  rintro e w2 ⟨rfl, rfl⟩
  go_wp2_with (fail)
  go_ret
  exact ⟨rfl, hb1⟩
end Go.Proofs.YtjnobggefofjcacDoor
