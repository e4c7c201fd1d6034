import Derived.Test.YtjnobggefofjcacDoorInr
import Derived.Test.YtjnobggefofjcacDoorTok
import Derived.Test.YtjnobggefofjcacDoorNumI
import Derived.Test.YtjnobggefofjcacDoorNumS
namespace Go.Proofs.YtjnobggefofjcacDoor
open Go.RowKit

/-- What a mark over some parts is. -/
def partsMark (k1 k2 : ByteArray) (xs : List ByteArray) : ByteArray :=
  if k1.size = 8 ∧ k2.size = 8 ∧ ¬ placeOf xs ⟨#[]⟩ < xs.length then hmacOf (k1 ++ k2) (joinOf xs) else ⟨#[]⟩

theorem impl_parts (k1 k2 : ByteArray) (v : Value) (xs : List ByteArray) (w : World) (hv : VRd w v (strCs xs)) (hcap : ∃ a c, v = .slice a xs.length c ∧ xs.length ≤ c) (hn : xs.length ≤ 1048576) (h0 : 0 < xs.length) (hlen : (joinOf xs).size ≤ 1048576) (hk : Keys w) (hst : Starts w) :
    Calls Tryd.prog 18 #[.string k1, .string k2, v] w fun e w' => e = .returned (.string (partsMark k1 k2 xs)) ∧ Below w.heap.size w w' := by
  have c1 := fun W => impl_keyok k1 W
  have c2 := fun W => impl_keyok k2 W
  have c3 := impl_inarow v xs w hv hcap hn hlen
  unfold partsMark
  by_cases h1 : k1.size = 8
  · rw [decide_eq_true h1] at c1
    by_cases h2 : k2.size = 8
    · rw [decide_eq_true h2] at c2
      unfold rowOf at c3
      by_cases h3 : placeOf xs ⟨#[]⟩ < xs.length
      · rw [if_pos h3] at c3
        rw [if_neg (fun h => h.2.2 h3)]
        clear h1 h2 h3
        go_enter Tryd.func18, Tryd.ntmps18
        go_wp2_with (fail)
        with_reducible refine (c1 _).mono ?_
        rintro e w1 ⟨rfl, rfl⟩
        go_wp2_with (fail)
        with_reducible refine (c2 _).mono ?_
        rintro e w1 ⟨rfl, rfl⟩
        go_wp2_with (fail)
        with_reducible refine c3.mono ?_
        rintro e w1 ⟨rfl, hb⟩
        go_wp2_with (fail)
        go_ret
        exact ⟨rfl, hb⟩
      · rw [if_neg h3] at c3
        rw [if_pos ⟨h1, h2, h3⟩]
        have hbs : k1.size + k2.size ≤ 9223372036854775807 := by omega
        have c5 := fun W a b => impl_hmac (k1 ++ k2) (joinOf xs) W (by rw [ByteArray.size_append]; omega) (by omega) a b
        have hne := joinOf_some xs h3 h0
        generalize hmacOf (k1 ++ k2) (joinOf xs) = r at c5 ⊢
        generalize joinOf xs = t at c3 c5 hne
        have hne2 : ¬ t.toList = [] := fun e => by rw [e] at hne; cases hne
        clear h1 h2 h3 hlen
        go_enter Tryd.func18, Tryd.ntmps18
        go_wp2_with (fail)
        with_reducible refine (c1 _).mono ?_
        rintro e w1 ⟨rfl, rfl⟩
        go_wp2_with (fail)
        with_reducible refine (c2 _).mono ?_
        rintro e w1 ⟨rfl, rfl⟩
        go_wp2_with (fail)
        with_reducible refine c3.mono ?_
        rintro e w2 ⟨rfl, hb2⟩
        go_wp2_with (fail)
        with_reducible refine (c5 _ (hk.below hb2) (hst.below hb2)).mono ?_
        rintro e w3 ⟨rfl, hb3⟩
        go_wp2_with (fail)
        go_ret
        exact ⟨rfl, Below.then_ hb2 hb3⟩
    · rw [decide_eq_false h2] at c2
      rw [if_neg (fun h => h2 h.2.1)]
      clear h1 h2
      go_enter Tryd.func18, Tryd.ntmps18
      go_wp2_with (fail)
      with_reducible refine (c1 _).mono ?_
      rintro e w1 ⟨rfl, rfl⟩
      go_wp2_with (fail)
      with_reducible refine (c2 _).mono ?_
      rintro e w1 ⟨rfl, rfl⟩
      go_wp2_with (fail)
      go_ret
      exact ⟨rfl, Below.refl _ _⟩
  · rw [decide_eq_false h1] at c1
    rw [if_neg (fun h => h1 h.1)]
    clear h1
    go_enter Tryd.func18, Tryd.ntmps18
    go_wp2_with (fail)
    with_reducible refine (c1 _).mono ?_
    rintro e w1 ⟨rfl, rfl⟩
    go_wp2_with (fail)
    go_ret
    exact ⟨rfl, Below.refl _ _⟩


theorem partsMark_size (k1 k2 : ByteArray) (xs : List ByteArray) : (partsMark k1 k2 xs).size = 32 ∨ partsMark k1 k2 xs = ⟨#[]⟩ := by
  unfold partsMark
  split
  · exact .inl (hmacOf_size _ _)
  · exact .inr rfl

theorem partsMark_le (k1 k2 : ByteArray) (xs : List ByteArray) : (partsMark k1 k2 xs).size ≤ 32 := by
  rcases partsMark_size k1 k2 xs with h | h
  · omega
  · rw [h]; show 0 ≤ 32; omega

theorem slice_cut' (t : ByteArray) (x : Int) (h1 : 0 ≤ x) (h2 : x ≤ (t.size : Int)) (W : World) :
    (Instr.slice 9 (.string t) none (some (.int .i64 x)) none).run Tryd.prog W = .ok (.string (t.extract 0 x.toNat)) W := by
  have h3 : ((t.size : Nat) : Int) ≤ (t.size : Int) := Int.le_refl _
  simp [Instr.slice, run_underlying Tryd.underlying9, Instr.sliceBounds, Instr.sliceBound, asIntOf, h1, h2]

theorem numText_le (n m : Int) : (numText n m).size ≤ 6 := by
  unfold numText
  split
  · rename_i h
    show (numBytes _ _).toArray.size ≤ 6
    rw [List.size_toArray, numBytes_length]
    omega
  · show 0 ≤ 6
    omega

theorem rd_new (w : World) (xs : List Value) : VRd (w.alloc (.cells xs.toArray 9)) (.slice (some ⟨w.heap.size, 0, none⟩) xs.length xs.length) xs := by
  refine ⟨_, _, rfl, fun _ => ⟨w.heap.size, 0, rfl, fun j hj => ?_⟩⟩
  rw [(Cel.new w 9 xs.toArray).cell (0 + j)]
  simp [hj]

theorem joinOf_two (a b : ByteArray) : joinOf [a, b] = a ++ b := by
  apply ByteArray.ext
  apply Array.toList_inj.1
  simp [joinOf]

theorem joinOf_three (a b c : ByteArray) : joinOf [a, b, c] = a ++ b ++ c := by
  apply ByteArray.ext
  apply Array.toList_inj.1
  simp [joinOf]

set_option maxHeartbeats 400000 in
theorem impl_join (k1 k2 : ByteArray) (n m : Int) (w : World) (hk : Keys w) (hst : Starts w) :
    Calls Tryd.prog 8 #[.string k1, .string k2, .int .i64 n, .int .i64 m] w fun e w' => e = .returned (.string (partsMark k1 k2 [numText n 4, numText m 4])) ∧ Below w.heap.size w w' := by
  have c1 := fun W => impl_numText n 4 W
  have c2 := fun W => impl_numText m 4 W
  have z1 := numText_le n 4
  have z2 := numText_le m 4
  generalize numText n 4 = a at c1 z1 ⊢
  generalize numText m 4 = b at c2 z2 ⊢
  have c3 := fun (W : World) => impl_parts k1 k2 _ [a, b] _ (rd_new W [.string a, .string b]) ⟨_, _, rfl, Nat.le_refl _⟩ (by simp) (by simp) (by rw [joinOf_two, ByteArray.size_append]; omega)
  generalize partsMark k1 k2 [a, b] = r at c3 ⊢
  have hS := Lib.hid (And.intro hk hst)
  clear hk hst z1 z2
  go_enter Tryd.func8, Tryd.ntmps8
  go_wp2_with (fail)
  with_reducible refine (c1 _).mono ?_
  rintro e w1 ⟨rfl, hb1⟩
  go_wp2_with (fail)
  with_reducible refine (c2 _).mono ?_
  rintro e w2 ⟨rfl, hb2⟩
  go_wp2_with (fail)
  have hB := Below.then_ (Below.then_ hb1 hb2) (below_new w2 (.cells #[.string a, .string b] 9))
  have HB := Lib.hid hB
  refine (c3 w2 (hS.out.1.below hB) (hS.out.2.below hB)).mono ?_
  clear hB
  rintro e w3 ⟨rfl, hb3⟩
  go_wp2_with (fail)
  go_ret
  exact ⟨rfl, Below.then_ HB.out hb3⟩

set_option maxHeartbeats 400000 in
theorem impl_addr (k1 k2 : ByteArray) (x y z : Int) (w : World) (hk : Keys w) (hst : Starts w) :
    Calls Tryd.prog 14 #[.string k1, .string k2, .int .i64 x, .int .i64 y, .int .i64 z] w fun e w' => e = .returned (.string (lastOf (partsMark k1 k2 [numText x 1, numText y 4, numText z 2]) 8)) ∧ Below w.heap.size w w' := by
  have c1 := fun W => impl_numText x 1 W
  have c2 := fun W => impl_numText y 4 W
  have c4 := fun W => impl_numText z 2 W
  have z1 := numText_le x 1
  have z2 := numText_le y 4
  have z4 := numText_le z 2
  generalize numText x 1 = a at c1 z1 ⊢
  generalize numText y 4 = b at c2 z2 ⊢
  generalize numText z 2 = c at c4 z4 ⊢
  have c3 := fun (W : World) => impl_parts k1 k2 _ [a, b, c] _ (rd_new W [.string a, .string b, .string c]) ⟨_, _, rfl, Nat.le_refl _⟩ (by simp) (by simp) (by rw [joinOf_three, ByteArray.size_append, ByteArray.size_append]; omega)
  have zp := partsMark_le k1 k2 [a, b, c]
  generalize partsMark k1 k2 [a, b, c] = r at c3 zp ⊢
  have c5 := fun W => impl_last r 8 W (by omega) (by omega) (by omega)
  generalize lastOf r 8 = q at c5 ⊢
  have hS := Lib.hid (And.intro hk hst)
  clear hk hst z1 z2 z4 zp
  go_enter Tryd.func14, Tryd.ntmps14
  go_wp2_with (fail)
  with_reducible refine (c1 _).mono ?_
  rintro e w1 ⟨rfl, hb1⟩
  go_wp2_with (fail)
  with_reducible refine (c2 _).mono ?_
  rintro e w2 ⟨rfl, hb2⟩
  go_wp2_with (fail)
  with_reducible refine (c4 _).mono ?_
  rintro e w4 ⟨rfl, hb4⟩
  go_wp2_with (fail)
  have hB := Below.then_ (Below.then_ (Below.then_ hb1 hb2) hb4) (below_new w4 (.cells #[.string a, .string b, .string c] 9))
  have HB := Lib.hid hB
  refine (c3 w4 (hS.out.1.below hB) (hS.out.2.below hB)).mono ?_
  clear hB
  rintro e w3 ⟨rfl, hb3⟩
  go_wp2_with (fail)
  with_reducible refine (c5 _).mono ?_
  rintro e w5 ⟨rfl, rfl⟩
  go_wp2_with (fail)
  go_ret
  exact ⟨rfl, Below.then_ HB.out hb3⟩

theorem impl_first (t : ByteArray) (m : Int) (w : World) (hs : t.size ≤ 1048576) (h0 : 0 ≤ m) :
    Calls Tryd.prog 21 #[.string t, .int .i64 m] w fun e w' => e = .returned (.string (firstOf t m)) ∧ w = w' := by
  have hsl := slice_cut' t (min m (t.size : Int)) (by omega) (by omega)
  unfold firstOf
  generalize t.extract 0 (min m (t.size : Int)).toNat = r at hsl
  go_enter Tryd.func21, Tryd.ntmps21
  go_wp2_with (fail)
  go_ret
  exact ⟨rfl, rfl⟩

theorem impl_back (k1 k2 : ByteArray) (n m : Int) (w : World) (hk : Keys w) (hst : Starts w) :
    Calls Tryd.prog 10 #[.string k1, .string k2, .int .i64 n, .int .i64 m] w fun e w' => e = .returned (.string (firstOf (partsMark k1 k2 [numText n 4, numText m 4]) 8)) ∧ Below w.heap.size w w' := by
  have c1 := impl_join k1 k2 n m w hk hst
  have zp := partsMark_le k1 k2 [numText n 4, numText m 4]
  generalize partsMark k1 k2 [numText n 4, numText m 4] = r at c1 zp ⊢
  have c2 := fun W => impl_first r 8 W (by omega) (by omega)
  generalize firstOf r 8 = q at c2 ⊢
  clear zp
  go_enter Tryd.func10, Tryd.ntmps10
  go_wp2_with (fail)
  with_reducible refine c1.mono ?_
  rintro e w1 ⟨rfl, hb1⟩
  go_wp2_with (fail)
  with_reducible refine (c2 _).mono ?_
  rintro e w2 ⟨rfl, rfl⟩
  go_wp2_with (fail)
  go_ret
  exact ⟨rfl, hb1⟩

theorem impl_done (k1 k2 : ByteArray) (n m : Int) (w : World) (hk : Keys w) (hst : Starts w) :
    Calls Tryd.prog 12 #[.string k1, .string k2, .int .i64 n, .int .i64 m] w fun e w' => e = .returned (.string (firstOf (partsMark k1 k2 [numText n 4, numText m 4]) 20)) ∧ Below w.heap.size w w' := by
  have c1 := impl_join k1 k2 n m w hk hst
  have zp := partsMark_le k1 k2 [numText n 4, numText m 4]
  generalize partsMark k1 k2 [numText n 4, numText m 4] = r at c1 zp ⊢
  have c2 := fun W => impl_first r 20 W (by omega) (by omega)
  generalize firstOf r 20 = q at c2 ⊢
  clear zp
  go_enter Tryd.func12, Tryd.ntmps12
  go_wp2_with (fail)
  with_reducible refine c1.mono ?_
  rintro e w1 ⟨rfl, hb1⟩
  go_wp2_with (fail)
  with_reducible refine (c2 _).mono ?_
  rintro e w2 ⟨rfl, rfl⟩
  go_wp2_with (fail)
  go_ret
  exact ⟨rfl, hb1⟩
end Go.Proofs.YtjnobggefofjcacDoor
