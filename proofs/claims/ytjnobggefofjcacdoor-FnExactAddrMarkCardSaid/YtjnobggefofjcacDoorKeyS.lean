import Derived.Test.YtjnobggefofjcacDoorMot
namespace Go.Proofs.YtjnobggefofjcacDoor
open Go.RowKit

theorem joinmark_law (k1 k2 : ByteArray) (n m : Int) (w : World) (hk : Keys w) (hst : Starts w) (_m1 : k1.size ≤ maxLen) (_m2 : k2.size ≤ maxLen) (_n1 : -9223372036854775808 ≤ n) (_n2 : n ≤ 9223372036854775807) (_n3 : -9223372036854775808 ≤ m) (_n4 : m ≤ 9223372036854775807) :
    Calls Tryd.prog 3 #[.string k1, .string k2, .int .i64 n, .int .i64 m] w fun e w' => e = .returned (.bool true) ∧ Below w.heap.size w w' := by
  by_cases g0 : k1.size ≤ 1048576
  · have q0 : ¬ (1048576 < (k1.size : Int)) := by omega
    by_cases g1 : k2.size ≤ 1048576
    · have q1 : ¬ (1048576 < (k2.size : Int)) := by omega
      have c1 := spec_join k1 k2 n m w
      have c2 := fun W a b => impl_join k1 k2 n m W a b
      generalize partsMark k1 k2 [numText n 4, numText m 4] = r at c1 c2
      go_enter Tryd.func3, Tryd.ntmps3
      go_wp2_with (fail)
      with_reducible refine c1.mono ?_
      rintro e w1 ⟨rfl, hb1⟩
      go_wp2_with (fail)
      with_reducible refine (c2 _ (hk.below hb1) (hst.below hb1)).mono ?_
      rintro e w2 ⟨rfl, hb2⟩
      go_wp2_with (fail)
      go_ret
      exact ⟨rfl, Below.then_ hb1 hb2⟩
    · have q1 : (1048576 < (k2.size : Int)) := by omega
      go_enter Tryd.func3, Tryd.ntmps3
      go_wp2_with (fail)
      go_ret
      exact ⟨rfl, Below.refl _ _⟩
  · have q0 : (1048576 < (k1.size : Int)) := by omega
    go_enter Tryd.func3, Tryd.ntmps3
    go_wp2_with (fail)
    go_ret
    exact ⟨rfl, Below.refl _ _⟩

theorem backmark_law (k1 k2 : ByteArray) (n m : Int) (w : World) (hk : Keys w) (hst : Starts w) (_m1 : k1.size ≤ maxLen) (_m2 : k2.size ≤ maxLen) (_n1 : -9223372036854775808 ≤ n) (_n2 : n ≤ 9223372036854775807) (_n3 : -9223372036854775808 ≤ m) (_n4 : m ≤ 9223372036854775807) :
    Calls Tryd.prog 4 #[.string k1, .string k2, .int .i64 n, .int .i64 m] w fun e w' => e = .returned (.bool true) ∧ Below w.heap.size w w' := by
  by_cases g0 : k1.size ≤ 1048576
  · have q0 : ¬ (1048576 < (k1.size : Int)) := by omega
    by_cases g1 : k2.size ≤ 1048576
    · have q1 : ¬ (1048576 < (k2.size : Int)) := by omega
      have c1 := spec_back k1 k2 n m w
      have c2 := fun W a b => impl_back k1 k2 n m W a b
      generalize firstOf (partsMark k1 k2 [numText n 4, numText m 4]) 8 = r at c1 c2
      go_enter Tryd.func4, Tryd.ntmps4
      go_wp2_with (fail)
      with_reducible refine c1.mono ?_
      rintro e w1 ⟨rfl, hb1⟩
      go_wp2_with (fail)
      with_reducible refine (c2 _ (hk.below hb1) (hst.below hb1)).mono ?_
      rintro e w2 ⟨rfl, hb2⟩
      go_wp2_with (fail)
      go_ret
      exact ⟨rfl, Below.then_ hb1 hb2⟩
    · have q1 : (1048576 < (k2.size : Int)) := by omega
      go_enter Tryd.func4, Tryd.ntmps4
      go_wp2_with (fail)
      go_ret
      exact ⟨rfl, Below.refl _ _⟩
  · have q0 : (1048576 < (k1.size : Int)) := by omega
    go_enter Tryd.func4, Tryd.ntmps4
    go_wp2_with (fail)
    go_ret
    exact ⟨rfl, Below.refl _ _⟩

theorem donemark_law (k1 k2 : ByteArray) (n m : Int) (w : World) (hk : Keys w) (hst : Starts w) (_m1 : k1.size ≤ maxLen) (_m2 : k2.size ≤ maxLen) (_n1 : -9223372036854775808 ≤ n) (_n2 : n ≤ 9223372036854775807) (_n3 : -9223372036854775808 ≤ m) (_n4 : m ≤ 9223372036854775807) :
    Calls Tryd.prog 5 #[.string k1, .string k2, .int .i64 n, .int .i64 m] w fun e w' => e = .returned (.bool true) ∧ Below w.heap.size w w' := by
  by_cases g0 : k1.size ≤ 1048576
  · have q0 : ¬ (1048576 < (k1.size : Int)) := by omega
    by_cases g1 : k2.size ≤ 1048576
    · have q1 : ¬ (1048576 < (k2.size : Int)) := by omega
      have c1 := spec_done k1 k2 n m w
      have c2 := fun W a b => impl_done k1 k2 n m W a b
      generalize firstOf (partsMark k1 k2 [numText n 4, numText m 4]) 20 = r at c1 c2
      go_enter Tryd.func5, Tryd.ntmps5
      go_wp2_with (fail)
      with_reducible refine c1.mono ?_
      rintro e w1 ⟨rfl, hb1⟩
      go_wp2_with (fail)
      with_reducible refine (c2 _ (hk.below hb1) (hst.below hb1)).mono ?_
      rintro e w2 ⟨rfl, hb2⟩
      go_wp2_with (fail)
      go_ret
      exact ⟨rfl, Below.then_ hb1 hb2⟩
    · have q1 : (1048576 < (k2.size : Int)) := by omega
      go_enter Tryd.func5, Tryd.ntmps5
      go_wp2_with (fail)
      go_ret
      exact ⟨rfl, Below.refl _ _⟩
  · have q0 : (1048576 < (k1.size : Int)) := by omega
    go_enter Tryd.func5, Tryd.ntmps5
    go_wp2_with (fail)
    go_ret
    exact ⟨rfl, Below.refl _ _⟩

theorem addrmark_law (k1 k2 : ByteArray) (x y z : Int) (w : World) (hk : Keys w) (hst : Starts w) (_m1 : k1.size ≤ maxLen) (_m2 : k2.size ≤ maxLen) (_n1 : -9223372036854775808 ≤ x) (_n2 : x ≤ 9223372036854775807) (_n3 : -9223372036854775808 ≤ y) (_n4 : y ≤ 9223372036854775807) (_n5 : -9223372036854775808 ≤ z) (_n6 : z ≤ 9223372036854775807) :
    Calls Tryd.prog 6 #[.string k1, .string k2, .int .i64 x, .int .i64 y, .int .i64 z] w fun e w' => e = .returned (.bool true) ∧ Below w.heap.size w w' := by
  by_cases g0 : k1.size ≤ 1048576
  · have q0 : ¬ (1048576 < (k1.size : Int)) := by omega
    by_cases g1 : k2.size ≤ 1048576
    · have q1 : ¬ (1048576 < (k2.size : Int)) := by omega
      have c1 := spec_addr k1 k2 x y z w
      have c2 := fun W a b => impl_addr k1 k2 x y z W a b
      generalize lastOf (partsMark k1 k2 [numText x 1, numText y 4, numText z 2]) 8 = r at c1 c2
      go_enter Tryd.func6, Tryd.ntmps6
      go_wp2_with (fail)
      with_reducible refine c1.mono ?_
      rintro e w1 ⟨rfl, hb1⟩
      go_wp2_with (fail)
      with_reducible refine (c2 _ (hk.below hb1) (hst.below hb1)).mono ?_
      rintro e w2 ⟨rfl, hb2⟩
      go_wp2_with (fail)
      go_ret
      exact ⟨rfl, Below.then_ hb1 hb2⟩
    · have q1 : (1048576 < (k2.size : Int)) := by omega
      go_enter Tryd.func6, Tryd.ntmps6
      go_wp2_with (fail)
      go_ret
      exact ⟨rfl, Below.refl _ _⟩
  · have q0 : (1048576 < (k1.size : Int)) := by omega
    go_enter Tryd.func6, Tryd.ntmps6
    go_wp2_with (fail)
    go_ret
    exact ⟨rfl, Below.refl _ _⟩
end Go.Proofs.YtjnobggefofjcacDoor
