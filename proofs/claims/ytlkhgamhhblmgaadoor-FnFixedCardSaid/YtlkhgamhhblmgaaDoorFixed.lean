import Derived.Test.YtlkhgamhhblmgaaDoorFix
import Derived.Test.YtlkhgamhhblmgaaDoorLaws3
import Derived.Test.YtlkhgamhhblmgaaDoorBig
namespace Go.Proofs.YtlkhgamhhblmgaaDoor
open Go.RowKit

theorem impl_digestHex (s : ByteArray) (w : World) (hs : s.size ≤ 1048576) (hk : Keys w) (hst : Starts w) :
    Calls Tryd.prog 12 #[.string s] w fun e w' => e = .returned (.string (hexText (digestOf s))) ∧ Below w.heap.size w w' := by
  have c1 := impl_digest s w (by omega) hk hst
  have c2 := fun W => program_hex (digestOf s) W (by rw [digestOf_size]; omega)
  generalize hexText (digestOf s) = h at c2
  generalize digestOf s = t at c1 c2
  go_enter Tryd.func12, Tryd.ntmps12
  go_wp2_with (first
    | (go_at_call 19; refine c1.mono ?_; rintro e w1 ⟨rfl, hb1⟩)
    | (go_at_call 10; refine (c2 _).mono ?_; rintro e w2 ⟨rfl, hb2⟩))
  go_ret
  exact ⟨rfl, Below.then_ hb1 hb2⟩

theorem of_list {s : ByteArray} {l : List UInt8} (h : s.data.toList = l) : s = ⟨l.toArray⟩ := by
  subst h; rfl

set_option maxHeartbeats 1000000 in
theorem fixed_law (v : Value) (w : World) (hk : Keys w) (hst : Starts w) (n : Nat) (hr : RdB w v n) :
    Calls Tryd.prog 3 #[v] w fun e w' => e = .returned (.bool true) ∧ Below w.heap.size w w' := by
  have cb := big_call v n w hr
  by_cases hn : 1048576 < n
  · rw [decide_eq_true hn] at cb
    clear hn hr
    go_enter Tryd.func3, Tryd.ntmps3
    go_wp2_with (go_at_call 9; refine cb.mono ?_; rintro e w1 ⟨rfl, rfl⟩)
    go_ret
    exact ⟨rfl, Below.refl _ _⟩
  · rw [decide_eq_false hn] at cb
    clear hn hr
    have c1 := fun W a b => impl_hmac ⟨#[74, 101, 102, 101]⟩ ⟨#[119, 104, 97, 116, 32, 100, 111, 32, 121, 97, 32, 119, 97, 110, 116, 32, 102, 111, 114, 32, 110, 111, 116, 104, 105, 110, 103, 63]⟩ W (by decide) (by decide) a b
    have c2 := fun W => program_hex (hmacOf ⟨#[74, 101, 102, 101]⟩ ⟨#[119, 104, 97, 116, 32, 100, 111, 32, 121, 97, 32, 119, 97, 110, 116, 32, 102, 111, 114, 32, 110, 111, 116, 104, 105, 110, 103, 63]⟩) W (by rw [hmacOf_size]; omega)
    have c3 := fun W a b => impl_digestHex ⟨#[]⟩ W (by decide) a b
    have c4 := fun W a b => impl_digestHex ⟨#[97, 98, 99]⟩ W (by decide) a b
    have c5 := fun W a b => impl_ok ⟨#[74, 101, 102, 101]⟩ ⟨#[119, 104, 97, 116, 32, 100, 111, 32, 121, 97, 32, 119, 97, 110, 116, 32, 102, 111, 114, 32, 110, 111, 116, 104, 105, 110, 103, 63]⟩ (hmacOf ⟨#[74, 101, 102, 101]⟩ ⟨#[119, 104, 97, 116, 32, 100, 111, 32, 121, 97, 32, 119, 97, 110, 116, 32, 102, 111, 114, 32, 110, 111, 116, 104, 105, 110, 103, 63]⟩) W (by decide) (by decide) (by rw [hmacOf_size]; omega) a b
    rw [of_list fix2] at c2
    rw [of_list fix0] at c3
    rw [of_list fix1] at c4
    simp only [decide_true] at c5
    generalize hmacOf ⟨#[74, 101, 102, 101]⟩ ⟨#[119, 104, 97, 116, 32, 100, 111, 32, 121, 97, 32, 119, 97, 110, 116, 32, 102, 111, 114, 32, 110, 111, 116, 104, 105, 110, 103, 63]⟩ = m at c1 c2 c5
    go_enter Tryd.func3, Tryd.ntmps3
    go_wp2_with (go_at_call 9; refine cb.mono ?_; rintro e w1 ⟨rfl, rfl⟩)
    with_reducible refine (c1 _ hk hst).mono ?_
    rintro e w1 ⟨rfl, hb1⟩
    have k1 := hk.below hb1
    have s1 := hst.below hb1
    go_wp2_with (fail)
    with_reducible refine (c2 _).mono ?_
    rintro e w2 ⟨rfl, hb2⟩
    have k2 := k1.below hb2
    have s2 := s1.below hb2
    go_wp2_with (fail)
    with_reducible refine (c3 _ k2 s2).mono ?_
    rintro e w3 ⟨rfl, hb3⟩
    have k3 := k2.below hb3
    have s3 := s2.below hb3
    go_wp2_with (fail)
    with_reducible refine (c4 _ k3 s3).mono ?_
    rintro e w4 ⟨rfl, hb4⟩
    have k4 := k3.below hb4
    have s4 := s3.below hb4
    go_wp2_with (fail)
    with_reducible refine (c1 _ k4 s4).mono ?_
    rintro e w5 ⟨rfl, hb5⟩
    have k5 := k4.below hb5
    have s5 := s4.below hb5
    go_wp2_with (fail)
    with_reducible refine (c5 _ k5 s5).mono ?_
    rintro e w6 ⟨rfl, hb6⟩
    go_wp2_with (fail)
    go_ret
    exact ⟨rfl, Below.then_ (Below.then_ (Below.then_ (Below.then_ (Below.then_ hb1 hb2) hb3) hb4) hb5) hb6⟩
end Go.Proofs.YtlkhgamhhblmgaaDoor
