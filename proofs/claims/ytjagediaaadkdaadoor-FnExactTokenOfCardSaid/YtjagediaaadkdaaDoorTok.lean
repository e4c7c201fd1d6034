import Derived.Test.YtjagediaaadkdaaDoorKey
import Derived.Test.YtjagediaaadkdaaDoorHm
import Derived.Test.YtjagediaaadkdaaDoorNatI
import Derived.Test.YtjagediaaadkdaaDoorNatS
namespace Go.Proofs.YtjagediaaadkdaaDoor
open Go.RowKit

/-- A cut from some byte on. -/
theorem slice_from (t : ByteArray) (a : Int) (h0 : 0 ≤ a) (h1 : a ≤ (t.size : Int)) (W : World) :
    (Instr.slice 9 (.string t) (some (.int .i64 a)) none none).run Tryd.prog W = .ok (.string (t.extract a.toNat t.size)) W := by
  have h3 : ((t.size : Nat) : Int) ≤ (t.size : Int) := Int.le_refl _
  simp [Instr.slice, run_underlying Tryd.underlying9, Instr.sliceBounds, Instr.sliceBound, asIntOf, h0, h1]

theorem tok_part (d : ByteArray) (h : d.size = 32) : Part d 0 4 := ⟨by omega, by omega, by omega⟩

theorem spec_token (s : ByteArray) (w : World) :
    Calls Tryd.prog 9 #[.string s] w fun e w' => e = .returned (.int .i64 (if s.size = 8 then (natAt (digestOf s) 0 4 : Int) else 0)) ∧ Below w.heap.size w w' := by
  have c1 := fun W => spec_keyok s W
  by_cases h : s.size = 8
  · rw [if_pos h]
    rw [decide_eq_true h] at c1
    have c2 := fun W => spec_digest s W (by omega)
    have hz := digestOf_size s
    have c3 := fun W => spec_num_yes (digestOf s) 0 4 W (by omega) (by omega) (by omega) (tok_part _ hz)
    generalize natAt (digestOf s) 0 4 = n at c3 ⊢
    clear hz
    generalize digestOf s = d at c2 c3
    go_enter Tryd.func9, Tryd.ntmps9
    go_wp2_with (fail)
    with_reducible refine (c1 _).mono ?_
    rintro e w1 ⟨rfl, rfl⟩
    go_wp2_with (fail)
    with_reducible refine (c2 _).mono ?_
    rintro e w2 ⟨rfl, hb2⟩
    go_wp2_with (fail)
    with_reducible refine (c3 _).mono ?_
    rintro e w3 ⟨rfl, rfl⟩
    go_wp2_with (fail)
    go_ret
    exact ⟨rfl, hb2⟩
  · rw [if_neg h]
    rw [decide_eq_false h] at c1
    clear h
    go_enter Tryd.func9, Tryd.ntmps9
    go_wp2_with (fail)
    with_reducible refine (c1 _).mono ?_
    rintro e w1 ⟨rfl, rfl⟩
    go_wp2_with (fail)
    go_ret
    exact ⟨rfl, Below.refl _ _⟩

theorem impl_token (s : ByteArray) (w : World) (hk : Keys w) (hst : Starts w) :
    Calls Tryd.prog 10 #[.string s] w fun e w' => e = .returned (.int .i64 (if s.size = 8 then (natAt (digestOf s) 0 4 : Int) else 0)) ∧ Below w.heap.size w w' := by
  have c1 := fun W => impl_keyok s W
  by_cases h : s.size = 8
  · rw [if_pos h]
    rw [decide_eq_true h] at c1
    have c2 := impl_digest s w (by omega) hk hst
    have hz := digestOf_size s
    have c3 := fun W => impl_num_yes (digestOf s) 0 4 W (by omega) (by omega) (by omega) (tok_part _ hz)
    generalize natAt (digestOf s) 0 4 = n at c3 ⊢
    clear hz
    generalize digestOf s = d at c2 c3
    go_enter Tryd.func10, Tryd.ntmps10
    go_wp2_with (fail)
    with_reducible refine (c1 _).mono ?_
    rintro e w1 ⟨rfl, rfl⟩
    go_wp2_with (fail)
    with_reducible refine c2.mono ?_
    rintro e w2 ⟨rfl, hb2⟩
    go_wp2_with (fail)
    with_reducible refine (c3 _).mono ?_
    rintro e w3 ⟨rfl, hb3⟩
    go_wp2_with (fail)
    go_ret
    exact ⟨rfl, Below.then_ hb2 hb3⟩
  · rw [if_neg h]
    rw [decide_eq_false h] at c1
    clear h
    go_enter Tryd.func10, Tryd.ntmps10
    go_wp2_with (fail)
    with_reducible refine (c1 _).mono ?_
    rintro e w1 ⟨rfl, rfl⟩
    go_wp2_with (fail)
    go_ret
    exact ⟨rfl, Below.refl _ _⟩

/-- The last m bytes. -/
def lastOf (t : ByteArray) (m : Int) : ByteArray := t.extract (max 0 ((t.size : Int) - m)).toNat t.size
/-- The first m bytes. -/
def firstOf (t : ByteArray) (m : Int) : ByteArray := t.extract 0 (min m (t.size : Int)).toNat

theorem impl_last (t : ByteArray) (m : Int) (w : World) (hs : t.size ≤ 1048576) (h0 : 0 ≤ m) (h1 : m ≤ 1048576) :
    Calls Tryd.prog 27 #[.string t, .int .i64 m] w fun e w' => e = .returned (.string (lastOf t m)) ∧ w = w' := by
  have hsl := slice_from t (max 0 ((t.size : Int) - m)) (by omega) (by omega)
  unfold lastOf
  have e1 : IntKind.i64.wrap ((t.size : Int) - m) = (t.size : Int) - m := IntWalk.i64_in _ (by omega)
  generalize t.extract (max 0 ((t.size : Int) - m)).toNat t.size = r at hsl
  go_enter Tryd.func27, Tryd.ntmps27
  go_wp2_with (fail)
  go_ret
  exact ⟨rfl, rfl⟩

theorem last_32 (d : ByteArray) (h : d.size = 32) : lastOf d 8 = d.extract 24 d.size := by
  unfold lastOf
  rw [show (max 0 ((d.size : Int) - 8)).toNat = 24 by omega]

/-- What StartOf answers. -/
def startOf (s : ByteArray) : ByteArray := if s.size = 8 then lastOf (digestOf s) 8 else ⟨#[]⟩

theorem spec_start (s : ByteArray) (w : World) :
    Calls Tryd.prog 11 #[.string s] w fun e w' => e = .returned (.string (startOf s)) ∧ Below w.heap.size w w' := by
  have c1 := fun W => spec_keyok s W
  unfold startOf
  by_cases h : s.size = 8
  · rw [if_pos h]
    rw [decide_eq_true h] at c1
    have c2 := fun W => spec_digest s W (by omega)
    have hz := digestOf_size s
    have hsl := slice_from (digestOf s) 24 (by omega) (by omega)
    rw [show (24 : Int).toNat = 24 from rfl, ← last_32 _ hz] at hsl
    generalize lastOf (digestOf s) 8 = r at hsl ⊢
    clear hz
    generalize digestOf s = d at c2 hsl
    go_enter Tryd.func11, Tryd.ntmps11
    go_wp2_with (fail)
    with_reducible refine (c1 _).mono ?_
    rintro e w1 ⟨rfl, rfl⟩
    go_wp2_with (fail)
    with_reducible refine (c2 _).mono ?_
    rintro e w2 ⟨rfl, hb2⟩
    go_wp2_with (fail)
    go_ret
    exact ⟨rfl, hb2⟩
  · rw [if_neg h]
    rw [decide_eq_false h] at c1
    clear h
    go_enter Tryd.func11, Tryd.ntmps11
    go_wp2_with (fail)
    with_reducible refine (c1 _).mono ?_
    rintro e w1 ⟨rfl, rfl⟩
    go_wp2_with (fail)
    go_ret
    exact ⟨rfl, Below.refl _ _⟩

theorem impl_start (s : ByteArray) (w : World) (hk : Keys w) (hst : Starts w) :
    Calls Tryd.prog 12 #[.string s] w fun e w' => e = .returned (.string (startOf s)) ∧ Below w.heap.size w w' := by
  have c1 := fun W => impl_keyok s W
  unfold startOf
  by_cases h : s.size = 8
  · rw [if_pos h]
    rw [decide_eq_true h] at c1
    have c2 := impl_digest s w (by omega) hk hst
    have hz := digestOf_size s
    have c3 := fun W => impl_last (digestOf s) 8 W (by omega) (by omega) (by omega)
    generalize lastOf (digestOf s) 8 = r at c3 ⊢
    clear hz
    generalize digestOf s = d at c2 c3
    go_enter Tryd.func12, Tryd.ntmps12
    go_wp2_with (fail)
    with_reducible refine (c1 _).mono ?_
    rintro e w1 ⟨rfl, rfl⟩
    go_wp2_with (fail)
    with_reducible refine c2.mono ?_
    rintro e w2 ⟨rfl, hb2⟩
    go_wp2_with (fail)
    with_reducible refine (c3 _).mono ?_
    rintro e w3 ⟨rfl, rfl⟩
    go_wp2_with (fail)
    go_ret
    exact ⟨rfl, hb2⟩
  · rw [if_neg h]
    rw [decide_eq_false h] at c1
    clear h
    go_enter Tryd.func12, Tryd.ntmps12
    go_wp2_with (fail)
    with_reducible refine (c1 _).mono ?_
    rintro e w1 ⟨rfl, rfl⟩
    go_wp2_with (fail)
    go_ret
    exact ⟨rfl, Below.refl _ _⟩
end Go.Proofs.YtjagediaaadkdaaDoor
