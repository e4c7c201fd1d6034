import Derived.Test.YtnfnggdngddpkaaDoorRows
import Derived.WalkKit
import Derived.Below
import Derived.Test.YtnfnggdngddpkaaDoorClone
import Derived.Lib.Hide
namespace Go.Proofs.YtnfnggdngddpkaaDoor
open Go.RowKit


theorem slice_part (t : ByteArray) (a b : Int) (h0 : 0 ≤ a) (h1 : a ≤ b) (h2 : b ≤ (t.size : Int)) (W : World) :
    (Instr.slice 9 (.string t) (some (.int .i64 a)) (some (.int .i64 b)) none).run Tryd.prog W = .ok (.string (t.extract a.toNat b.toNat)) W := by
  have h3 : ((t.size : Nat) : Int) ≤ (t.size : Int) := Int.le_refl _
  have h4 : 0 ≤ b := by omega
  have h5 : ¬ max b 0 < a := by omega
  simp [Instr.slice, run_underlying Tryd.underlying9, Instr.sliceBounds, Instr.sliceBound, asIntOf, h0, h2, h4, h5]

/-- The bytes that are asked exist. -/
def Part (s : ByteArray) (a m : Int) : Prop := 0 ≤ a ∧ 0 ≤ m ∧ a + m ≤ (s.size : Int)

theorem part_yes (s : ByteArray) (a m : Int) (w : World) (hs : s.size ≤ 9223372036854775807) (h : Part s a m) :
    Calls Tryd.prog 19 #[.string s, .int .i64 a, .int .i64 m] w fun e w' => e = .returned (.tuple #[.string (s.extract a.toNat (a + m).toNat), .bool true]) ∧ w = w' := by
  obtain ⟨h0, h1, h2⟩ := h
  have q1 : ¬ a < 0 := by omega
  have q2 : ¬ m < 0 := by omega
  have q3 : ¬ (s.size : Int) - a < m := by omega
  have hsl := slice_part s a (a + m) h0 (by omega) h2
  generalize s.extract a.toNat (a + m).toNat = r at hsl
  go_enter Tryd.func19, Tryd.ntmps19
  go_wp2_with (fail)
  go_ret2
  exact ⟨rfl, rfl⟩

theorem part_no (s : ByteArray) (a m : Int) (w : World) (hs : s.size ≤ 9223372036854775807) (ha2 : a ≤ 9223372036854775807) (h : ¬ Part s a m) :
    Calls Tryd.prog 19 #[.string s, .int .i64 a, .int .i64 m] w fun e w' => e = .returned (.tuple #[.string ⟨#[]⟩, .bool false]) ∧ w = w' := by
  by_cases q1 : a < 0
  · clear h
    go_enter Tryd.func19, Tryd.ntmps19
    go_wp2_with (fail)
    go_ret2
    exact ⟨rfl, rfl⟩
  · by_cases q2 : m < 0
    · clear h
      go_enter Tryd.func19, Tryd.ntmps19
      go_wp2_with (fail)
      go_ret2
      exact ⟨rfl, rfl⟩
    · have q3 : (s.size : Int) - a < m := by
        have : ¬ a + m ≤ (s.size : Int) := fun h2 => h ⟨by omega, by omega, h2⟩
        omega
      clear h
      go_enter Tryd.func19, Tryd.ntmps19
      go_wp2_with (fail)
      go_ret2
      exact ⟨rfl, rfl⟩

theorem clone_call (s : ByteArray) (w : World) (hs : s.size ≤ 281474976710656) :
    Calls Tryd.prog 20 #[.string s] w fun e w' => e = .returned (.string s) ∧ Below w.heap.size w w' := by
  have c1 := fun W => Tryd.stringslite_Clone s W hs
  go_enter Tryd.func20, Tryd.ntmps20
  go_wp2_with (go_at_call 23; (with_reducible refine (c1 _).mono ?_); rintro e w1 ⟨rfl, hb1⟩)
  go_ret
  exact ⟨rfl, hb1⟩

theorem extract_le (s : ByteArray) (a b : Nat) : (s.extract a b).size ≤ s.size := by
  simp only [ByteArray.size_extract]; omega

theorem impl_text_yes (s : ByteArray) (a m : Int) (w : World) (hs : s.size ≤ 1100000) (h : Part s a m) :
    Calls Tryd.prog 9 #[.string s, .int .i64 a, .int .i64 m] w fun e w' => e = .returned (.tuple #[.string (s.extract a.toNat (a + m).toNat), .bool true]) ∧ Below w.heap.size w w' := by
  have c1 := fun W => part_yes s a m W (by omega) h
  have hz := extract_le s a.toNat (a + m).toNat
  generalize s.extract a.toNat (a + m).toNat = r at c1 hz
  have c2 := fun W => clone_call r W (by omega)
  clear h
  go_enter Tryd.func9, Tryd.ntmps9
  go_wp2_with (fail)
  with_reducible refine (c1 _).mono ?_
  rintro e w1 ⟨rfl, rfl⟩
  go_wp2_with (fail)
  with_reducible refine (c2 _).mono ?_
  rintro e w1 ⟨rfl, hb1⟩
  go_wp2_with (fail)
  go_ret2
  exact ⟨rfl, hb1⟩

theorem impl_text_no (s : ByteArray) (a m : Int) (w : World) (hs : s.size ≤ 1100000) (ha2 : a ≤ 9223372036854775807) (h : ¬ Part s a m) :
    Calls Tryd.prog 9 #[.string s, .int .i64 a, .int .i64 m] w fun e w' => e = .returned (.tuple #[.string ⟨#[]⟩, .bool false]) ∧ Below w.heap.size w w' := by
  have c1 := fun W => part_no s a m W (by omega) ha2 h
  have c2 := fun W => clone_call ⟨#[]⟩ W (by show 0 ≤ _; omega)
  clear h
  go_enter Tryd.func9, Tryd.ntmps9
  go_wp2_with (fail)
  with_reducible refine (c1 _).mono ?_
  rintro e w1 ⟨rfl, rfl⟩
  go_wp2_with (fail)
  with_reducible refine (c2 _).mono ?_
  rintro e w1 ⟨rfl, hb1⟩
  go_wp2_with (fail)
  go_ret2
  exact ⟨rfl, hb1⟩
end Go.Proofs.YtnfnggdngddpkaaDoor
