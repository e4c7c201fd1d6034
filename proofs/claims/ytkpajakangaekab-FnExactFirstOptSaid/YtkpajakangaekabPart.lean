import Derived.Test.YtkpajakangaekabRows
import Derived.WalkKit
import Derived.Below
import Derived.Lib.Hide
namespace Go.Proofs.Ytkpajakangaekab
open Go.RowKit

theorem slice_part (t : ByteArray) (a b : Int) (h0 : 0 ≤ a) (h1 : a ≤ b) (h2 : b ≤ (t.size : Int)) (W : World) :
    (Instr.slice 9 (.string t) (some (.int .i64 a)) (some (.int .i64 b)) none).run Try.prog W = .ok (.string (t.extract a.toNat b.toNat)) W := by
  have h3 : ((t.size : Nat) : Int) ≤ (t.size : Int) := Int.le_refl _
  have h4 : 0 ≤ b := by omega
  have h5 : ¬ max b 0 < a := by omega
  simp [Instr.slice, run_underlying Try.underlying9, Instr.sliceBounds, Instr.sliceBound, asIntOf, h0, h2, h4, h5]

/-- The bytes that are asked exist. -/
def Part (s : ByteArray) (a m : Int) : Prop := 0 ≤ a ∧ 0 ≤ m ∧ a + m ≤ (s.size : Int)

theorem part_yes (s : ByteArray) (a m : Int) (w : World) (hs : s.size ≤ 9223372036854775807) (h : Part s a m) :
    Calls Try.prog 65 #[.string s, .int .i64 a, .int .i64 m] w fun e w' => e = .returned (.tuple #[.string (s.extract a.toNat (a + m).toNat), .bool true]) ∧ w = w' := by
  obtain ⟨h0, h1, h2⟩ := h
  have q1 : ¬ a < 0 := by omega
  have q2 : ¬ m < 0 := by omega
  have q3 : ¬ (s.size : Int) - a < m := by omega
  have hsl := slice_part s a (a + m) h0 (by omega) h2
  generalize s.extract a.toNat (a + m).toNat = r at hsl
  go_enter Try.func65, Try.ntmps65
  go_wp2_with (fail)
  go_ret2
  exact ⟨rfl, rfl⟩

theorem part_no (s : ByteArray) (a m : Int) (w : World) (hs : s.size ≤ 9223372036854775807) (ha2 : a ≤ 9223372036854775807) (h : ¬ Part s a m) :
    Calls Try.prog 65 #[.string s, .int .i64 a, .int .i64 m] w fun e w' => e = .returned (.tuple #[.string ⟨#[]⟩, .bool false]) ∧ w = w' := by
  by_cases q1 : a < 0
  · clear h
    go_enter Try.func65, Try.ntmps65
    go_wp2_with (fail)
    go_ret2
    exact ⟨rfl, rfl⟩
  · by_cases q2 : m < 0
    · clear h
      go_enter Try.func65, Try.ntmps65
      go_wp2_with (fail)
      go_ret2
      exact ⟨rfl, rfl⟩
    · have q3 : (s.size : Int) - a < m := by
        have : ¬ a + m ≤ (s.size : Int) := fun h2 => h ⟨by omega, by omega, h2⟩
        omega
      clear h
      go_enter Try.func65, Try.ntmps65
      go_wp2_with (fail)
      go_ret2
      exact ⟨rfl, rfl⟩

theorem extract_le (s : ByteArray) (a b : Nat) : (s.extract a b).size ≤ s.size := by
  simp only [ByteArray.size_extract]; omega
end Go.Proofs.Ytkpajakangaekab
