import Derived.Test.YtnlbeoifmdfbjaaPart
import Derived.Test.YtnlbeoifmdfbjaaIn
namespace Go.Proofs.Ytnlbeoifmdfbjaa
open Go.RowKit

theorem spec_text_yes (s : ByteArray) (a m : Int) (w : World) (hs : s.size ≤ 9223372036854775807) (h : Part s a m) :
    Calls Try.prog 59 #[.string s, .int .i64 a, .int .i64 m] w fun e w' => e = .returned (.tuple #[.string (s.extract a.toNat (a + m).toNat), .bool true]) ∧ w = w' := by
  obtain ⟨h0, h1, h2⟩ := h
  have c1 := fun W => spec_in a 0 (s.size : Int) W
  have c2 := fun W => spec_in m 0 ((s.size : Int) - a) W
  rw [decide_eq_true (show 0 ≤ a ∧ a ≤ (s.size : Int) by omega)] at c1
  rw [decide_eq_true (show 0 ≤ m ∧ m ≤ (s.size : Int) - a by omega)] at c2
  have hsl := slice_part s a (a + m) h0 (by omega) h2
  generalize s.extract a.toNat (a + m).toNat = r at hsl
  go_enter Try.func59, Try.ntmps59
  go_wp2_with (first
    | (go_at_call 41; (with_reducible refine (c1 _).mono ?_); rintro e w2 ⟨rfl, rfl⟩)
    | (go_at_call 41; (with_reducible refine (c2 _).mono ?_); rintro e w2 ⟨rfl, rfl⟩))
  go_ret2
  exact ⟨rfl, rfl⟩

theorem spec_text_no (s : ByteArray) (a m : Int) (w : World) (hs : s.size ≤ 9223372036854775807) (ha : -9223372036854775808 ≤ a) (ha2 : a ≤ 9223372036854775807) (h : ¬ Part s a m) :
    Calls Try.prog 59 #[.string s, .int .i64 a, .int .i64 m] w fun e w' => e = .returned (.tuple #[.string ⟨#[]⟩, .bool false]) ∧ w = w' := by
  have c1 := fun W => spec_in a 0 (s.size : Int) W
  have c2 := fun W => spec_in m 0 ((s.size : Int) - a) W
  by_cases g : 0 ≤ a ∧ a ≤ (s.size : Int)
  · have h' : ¬ (0 ≤ m ∧ m ≤ (s.size : Int) - a) := fun h2 => h ⟨by omega, by omega, by omega⟩
    rw [decide_eq_true g] at c1
    rw [decide_eq_false h'] at c2
    obtain ⟨g1, g2⟩ := g
    clear h h'
    go_enter Try.func59, Try.ntmps59
    go_wp2_with (first
      | (go_at_call 41; (with_reducible refine (c1 _).mono ?_); rintro e w2 ⟨rfl, rfl⟩)
      | (go_at_call 41; (with_reducible refine (c2 _).mono ?_); rintro e w2 ⟨rfl, rfl⟩))
    go_ret2
    exact ⟨rfl, rfl⟩
  · rw [decide_eq_false g] at c1
    clear g h
    go_enter Try.func59, Try.ntmps59
    go_wp2_with (first
      | (go_at_call 41; (with_reducible refine (c1 _).mono ?_); rintro e w2 ⟨rfl, rfl⟩))
    go_ret2
    exact ⟨rfl, rfl⟩

end Go.Proofs.Ytnlbeoifmdfbjaa
