import Derived.Test.YtkpajakangaekabRows
import Derived.WalkKit
import Derived.Below
import Derived.Test.YtkpajakangaekabClone
import Derived.Test.YtkpajakangaekabPart
import Derived.Lib.Hide
namespace Go.Proofs.Ytkpajakangaekab
open Go.RowKit


theorem clone_call (s : ByteArray) (w : World) (hs : s.size ≤ 281474976710656) :
    Calls Try.prog 66 #[.string s] w fun e w' => e = .returned (.string s) ∧ Below w.heap.size w w' := by
  have c1 := fun W => Try.stringslite_Clone s W hs
  go_enter Try.func66, Try.ntmps66
  go_wp2_with (go_at_call 75; (with_reducible refine (c1 _).mono ?_); rintro e w1 ⟨rfl, hb1⟩)
  go_ret
  exact ⟨rfl, hb1⟩

theorem impl_text_yes (s : ByteArray) (a m : Int) (w : World) (hs : s.size ≤ 1100000) (h : Part s a m) :
    Calls Try.prog 42 #[.string s, .int .i64 a, .int .i64 m] w fun e w' => e = .returned (.tuple #[.string (s.extract a.toNat (a + m).toNat), .bool true]) ∧ Below w.heap.size w w' := by
  have c1 := fun W => part_yes s a m W (by omega) h
  have hz := extract_le s a.toNat (a + m).toNat
  generalize s.extract a.toNat (a + m).toNat = r at c1 hz
  have c2 := fun W => clone_call r W (by omega)
  clear h
  go_enter Try.func42, Try.ntmps42
  go_wp2_with (fail)
  with_reducible refine (c1 _).mono ?_
  rintro e w1 ⟨rfl, rfl⟩
  go_wp2_with (fail)
  with_reducible refine (c2 _).mono ?_
  rintro e w1 ⟨rfl, hb1⟩
  go_wp2_with (fail)
  go_ret2
  exact ⟨rfl, hb1⟩

theorem impl_text_no (s : ByteArray) (a m : Int) (w : World) (hs : s.size ≤ 1100000) (ha2 : a ≤ 9223372036854775807) (h : ¬ Part s a m) :
    Calls Try.prog 42 #[.string s, .int .i64 a, .int .i64 m] w fun e w' => e = .returned (.tuple #[.string ⟨#[]⟩, .bool false]) ∧ Below w.heap.size w w' := by
  have c1 := fun W => part_no s a m W (by omega) ha2 h
  have c2 := fun W => clone_call ⟨#[]⟩ W (by show 0 ≤ _; omega)
  clear h
  go_enter Try.func42, Try.ntmps42
  go_wp2_with (fail)
  with_reducible refine (c1 _).mono ?_
  rintro e w1 ⟨rfl, rfl⟩
  go_wp2_with (fail)
  with_reducible refine (c2 _).mono ?_
  rintro e w1 ⟨rfl, hb1⟩
  go_wp2_with (fail)
  go_ret2
  exact ⟨rfl, hb1⟩
end Go.Proofs.Ytkpajakangaekab
