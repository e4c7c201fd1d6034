import Derived.Test.YtkpajakangaekabCel
import Derived.Test.YtkpajakangaekabNatI
import Derived.Test.YtkpajakangaekabTxt
import Derived.IntWalk
import Derived.Deep.RegionHeld3
import Derived.Deep.Cut
import Derived.BigQuiet
namespace Go.Proofs.Ytkpajakangaekab
open Go.RowKit

/-- The number, the text that stands at a; zero where it is not. -/
def nAt (s : ByteArray) (a m : Int) : Int := if 0 ≤ a ∧ 0 ≤ m ∧ a + m ≤ (s.size : Int) then (natAt s a m : Int) else 0
def tAt (s : ByteArray) (a m : Int) : ByteArray := if 0 ≤ a ∧ 0 ≤ m ∧ a + m ≤ (s.size : Int) then s.extract a.toNat (a + m).toNat else ⟨#[]⟩
theorem nAt_yes (s : ByteArray) (a m : Int) (h : Part s a m) : nAt s a m = (natAt s a m : Int) := by unfold nAt; exact if_pos h
theorem nAt_no (s : ByteArray) (a m : Int) (h : ¬ Part s a m) : nAt s a m = 0 := by unfold nAt; exact if_neg h
theorem tAt_yes (s : ByteArray) (a m : Int) (h : Part s a m) : tAt s a m = s.extract a.toNat (a + m).toNat := by unfold tAt; exact if_pos h
theorem tAt_no (s : ByteArray) (a m : Int) (h : ¬ Part s a m) : tAt s a m = ⟨#[]⟩ := by unfold tAt; exact if_neg h

theorem impl_nAt (s : ByteArray) (a m : Int) (w : World) (hs : s.size ≤ 1048576) (ha2 : a ≤ 9223372036854775807) (h1 : 1 ≤ m) (h6 : m ≤ 6) :
    Calls Try.prog 74 #[.string s, .int .i64 a, .int .i64 m] w fun e w' => ∃ ok, e = .returned (.tuple #[.int .i64 (nAt s a m), .bool ok]) ∧ Below w.heap.size w w' := by
  by_cases h : Part s a m
  · rw [nAt_yes s a m h]
    refine (impl_num_yes s a m w (by omega) h1 h6 h).mono ?_
    rintro e w' ⟨rfl, hb⟩
    exact ⟨true, rfl, hb⟩
  · rw [nAt_no s a m h]
    refine (impl_num_no s a m w (by omega) ha2 h1 h6 h).mono ?_
    rintro e w' ⟨rfl, hb⟩
    exact ⟨false, rfl, hb⟩

theorem impl_tAt (s : ByteArray) (a m : Int) (w : World) (hs : s.size ≤ 1048576) (ha2 : a ≤ 9223372036854775807) :
    Calls Try.prog 42 #[.string s, .int .i64 a, .int .i64 m] w fun e w' => ∃ ok, e = .returned (.tuple #[.string (tAt s a m), .bool ok]) ∧ Below w.heap.size w w' := by
  by_cases h : Part s a m
  · rw [tAt_yes s a m h]
    refine (impl_text_yes s a m w (by omega) h).mono ?_
    rintro e w' ⟨rfl, hb⟩
    exact ⟨true, rfl, hb⟩
  · rw [tAt_no s a m h]
    refine (impl_text_no s a m w (by omega) ha2 h).mono ?_
    rintro e w' ⟨rfl, hb⟩
    exact ⟨false, rfl, hb⟩

/-- Block g is a reader of the text s at a. -/
def Rdr (W : World) (g : Nat) (s : ByteArray) (a : Int) : Prop := Cel W g 67 #[.string s, .int .i64 a]

/-- Nothing turns but block g; blocks may be added. -/
structure But (g : Nat) (w w' : World) : Prop where
  bl : Below g w w'
  size : w.heap.size ≤ w'.heap.size
  at_ : ∀ k, k ≠ g → k < w.heap.size → w'.heap[k]? = w.heap[k]?

theorem But.trans {g : Nat} {a b c : World} (h1 : But g a b) (h2 : But g b c) : But g a c :=
  ⟨h1.bl.trans h2.bl, Nat.le_trans h1.size h2.size, fun k hk hl => (h2.at_ k hk (Nat.lt_of_lt_of_le hl h1.size)).trans (h1.at_ k hk hl)⟩
theorem But.of {g : Nat} {w w' : World} (h : Below w.heap.size w w') (hg : g < w.heap.size) : But g w w' :=
  ⟨h.mono (Nat.le_of_lt hg), h.size, fun k _ hl => h.block k hl⟩
theorem But.set {g : Nat} (w : World) (i : Nat) (v : Value) : But g w (w.setCell ⟨g, i, none⟩ v) :=
  ⟨Below.setCell (p := ⟨g, i, none⟩) (Below.refl g w) (Nat.le_refl g) _, by simp, fun k hk _ => Below.heap_setCell _ _ _ _ hk⟩

theorem But.refl (g : Nat) (w : World) : But g w w := ⟨Below.refl _ _, Nat.le_refl _, fun _ _ _ => rfl⟩
theorem rdr_all {w W : World} {g : Nat} {s : ByteArray} {a : Int} (h : Rdr W g s a) (hb : But g w W) :
    W.cell? ⟨g, 0, none⟩ = some (.string s) ∧ W.cell? ⟨g, 1, none⟩ = some (.int .i64 a) ∧ Rdr W g s a ∧ But g w W :=
  ⟨Cel.cell (show Cel _ g _ _ from h) 0, Cel.cell (show Cel _ g _ _ from h) 1, h, hb⟩
theorem rdr_keep {w W W' : World} {g : Nat} {s : ByteArray} {a : Int} (h : W.cell? ⟨g, 0, none⟩ = some (.string s) ∧ W.cell? ⟨g, 1, none⟩ = some (.int .i64 a) ∧ Rdr W g s a ∧ But g w W) (hb : Below W.heap.size W W') :
    W'.cell? ⟨g, 0, none⟩ = some (.string s) ∧ W'.cell? ⟨g, 1, none⟩ = some (.int .i64 a) ∧ Rdr W' g s a ∧ But g w W' :=
  rdr_all (Cel.kept (show Cel _ g _ _ from h.2.2.1) hb) (h.2.2.2.trans (But.of hb (Cel.lt (show Cel _ g _ _ from h.2.2.1))))
theorem rdr_drew {w W : World} {g : Nat} {s : ByteArray} {a : Int} (h : Rdr W g s a) (hb : But g w W) :
    W.drew.cell? ⟨g, 0, none⟩ = some (.string s) ∧ W.drew.cell? ⟨g, 1, none⟩ = some (.int .i64 a) ∧ Rdr W.drew g s a ∧ But g w W.drew :=
  rdr_all h (hb.trans ⟨⟨rfl, rfl, rfl, Nat.le_refl _, fun _ _ => rfl⟩, Nat.le_refl _, fun _ _ _ => rfl⟩)

set_option maxHeartbeats 1000000 in
theorem rd_number (g : Nat) (s : ByteArray) (a m : Int) (w : World) (h : Rdr w g s a) (hs : s.size ≤ 1048576) (ha2 : a ≤ 9223372036854775807) (h1 : 1 ≤ m) (h6 : m ≤ 6) :
    Calls Try.prog 61 #[.pointer (some ⟨g, 0, none⟩), .int .i64 m] w fun e w' => e = .returned (.int .i64 (nAt s a m)) ∧ Rdr w' g s (wrap64 (a + m)) ∧ But g w w' := by
  have c0 := Cel.cell (show Cel _ g _ _ from h) 0
  have c1 := Cel.cell (show Cel _ g _ _ from h) 1
  have cn := fun W => impl_nAt s a m W hs ha2 h1 h6
  generalize nAt s a m = x at *
  clear h1 h6 hs ha2
  have S0 := rdr_drew h (But.refl g w)
  clear h
  go_enter Try.func61, Try.ntmps61
  go_wp2_with (fail)
  go_region_held3 (fun W => W.cell? ⟨g, 0, none⟩ = some (.string s) ∧ W.cell? ⟨g, 1, none⟩ = some (.int .i64 a) ∧ Rdr W g s a ∧ But g w W)
    (first | exact S0 | exact rdr_keep (by assumption) (by assumption) | go_keep)
    (first
      | (go_at_call 74; (with_reducible refine (cn _).mono ?_); rintro e w1 ⟨ok, rfl, hb⟩))
  have S1 : w1.cell? ⟨g, 0, none⟩ = some (.string s) ∧ w1.cell? ⟨g, 1, none⟩ = some (.int .i64 a) ∧ Rdr w1 g s a ∧ But g w w1 := by assumption
  obtain ⟨k0, k1, h1, hB⟩ := S1
  have hf := Cel.frozen (show Cel _ g _ _ from h1) 1
  clear c0 c1 cn S0 hb
  go_wp2_with (fail)
  go_ret
  exact ⟨rfl, Cel.set (show Cel _ g _ _ from h1) 1 _, hB.trans (But.set _ _ _)⟩

set_option maxHeartbeats 1000000 in
theorem rd_bytes (g : Nat) (s : ByteArray) (a m : Int) (w : World) (h : Rdr w g s a) (hs : s.size ≤ 1048576) (ha2 : a ≤ 9223372036854775807) :
    Calls Try.prog 62 #[.pointer (some ⟨g, 0, none⟩), .int .i64 m] w fun e w' => e = .returned (.string (tAt s a m)) ∧ Rdr w' g s (wrap64 (a + m)) ∧ But g w w' := by
  have c0 := Cel.cell (show Cel _ g _ _ from h) 0
  have c1 := Cel.cell (show Cel _ g _ _ from h) 1
  have cn := fun W => impl_tAt s a m W hs ha2
  generalize tAt s a m = x at *
  clear hs ha2
  have S0 := rdr_drew h (But.refl g w)
  clear h
  go_enter Try.func62, Try.ntmps62
  go_wp2_with (fail)
  go_region_held3 (fun W => W.cell? ⟨g, 0, none⟩ = some (.string s) ∧ W.cell? ⟨g, 1, none⟩ = some (.int .i64 a) ∧ Rdr W g s a ∧ But g w W)
    (first | exact S0 | exact rdr_keep (by assumption) (by assumption) | go_keep)
    (first
      | (go_at_call 42; (with_reducible refine (cn _).mono ?_); rintro e w1 ⟨ok, rfl, hb⟩))
  have S1 : w1.cell? ⟨g, 0, none⟩ = some (.string s) ∧ w1.cell? ⟨g, 1, none⟩ = some (.int .i64 a) ∧ Rdr w1 g s a ∧ But g w w1 := by assumption
  obtain ⟨k0, k1, h1, hB⟩ := S1
  have hf := Cel.frozen (show Cel _ g _ _ from h1) 1
  clear c0 c1 cn S0 hb
  go_wp2_with (fail)
  go_ret
  exact ⟨rfl, Cel.set (show Cel _ g _ _ from h1) 1 _, hB.trans (But.set _ _ _)⟩

set_option maxHeartbeats 1000000 in
theorem rd_flag (g : Nat) (s : ByteArray) (a : Int) (w : World) (h : Rdr w g s a) (hs : s.size ≤ 1048576) (ha2 : a ≤ 9223372036854775807) :
    Calls Try.prog 63 #[.pointer (some ⟨g, 0, none⟩)] w fun e w' => e = .returned (.bool (nAt s a 1 == 1)) ∧ Rdr w' g s (wrap64 (a + 1)) ∧ But g w w' := by
  have cn := rd_number g s a 1 w h hs ha2 (by decide) (by decide)
  generalize nAt s a 1 = x at *
  clear hs ha2
  go_enter Try.func63, Try.ntmps63
  go_wp2_with (fail)
  with_reducible refine cn.mono ?_
  rintro e w1 ⟨rfl, h1, hb⟩
  go_wp2_with (fail)
  go_ret
  exact ⟨rfl, h1, hb⟩

theorem nAt_nz (s : ByteArray) (a m k : Int) (h : nAt s a m = k) (hk : k ≠ 0) : 0 ≤ a ∧ 0 ≤ m ∧ a + m ≤ (s.size : Int) := by
  by_cases hp : 0 ≤ a ∧ 0 ≤ m ∧ a + m ≤ (s.size : Int)
  · exact hp
  · unfold nAt at h
    rw [if_neg hp] at h
    exact absurd h.symm hk
theorem nAt_byte (s : ByteArray) (a : Int) : ∃ n : Nat, n ≤ 255 ∧ nAt s a 1 = (n : Int) := by
  by_cases hp : 0 ≤ a ∧ (0 : Int) ≤ 1 ∧ a + 1 ≤ (s.size : Int)
  · refine ⟨natAt s a 1, ?_, nAt_yes s a 1 hp⟩
    have h1 := part_size s a 1 hp
    have h2 := numOf_lt (s.extract a.toNat (a + 1).toNat).data.toList
    have h3 : (s.extract a.toNat (a + 1).toNat).data.toList.length = 1 := by rw [Array.length_toList]; exact h1
    rw [h3] at h2
    unfold natAt
    omega
  · exact ⟨0, by omega, nAt_no s a 1 hp⟩
attribute [irreducible] nAt tAt
end Go.Proofs.Ytkpajakangaekab
