import Derived.Test.YtkpajakangaekabCel
import Derived.Test.YtkpajakangaekabNatI
import Derived.Test.YtkpajakangaekabMgP
import Derived.IntWalk
import Derived.Deep.RegionHeld3
import Derived.Deep.Cut
import Derived.BigQuiet
import Derived.Test.YtkpajakangaekabPlo
import Derived.Test.YtkpajakangaekabInts0
import Derived.Test.YtkpajakangaekabIntsL
import Derived.Test.YtkpajakangaekabOv
import Derived.Test.YtkpajakangaekabInts2
namespace Go.Proofs.Ytkpajakangaekab
open Go.RowKit

/-- The number, the text that stands at a; zero where it is not. -/
def nAt (s : ByteArray) (a m : Int) : Int := if 0 ≤ a ∧ 0 ≤ m ∧ a + m ≤ (s.size : Int) then (natAt s a m : Int) else 0
def tAt (s : ByteArray) (a m : Int) : ByteArray := if 0 ≤ a ∧ 0 ≤ m ∧ a + m ≤ (s.size : Int) then s.extract a.toNat (a + m).toNat else ⟨#[]⟩
theorem nAt_yes (s : ByteArray) (a m : Int) (h : Part s a m) : nAt s a m = (natAt s a m : Int) := by unfold nAt; exact if_pos h
theorem nAt_no (s : ByteArray) (a m : Int) (h : ¬ Part s a m) : nAt s a m = 0 := by unfold nAt; exact if_neg h
theorem tAt_yes (s : ByteArray) (a m : Int) (h : Part s a m) : tAt s a m = s.extract a.toNat (a + m).toNat := by unfold tAt; exact if_pos h
theorem tAt_no (s : ByteArray) (a m : Int) (h : ¬ Part s a m) : tAt s a m = ⟨#[]⟩ := by unfold tAt; exact if_neg h

theorem impl_nAt (s : ByteArray) (a m : Int) (w : World) (hs : s.size ≤ 1048576) (ha2 : a ≤ 9223372036854775807) (h1 : 1 ≤ m) (h6 : m ≤ 6) :
    Calls Try.prog 74 #[.string s, .int .i64 a, .int .i64 m] w fun e w' => ∃ ok, e = .returned (.tuple #[.int .i64 (nAt s a m), .bool ok]) ∧ Below w.heap.size w w' := by
  by_cases h : Part s a m
  · rw [nAt_yes s a m h]
    refine (impl_num_yes s a m w (by omega) h1 h6 h).mono ?_
    rintro e w' ⟨rfl, hb⟩
    exact ⟨true, rfl, hb⟩
  · rw [nAt_no s a m h]
    refine (impl_num_no s a m w (by omega) ha2 h1 h6 h).mono ?_
    rintro e w' ⟨rfl, hb⟩
    exact ⟨false, rfl, hb⟩

theorem impl_tAt (s : ByteArray) (a m : Int) (w : World) (hs : s.size ≤ 1048576) (ha2 : a ≤ 9223372036854775807) :
    Calls Try.prog 42 #[.string s, .int .i64 a, .int .i64 m] w fun e w' => ∃ ok, e = .returned (.tuple #[.string (tAt s a m), .bool ok]) ∧ Below w.heap.size w w' := by
  by_cases h : Part s a m
  · rw [tAt_yes s a m h]
    refine (impl_text_yes s a m w (by omega) h).mono ?_
    rintro e w' ⟨rfl, hb⟩
    exact ⟨true, rfl, hb⟩
  · rw [tAt_no s a m h]
    refine (impl_text_no s a m w (by omega) ha2 h).mono ?_
    rintro e w' ⟨rfl, hb⟩
    exact ⟨false, rfl, hb⟩

/-- Block g is a reader of the text s at a. -/
def Rdr (W : World) (g : Nat) (s : ByteArray) (a : Int) : Prop := Cel W g 67 #[.string s, .int .i64 a]

/-- Nothing turns but block g; blocks may be added. -/
structure But (g : Nat) (w w' : World) : Prop where
  bl : Below g w w'
  size : w.heap.size ≤ w'.heap.size
  at_ : ∀ k, k ≠ g → k < w.heap.size → w'.heap[k]? = w.heap[k]?

theorem But.trans {g : Nat} {a b c : World} (h1 : But g a b) (h2 : But g b c) : But g a c :=
  ⟨h1.bl.trans h2.bl, Nat.le_trans h1.size h2.size, fun k hk hl => (h2.at_ k hk (Nat.lt_of_lt_of_le hl h1.size)).trans (h1.at_ k hk hl)⟩
theorem But.of {g : Nat} {w w' : World} (h : Below w.heap.size w w') (hg : g < w.heap.size) : But g w w' :=
  ⟨h.mono (Nat.le_of_lt hg), h.size, fun k _ hl => h.block k hl⟩
theorem But.set {g : Nat} (w : World) (i : Nat) (v : Value) : But g w (w.setCell ⟨g, i, none⟩ v) :=
  ⟨Below.setCell (p := ⟨g, i, none⟩) (Below.refl g w) (Nat.le_refl g) _, by simp, fun k hk _ => Below.heap_setCell _ _ _ _ hk⟩

theorem But.refl (g : Nat) (w : World) : But g w w := ⟨Below.refl _ _, Nat.le_refl _, fun _ _ _ => rfl⟩
theorem rdr_all {w W : World} {g : Nat} {s : ByteArray} {a : Int} (h : Rdr W g s a) (hb : But g w W) :
    W.cell? ⟨g, 0, none⟩ = some (.string s) ∧ W.cell? ⟨g, 1, none⟩ = some (.int .i64 a) ∧ Rdr W g s a ∧ But g w W :=
  ⟨Cel.cell (show Cel _ g _ _ from h) 0, Cel.cell (show Cel _ g _ _ from h) 1, h, hb⟩
theorem rdr_keep {w W W' : World} {g : Nat} {s : ByteArray} {a : Int} (h : W.cell? ⟨g, 0, none⟩ = some (.string s) ∧ W.cell? ⟨g, 1, none⟩ = some (.int .i64 a) ∧ Rdr W g s a ∧ But g w W) (hb : Below W.heap.size W W') :
    W'.cell? ⟨g, 0, none⟩ = some (.string s) ∧ W'.cell? ⟨g, 1, none⟩ = some (.int .i64 a) ∧ Rdr W' g s a ∧ But g w W' :=
  rdr_all (Cel.kept (show Cel _ g _ _ from h.2.2.1) hb) (h.2.2.2.trans (But.of hb (Cel.lt (show Cel _ g _ _ from h.2.2.1))))
theorem rdr_drew {w W : World} {g : Nat} {s : ByteArray} {a : Int} (h : Rdr W g s a) (hb : But g w W) :
    W.drew.cell? ⟨g, 0, none⟩ = some (.string s) ∧ W.drew.cell? ⟨g, 1, none⟩ = some (.int .i64 a) ∧ Rdr W.drew g s a ∧ But g w W.drew :=
  rdr_all h (hb.trans ⟨⟨rfl, rfl, rfl, Nat.le_refl _, fun _ _ => rfl⟩, Nat.le_refl _, fun _ _ _ => rfl⟩)

set_option maxHeartbeats 1000000 in
theorem rd_number (g : Nat) (s : ByteArray) (a m : Int) (w : World) (h : Rdr w g s a) (hs : s.size ≤ 1048576) (ha2 : a ≤ 9223372036854775807) (h1 : 1 ≤ m) (h6 : m ≤ 6) :
    Calls Try.prog 61 #[.pointer (some ⟨g, 0, none⟩), .int .i64 m] w fun e w' => e = .returned (.int .i64 (nAt s a m)) ∧ Rdr w' g s (wrap64 (a + m)) ∧ But g w w' := by
  have c0 := Cel.cell (show Cel _ g _ _ from h) 0
  have c1 := Cel.cell (show Cel _ g _ _ from h) 1
  have cn := fun W => impl_nAt s a m W hs ha2 h1 h6
  generalize nAt s a m = x at *
  clear h1 h6 hs ha2
  have S0 := rdr_drew h (But.refl g w)
  clear h
  go_enter Try.func61, Try.ntmps61
  go_wp2_with (fail)
  go_region_held3 (fun W => W.cell? ⟨g, 0, none⟩ = some (.string s) ∧ W.cell? ⟨g, 1, none⟩ = some (.int .i64 a) ∧ Rdr W g s a ∧ But g w W)
    (first | exact S0 | exact rdr_keep (by assumption) (by assumption) | go_keep)
    (first
      | (go_at_call 74; (with_reducible refine (cn _).mono ?_); rintro e w1 ⟨ok, rfl, hb⟩))
  have S1 : w1.cell? ⟨g, 0, none⟩ = some (.string s) ∧ w1.cell? ⟨g, 1, none⟩ = some (.int .i64 a) ∧ Rdr w1 g s a ∧ But g w w1 := by assumption
  obtain ⟨k0, k1, h1, hB⟩ := S1
  have hf := Cel.frozen (show Cel _ g _ _ from h1) 1
  clear c0 c1 cn S0 hb
  go_wp2_with (fail)
  go_ret
  exact ⟨rfl, Cel.set (show Cel _ g _ _ from h1) 1 _, hB.trans (But.set _ _ _)⟩

set_option maxHeartbeats 1000000 in
theorem rd_bytes (g : Nat) (s : ByteArray) (a m : Int) (w : World) (h : Rdr w g s a) (hs : s.size ≤ 1048576) (ha2 : a ≤ 9223372036854775807) :
    Calls Try.prog 62 #[.pointer (some ⟨g, 0, none⟩), .int .i64 m] w fun e w' => e = .returned (.string (tAt s a m)) ∧ Rdr w' g s (wrap64 (a + m)) ∧ But g w w' := by
  have c0 := Cel.cell (show Cel _ g _ _ from h) 0
  have c1 := Cel.cell (show Cel _ g _ _ from h) 1
  have cn := fun W => impl_tAt s a m W hs ha2
  generalize tAt s a m = x at *
  clear hs ha2
  have S0 := rdr_drew h (But.refl g w)
  clear h
  go_enter Try.func62, Try.ntmps62
  go_wp2_with (fail)
  go_region_held3 (fun W => W.cell? ⟨g, 0, none⟩ = some (.string s) ∧ W.cell? ⟨g, 1, none⟩ = some (.int .i64 a) ∧ Rdr W g s a ∧ But g w W)
    (first | exact S0 | exact rdr_keep (by assumption) (by assumption) | go_keep)
    (first
      | (go_at_call 42; (with_reducible refine (cn _).mono ?_); rintro e w1 ⟨ok, rfl, hb⟩))
  have S1 : w1.cell? ⟨g, 0, none⟩ = some (.string s) ∧ w1.cell? ⟨g, 1, none⟩ = some (.int .i64 a) ∧ Rdr w1 g s a ∧ But g w w1 := by assumption
  obtain ⟨k0, k1, h1, hB⟩ := S1
  have hf := Cel.frozen (show Cel _ g _ _ from h1) 1
  clear c0 c1 cn S0 hb
  go_wp2_with (fail)
  go_ret
  exact ⟨rfl, Cel.set (show Cel _ g _ _ from h1) 1 _, hB.trans (But.set _ _ _)⟩

set_option maxHeartbeats 1000000 in
theorem rd_flag (g : Nat) (s : ByteArray) (a : Int) (w : World) (h : Rdr w g s a) (hs : s.size ≤ 1048576) (ha2 : a ≤ 9223372036854775807) :
    Calls Try.prog 63 #[.pointer (some ⟨g, 0, none⟩)] w fun e w' => e = .returned (.bool (nAt s a 1 == 1)) ∧ Rdr w' g s (wrap64 (a + 1)) ∧ But g w w' := by
  have cn := rd_number g s a 1 w h hs ha2 (by decide) (by decide)
  generalize nAt s a 1 = x at *
  clear hs ha2
  go_enter Try.func63, Try.ntmps63
  go_wp2_with (fail)
  with_reducible refine cn.mono ?_
  rintro e w1 ⟨rfl, h1, hb⟩
  go_wp2_with (fail)
  go_ret
  exact ⟨rfl, h1, hb⟩

theorem nAt_nz (s : ByteArray) (a m k : Int) (h : nAt s a m = k) (hk : k ≠ 0) : 0 ≤ a ∧ 0 ≤ m ∧ a + m ≤ (s.size : Int) := by
  by_cases hp : 0 ≤ a ∧ 0 ≤ m ∧ a + m ≤ (s.size : Int)
  · exact hp
  · unfold nAt at h
    rw [if_neg hp] at h
    exact absurd h.symm hk
theorem nAt_byte (s : ByteArray) (a : Int) : ∃ n : Nat, n ≤ 255 ∧ nAt s a 1 = (n : Int) := by
  by_cases hp : 0 ≤ a ∧ (0 : Int) ≤ 1 ∧ a + 1 ≤ (s.size : Int)
  · refine ⟨natAt s a 1, ?_, nAt_yes s a 1 hp⟩
    have h1 := part_size s a 1 hp
    have h2 := numOf_lt (s.extract a.toNat (a + 1).toNat).data.toList
    have h3 : (s.extract a.toNat (a + 1).toNat).data.toList.length = 1 := by rw [Array.length_toList]; exact h1
    rw [h3] at h2
    unfold natAt
    omega
  · exact ⟨0, by omega, nAt_no s a 1 hp⟩
attribute [irreducible] nAt tAt
end Go.Proofs.Ytkpajakangaekab

namespace Go.Proofs.Ytkpajakangaekab
open Go.RowKit

theorem But.rd {g : Nat} {w w' : World} {v : Value} {zs : List Int} (hb : But g w w') (hv : Rd w v zs) (hg : ∀ a c k, 0 < k → v = .slice a k c → ∀ ad, a = some ad → ad.block ≠ g) : Rd w' v zs := by
  obtain ⟨a, c, rfl, h⟩ := hv
  refine ⟨a, c, rfl, fun h0 => ?_⟩
  obtain ⟨b, off, rfl, hc⟩ := h h0
  refine ⟨b, off, rfl, fun j hj => ?_⟩
  have hlt := World.block_lt_of_cell? _ _ (hc j hj)
  have hne : b ≠ g := hg _ _ zs.length h0 rfl ⟨b, off, none⟩ rfl
  have h2 := hb.at_ b hne hlt
  rw [← hc j hj]
  unfold World.cell?
  rw [h2]

theorem rd_num (g : Nat) (s : ByteArray) (a m b : Int) (w : World) (h : Rdr w g s a) (hs : s.size ≤ 1048576) (ha : 0 ≤ a ∧ a ≤ 2097152) (h1 : 1 ≤ m) (h6 : m ≤ 6) (hb : a + m = b) :
    Calls Try.prog 61 #[.pointer (some ⟨g, 0, none⟩), .int .i64 m] w fun e w' => e = .returned (.int .i64 (nAt s a m)) ∧ Rdr w' g s b ∧ But g w w' := by
  have h2 := rd_number g s a m w h hs (by omega) h1 h6
  rw [IntWalk.wrap64_in _ (by omega), hb] at h2
  exact h2
theorem rd_text (g : Nat) (s : ByteArray) (a m b : Int) (w : World) (h : Rdr w g s a) (hs : s.size ≤ 1048576) (ha : 0 ≤ a ∧ a ≤ 2097152) (hm : 0 ≤ m ∧ m ≤ 20) (hb : a + m = b) :
    Calls Try.prog 62 #[.pointer (some ⟨g, 0, none⟩), .int .i64 m] w fun e w' => e = .returned (.string (tAt s a m)) ∧ Rdr w' g s b ∧ But g w w' := by
  have h2 := rd_bytes g s a m w h hs (by omega)
  rw [IntWalk.wrap64_in _ (by omega), hb] at h2
  exact h2
theorem rd_flg (g : Nat) (s : ByteArray) (a b : Int) (w : World) (h : Rdr w g s a) (hs : s.size ≤ 1048576) (ha : 0 ≤ a ∧ a ≤ 2097152) (hb : a + 1 = b) :
    Calls Try.prog 63 #[.pointer (some ⟨g, 0, none⟩)] w fun e w' => e = .returned (.bool (nAt s a 1 == 1)) ∧ Rdr w' g s b ∧ But g w w' := by
  have h2 := rd_flag g s a w h hs (by omega)
  rw [IntWalk.wrap64_in _ (by omega), hb] at h2
  exact h2



def rdo1 (s : ByteArray) (a : Int) : Ov := { Ov.zero with kind := 1, key := tAt s (a + 2) 8 }
set_option maxHeartbeats 1000000 in
theorem opt_1 (g : Nat) (s : ByteArray) (a : Int) (w : World) (h : Rdr w g s a) (hs : s.size ≤ 1048576) (hk : nAt s a 1 = 1) :
    Calls Try.prog 41 #[.pointer (some ⟨g, 0, none⟩)] w fun e w' => e = .returned (.iface 85 (.agg #[.string (tAt s (a + 2) 8)])) ∧ But g w w' := by
  have ha := nAt_nz s a 1 _ hk (by decide)
  have c0 := rd_num g s a 1 (a + 1) w h hs (by omega) (by decide) (by decide) rfl
  rw [hk] at c0
  clear hk h
  go_enter Try.func41, Try.ntmps41
  go_wp2_with (fail)
  with_reducible refine c0.mono ?_
  rintro e w1 ⟨rfl, h, B⟩
  clear c0
  go_wp2_with (fail)
  with_reducible refine (rd_num g s (a + 1) 1 (a + 2) _ h hs (by omega) (by decide) (by decide) (by omega)).mono ?_
  rintro e w2 ⟨rfl, h2, B2⟩
  have B := B.trans B2
  have h := h2
  clear B2 h2
  go_wp2_with (fail)

  with_reducible refine (rd_text g s (a + 2) 8 (a + 10) _ h hs (by omega) (by decide) (by omega)).mono ?_
  rintro e w3 ⟨rfl, h2, B2⟩
  have B := B.trans B2
  have h := h2
  clear B2 h2
  go_wp2_with (fail)
  go_ret
  exact ⟨rfl, B⟩


def rdo2 (s : ByteArray) (a : Int) : Ov := { Ov.zero with kind := 2, id := nAt s (a + 2) 1, flag := (nAt s (a + 3) 1 == 1), token := nAt s (a + 4) 4, nonce := nAt s (a + 8) 4 }
set_option maxHeartbeats 1000000 in
theorem opt_2 (g : Nat) (s : ByteArray) (a : Int) (w : World) (h : Rdr w g s a) (hs : s.size ≤ 1048576) (hk : nAt s a 1 = 2) :
    Calls Try.prog 41 #[.pointer (some ⟨g, 0, none⟩)] w fun e w' => e = .returned (.iface 87 (.agg #[.int .i64 (nAt s (a + 2) 1), .bool (nAt s (a + 3) 1 == 1), .int .i64 (nAt s (a + 4) 4), .int .i64 (nAt s (a + 8) 4)])) ∧ But g w w' := by
  have ha := nAt_nz s a 1 _ hk (by decide)
  have c0 := rd_num g s a 1 (a + 1) w h hs (by omega) (by decide) (by decide) rfl
  rw [hk] at c0
  clear hk h
  go_enter Try.func41, Try.ntmps41
  go_wp2_with (fail)
  with_reducible refine c0.mono ?_
  rintro e w1 ⟨rfl, h, B⟩
  clear c0
  go_wp2_with (fail)
  with_reducible refine (rd_num g s (a + 1) 1 (a + 2) _ h hs (by omega) (by decide) (by decide) (by omega)).mono ?_
  rintro e w2 ⟨rfl, h2, B2⟩
  have B := B.trans B2
  have h := h2
  clear B2 h2
  go_wp2_with (fail)

  with_reducible refine (rd_num g s (a + 2) 1 (a + 3) _ h hs (by omega) (by decide) (by decide) (by omega)).mono ?_
  rintro e w3 ⟨rfl, h2, B2⟩
  have B := B.trans B2
  have h := h2
  clear B2 h2
  go_wp2_with (fail)
  with_reducible refine (rd_flg g s (a + 3) (a + 4) _ h hs (by omega) (by omega)).mono ?_
  rintro e w4 ⟨rfl, h2, B2⟩
  have B := B.trans B2
  have h := h2
  clear B2 h2
  go_wp2_with (fail)
  with_reducible refine (rd_num g s (a + 4) 4 (a + 8) _ h hs (by omega) (by decide) (by decide) (by omega)).mono ?_
  rintro e w5 ⟨rfl, h2, B2⟩
  have B := B.trans B2
  have h := h2
  clear B2 h2
  go_wp2_with (fail)
  with_reducible refine (rd_num g s (a + 8) 4 (a + 12) _ h hs (by omega) (by decide) (by decide) (by omega)).mono ?_
  rintro e w6 ⟨rfl, h2, B2⟩
  have B := B.trans B2
  have h := h2
  clear B2 h2
  go_wp2_with (fail)
  go_ret
  exact ⟨rfl, B⟩


def rdo3 (s : ByteArray) (a : Int) : Ov := { Ov.zero with kind := 3, id := nAt s (a + 2) 1, flag := (nAt s (a + 3) 1 == 1), mark := tAt s (a + 4) 8, nonce := nAt s (a + 12) 4 }
set_option maxHeartbeats 1000000 in
theorem opt_3 (g : Nat) (s : ByteArray) (a : Int) (w : World) (h : Rdr w g s a) (hs : s.size ≤ 1048576) (hk : nAt s a 1 = 3) :
    Calls Try.prog 41 #[.pointer (some ⟨g, 0, none⟩)] w fun e w' => e = .returned (.iface 89 (.agg #[.int .i64 (nAt s (a + 2) 1), .bool (nAt s (a + 3) 1 == 1), .string (tAt s (a + 4) 8), .int .i64 (nAt s (a + 12) 4)])) ∧ But g w w' := by
  have ha := nAt_nz s a 1 _ hk (by decide)
  have c0 := rd_num g s a 1 (a + 1) w h hs (by omega) (by decide) (by decide) rfl
  rw [hk] at c0
  clear hk h
  go_enter Try.func41, Try.ntmps41
  go_wp2_with (fail)
  with_reducible refine c0.mono ?_
  rintro e w1 ⟨rfl, h, B⟩
  clear c0
  go_wp2_with (fail)
  with_reducible refine (rd_num g s (a + 1) 1 (a + 2) _ h hs (by omega) (by decide) (by decide) (by omega)).mono ?_
  rintro e w2 ⟨rfl, h2, B2⟩
  have B := B.trans B2
  have h := h2
  clear B2 h2
  go_wp2_with (fail)

  with_reducible refine (rd_num g s (a + 2) 1 (a + 3) _ h hs (by omega) (by decide) (by decide) (by omega)).mono ?_
  rintro e w3 ⟨rfl, h2, B2⟩
  have B := B.trans B2
  have h := h2
  clear B2 h2
  go_wp2_with (fail)
  with_reducible refine (rd_flg g s (a + 3) (a + 4) _ h hs (by omega) (by omega)).mono ?_
  rintro e w4 ⟨rfl, h2, B2⟩
  have B := B.trans B2
  have h := h2
  clear B2 h2
  go_wp2_with (fail)
  with_reducible refine (rd_text g s (a + 4) 8 (a + 12) _ h hs (by omega) (by decide) (by omega)).mono ?_
  rintro e w5 ⟨rfl, h2, B2⟩
  have B := B.trans B2
  have h := h2
  clear B2 h2
  go_wp2_with (fail)
  with_reducible refine (rd_num g s (a + 12) 4 (a + 16) _ h hs (by omega) (by decide) (by decide) (by omega)).mono ?_
  rintro e w6 ⟨rfl, h2, B2⟩
  have B := B.trans B2
  have h := h2
  clear B2 h2
  go_wp2_with (fail)
  go_ret
  exact ⟨rfl, B⟩


def rdo4 (s : ByteArray) (a : Int) : Ov := { Ov.zero with kind := 4, mark := tAt s (a + 2) 20 }
set_option maxHeartbeats 1000000 in
theorem opt_4 (g : Nat) (s : ByteArray) (a : Int) (w : World) (h : Rdr w g s a) (hs : s.size ≤ 1048576) (hk : nAt s a 1 = 4) :
    Calls Try.prog 41 #[.pointer (some ⟨g, 0, none⟩)] w fun e w' => e = .returned (.iface 91 (.agg #[.string (tAt s (a + 2) 20)])) ∧ But g w w' := by
  have ha := nAt_nz s a 1 _ hk (by decide)
  have c0 := rd_num g s a 1 (a + 1) w h hs (by omega) (by decide) (by decide) rfl
  rw [hk] at c0
  clear hk h
  go_enter Try.func41, Try.ntmps41
  go_wp2_with (fail)
  with_reducible refine c0.mono ?_
  rintro e w1 ⟨rfl, h, B⟩
  clear c0
  go_wp2_with (fail)
  with_reducible refine (rd_num g s (a + 1) 1 (a + 2) _ h hs (by omega) (by decide) (by decide) (by omega)).mono ?_
  rintro e w2 ⟨rfl, h2, B2⟩
  have B := B.trans B2
  have h := h2
  clear B2 h2
  go_wp2_with (fail)

  with_reducible refine (rd_text g s (a + 2) 20 (a + 22) _ h hs (by omega) (by decide) (by omega)).mono ?_
  rintro e w3 ⟨rfl, h2, B2⟩
  have B := B.trans B2
  have h := h2
  clear B2 h2
  go_wp2_with (fail)
  go_ret
  exact ⟨rfl, B⟩


def rdo5 (s : ByteArray) (a : Int) : Ov := { Ov.zero with kind := 5, ack := nAt s (a + 2) 6, seq := nAt s (a + 8) 6, sub := nAt s (a + 14) 4, len := nAt s (a + 18) 2 }
set_option maxHeartbeats 1000000 in
theorem opt_5 (g : Nat) (s : ByteArray) (a : Int) (w : World) (h : Rdr w g s a) (hs : s.size ≤ 1048576) (hk : nAt s a 1 = 5) :
    Calls Try.prog 41 #[.pointer (some ⟨g, 0, none⟩)] w fun e w' => e = .returned (.iface 93 (.agg #[.int .i64 (nAt s (a + 2) 6), .int .i64 (nAt s (a + 8) 6), .int .i64 (nAt s (a + 14) 4), .int .i64 (nAt s (a + 18) 2)])) ∧ But g w w' := by
  have ha := nAt_nz s a 1 _ hk (by decide)
  have c0 := rd_num g s a 1 (a + 1) w h hs (by omega) (by decide) (by decide) rfl
  rw [hk] at c0
  clear hk h
  go_enter Try.func41, Try.ntmps41
  go_wp2_with (fail)
  with_reducible refine c0.mono ?_
  rintro e w1 ⟨rfl, h, B⟩
  clear c0
  go_wp2_with (fail)
  with_reducible refine (rd_num g s (a + 1) 1 (a + 2) _ h hs (by omega) (by decide) (by decide) (by omega)).mono ?_
  rintro e w2 ⟨rfl, h2, B2⟩
  have B := B.trans B2
  have h := h2
  clear B2 h2
  go_wp2_with (fail)

  with_reducible refine (rd_num g s (a + 2) 6 (a + 8) _ h hs (by omega) (by decide) (by decide) (by omega)).mono ?_
  rintro e w3 ⟨rfl, h2, B2⟩
  have B := B.trans B2
  have h := h2
  clear B2 h2
  go_wp2_with (fail)
  with_reducible refine (rd_num g s (a + 8) 6 (a + 14) _ h hs (by omega) (by decide) (by decide) (by omega)).mono ?_
  rintro e w4 ⟨rfl, h2, B2⟩
  have B := B.trans B2
  have h := h2
  clear B2 h2
  go_wp2_with (fail)
  with_reducible refine (rd_num g s (a + 14) 4 (a + 18) _ h hs (by omega) (by decide) (by decide) (by omega)).mono ?_
  rintro e w5 ⟨rfl, h2, B2⟩
  have B := B.trans B2
  have h := h2
  clear B2 h2
  go_wp2_with (fail)
  with_reducible refine (rd_num g s (a + 18) 2 (a + 20) _ h hs (by omega) (by decide) (by decide) (by omega)).mono ?_
  rintro e w6 ⟨rfl, h2, B2⟩
  have B := B.trans B2
  have h := h2
  clear B2 h2
  go_wp2_with (fail)
  go_ret
  exact ⟨rfl, B⟩


def rdo6 (s : ByteArray) (a : Int) : Ov := { Ov.zero with kind := 6, id := nAt s (a + 2) 1, addr := nAt s (a + 3) 4, port := nAt s (a + 7) 2, mark := tAt s (a + 9) 8 }
set_option maxHeartbeats 1000000 in
theorem opt_6 (g : Nat) (s : ByteArray) (a : Int) (w : World) (h : Rdr w g s a) (hs : s.size ≤ 1048576) (hk : nAt s a 1 = 6) :
    Calls Try.prog 41 #[.pointer (some ⟨g, 0, none⟩)] w fun e w' => e = .returned (.iface 95 (.agg #[.int .i64 (nAt s (a + 2) 1), .int .i64 (nAt s (a + 3) 4), .int .i64 (nAt s (a + 7) 2), .string (tAt s (a + 9) 8)])) ∧ But g w w' := by
  have ha := nAt_nz s a 1 _ hk (by decide)
  have c0 := rd_num g s a 1 (a + 1) w h hs (by omega) (by decide) (by decide) rfl
  rw [hk] at c0
  clear hk h
  go_enter Try.func41, Try.ntmps41
  go_wp2_with (fail)
  with_reducible refine c0.mono ?_
  rintro e w1 ⟨rfl, h, B⟩
  clear c0
  go_wp2_with (fail)
  with_reducible refine (rd_num g s (a + 1) 1 (a + 2) _ h hs (by omega) (by decide) (by decide) (by omega)).mono ?_
  rintro e w2 ⟨rfl, h2, B2⟩
  have B := B.trans B2
  have h := h2
  clear B2 h2
  go_wp2_with (fail)

  with_reducible refine (rd_num g s (a + 2) 1 (a + 3) _ h hs (by omega) (by decide) (by decide) (by omega)).mono ?_
  rintro e w3 ⟨rfl, h2, B2⟩
  have B := B.trans B2
  have h := h2
  clear B2 h2
  go_wp2_with (fail)
  with_reducible refine (rd_num g s (a + 3) 4 (a + 7) _ h hs (by omega) (by decide) (by decide) (by omega)).mono ?_
  rintro e w4 ⟨rfl, h2, B2⟩
  have B := B.trans B2
  have h := h2
  clear B2 h2
  go_wp2_with (fail)
  with_reducible refine (rd_num g s (a + 7) 2 (a + 9) _ h hs (by omega) (by decide) (by decide) (by omega)).mono ?_
  rintro e w5 ⟨rfl, h2, B2⟩
  have B := B.trans B2
  have h := h2
  clear B2 h2
  go_wp2_with (fail)
  with_reducible refine (rd_text g s (a + 9) 8 (a + 17) _ h hs (by omega) (by decide) (by omega)).mono ?_
  rintro e w6 ⟨rfl, h2, B2⟩
  have B := B.trans B2
  have h := h2
  clear B2 h2
  go_wp2_with (fail)
  go_ret
  exact ⟨rfl, B⟩


def rdo7 (s : ByteArray) (a : Int) : Ov := { Ov.zero with kind := 7, id := nAt s (a + 2) 1, addr := nAt s (a + 3) 4, port := nAt s (a + 7) 2 }
set_option maxHeartbeats 1000000 in
theorem opt_7 (g : Nat) (s : ByteArray) (a : Int) (w : World) (h : Rdr w g s a) (hs : s.size ≤ 1048576) (hk : nAt s a 1 = 7) :
    Calls Try.prog 41 #[.pointer (some ⟨g, 0, none⟩)] w fun e w' => e = .returned (.iface 97 (.agg #[.int .i64 (nAt s (a + 2) 1), .int .i64 (nAt s (a + 3) 4), .int .i64 (nAt s (a + 7) 2)])) ∧ But g w w' := by
  have ha := nAt_nz s a 1 _ hk (by decide)
  have c0 := rd_num g s a 1 (a + 1) w h hs (by omega) (by decide) (by decide) rfl
  rw [hk] at c0
  clear hk h
  go_enter Try.func41, Try.ntmps41
  go_wp2_with (fail)
  with_reducible refine c0.mono ?_
  rintro e w1 ⟨rfl, h, B⟩
  clear c0
  go_wp2_with (fail)
  with_reducible refine (rd_num g s (a + 1) 1 (a + 2) _ h hs (by omega) (by decide) (by decide) (by omega)).mono ?_
  rintro e w2 ⟨rfl, h2, B2⟩
  have B := B.trans B2
  have h := h2
  clear B2 h2
  go_wp2_with (fail)

  with_reducible refine (rd_num g s (a + 2) 1 (a + 3) _ h hs (by omega) (by decide) (by decide) (by omega)).mono ?_
  rintro e w3 ⟨rfl, h2, B2⟩
  have B := B.trans B2
  have h := h2
  clear B2 h2
  go_wp2_with (fail)
  with_reducible refine (rd_num g s (a + 3) 4 (a + 7) _ h hs (by omega) (by decide) (by decide) (by omega)).mono ?_
  rintro e w4 ⟨rfl, h2, B2⟩
  have B := B.trans B2
  have h := h2
  clear B2 h2
  go_wp2_with (fail)
  with_reducible refine (rd_num g s (a + 7) 2 (a + 9) _ h hs (by omega) (by decide) (by decide) (by omega)).mono ?_
  rintro e w5 ⟨rfl, h2, B2⟩
  have B := B.trans B2
  have h := h2
  clear B2 h2
  go_wp2_with (fail)
  go_ret
  exact ⟨rfl, B⟩


def rdo9 (s : ByteArray) (a : Int) : Ov := { Ov.zero with kind := 9, seq := nAt s (a + 2) 6 }
set_option maxHeartbeats 1000000 in
theorem opt_9 (g : Nat) (s : ByteArray) (a : Int) (w : World) (h : Rdr w g s a) (hs : s.size ≤ 1048576) (hk : nAt s a 1 = 9) :
    Calls Try.prog 41 #[.pointer (some ⟨g, 0, none⟩)] w fun e w' => e = .returned (.iface 101 (.agg #[.int .i64 (nAt s (a + 2) 6)])) ∧ But g w w' := by
  have ha := nAt_nz s a 1 _ hk (by decide)
  have c0 := rd_num g s a 1 (a + 1) w h hs (by omega) (by decide) (by decide) rfl
  rw [hk] at c0
  clear hk h
  go_enter Try.func41, Try.ntmps41
  go_wp2_with (fail)
  with_reducible refine c0.mono ?_
  rintro e w1 ⟨rfl, h, B⟩
  clear c0
  go_wp2_with (fail)
  with_reducible refine (rd_num g s (a + 1) 1 (a + 2) _ h hs (by omega) (by decide) (by decide) (by omega)).mono ?_
  rintro e w2 ⟨rfl, h2, B2⟩
  have B := B.trans B2
  have h := h2
  clear B2 h2
  go_wp2_with (fail)

  with_reducible refine (rd_num g s (a + 2) 6 (a + 8) _ h hs (by omega) (by decide) (by decide) (by omega)).mono ?_
  rintro e w3 ⟨rfl, h2, B2⟩
  have B := B.trans B2
  have h := h2
  clear B2 h2
  go_wp2_with (fail)
  go_ret
  exact ⟨rfl, B⟩


def rdo10 (s : ByteArray) (a : Int) : Ov := { Ov.zero with kind := 10, key := tAt s (a + 2) 8 }
set_option maxHeartbeats 1000000 in
theorem opt_10 (g : Nat) (s : ByteArray) (a : Int) (w : World) (h : Rdr w g s a) (hs : s.size ≤ 1048576) (hk : nAt s a 1 = 10) :
    Calls Try.prog 41 #[.pointer (some ⟨g, 0, none⟩)] w fun e w' => e = .returned (.iface 102 (.agg #[.string (tAt s (a + 2) 8)])) ∧ But g w w' := by
  have ha := nAt_nz s a 1 _ hk (by decide)
  have c0 := rd_num g s a 1 (a + 1) w h hs (by omega) (by decide) (by decide) rfl
  rw [hk] at c0
  clear hk h
  go_enter Try.func41, Try.ntmps41
  go_wp2_with (fail)
  with_reducible refine c0.mono ?_
  rintro e w1 ⟨rfl, h, B⟩
  clear c0
  go_wp2_with (fail)
  with_reducible refine (rd_num g s (a + 1) 1 (a + 2) _ h hs (by omega) (by decide) (by decide) (by omega)).mono ?_
  rintro e w2 ⟨rfl, h2, B2⟩
  have B := B.trans B2
  have h := h2
  clear B2 h2
  go_wp2_with (fail)

  with_reducible refine (rd_text g s (a + 2) 8 (a + 10) _ h hs (by omega) (by decide) (by omega)).mono ?_
  rintro e w3 ⟨rfl, h2, B2⟩
  have B := B.trans B2
  have h := h2
  clear B2 h2
  go_wp2_with (fail)
  go_ret
  exact ⟨rfl, B⟩

end Go.Proofs.Ytkpajakangaekab

namespace Go.Proofs.Ytkpajakangaekab
open Go.RowKit

def idsAt (s : ByteArray) (a : Int) (n : Nat) : List Int := (List.range n).map fun (j : Nat) => nAt s (a + (j : Int)) 1
theorem idsAt_length (s : ByteArray) (a : Int) (n : Nat) : (idsAt s a n).length = n := by simp [idsAt]

theorem IRow.none {W : World} {B C : Nat} : IRow W B C (.slice none 0 0) [] := ⟨⟨rfl, .inl ⟨rfl, rfl⟩⟩, fun g hg => by simp [Value.ownBlock] at hg⟩

theorem But.high {g p i : Nat} {w W : World} {v : Value} (hb : But g w W) (hg : g < w.heap.size) (hp : w.heap.size ≤ p) : But g w (W.setCell ⟨p, i, none⟩ v) :=
  ⟨hb.bl.setCell (p := ⟨p, i, none⟩) (by show g ≤ p; omega) _, by simpa using hb.size, fun k hk hl => (Below.heap_setCell _ _ _ _ (show k ≠ p by omega)).trans (hb.at_ k hk hl)⟩
theorem But.alloc {g : Nat} {w W : World} (hb : But g w W) (hg : g < w.heap.size) (o : Obj) : But g w (W.alloc o) :=
  ⟨hb.bl.alloc (Nat.le_trans (Nat.le_of_lt hg) hb.size) o, Nat.le_trans hb.size (by simp), fun k hk hl => (Below.heap_alloc _ _ _ (Nat.lt_of_lt_of_le hl hb.size)).trans (hb.at_ k hk hl)⟩

theorem But.iblk {g p : Nat} {w W : World} {d : Array Int} (hb : But g w W) (h : IBlk w p d) (hp : p ≠ g) : IBlk W p d := by
  show W.heap[p]? = _
  rw [hb.at_ p hp h.lt]; exact h

set_option maxHeartbeats 1000000 in
set_option maxRecDepth 100000 in
theorem rd_ids (g : Nat) (s : ByteArray) (a : Int) (n : Nat) (w : World) (h : Rdr w g s a) (hs : s.size ≤ 1048576) (ha : 0 ≤ a ∧ a ≤ 1048580) (hn : n ≤ 1000) :
    Calls Try.prog 64 #[.pointer (some ⟨g, 0, none⟩), .int .i64 (n : Int)] w fun e w' => e = .returned (.slice (some ⟨w.heap.size, 0, none⟩) n n) ∧ IBlk w' w.heap.size (idsAt s a n).toArray ∧ But g w w' := by
  have hmk := make_ints n (by omega) w
  have hgl := Cel.lt (show Cel _ g _ _ from h)
  have hB : But g w (w.alloc (.cells ((Array.replicate n (0 : Int)).map (Value.int .i64)) 3)) := (But.refl g w).alloc hgl _
  have hi := alloc_iblk w (Array.replicate n (0 : Int))
  have hR : Rdr (w.alloc (.cells ((Array.replicate n (0 : Int)).map (Value.int .i64)) 3)) g s a := Cel.alloc (show Cel _ g _ _ from h) _
  generalize w.alloc (.cells ((Array.replicate n (0 : Int)).map (Value.int .i64)) 3) = W1 at hmk hB hi hR
  obtain ⟨p, hp⟩ : ∃ p, w.heap.size = p := ⟨_, rfl⟩
  rw [hp] at hmk hi ⊢
  go_enter Try.func64, Try.ntmps64
  go_wp2_with (fail)
  go_loopw [11] (fun i wr => ∃ k : Nat, k ≤ n ∧ i = .int .i64 k ∧ (∃ d : Array Int, d.size = n ∧ (∀ j, j < k → d[j]! = nAt s (a + (j : Int)) 1) ∧ IBlk wr p d) ∧ Rdr wr g s (a + k) ∧ But g w wr) (fun i _ => n - (intOf i).toNat)
  case atStart => exact ⟨0, by omega, rfl, ⟨_, by simp, fun j h => by omega, hi⟩, by simpa using hR, hB⟩
  case round =>
    clear hi hB hmk hR h
    obtain ⟨k, hk, rfl, ⟨d, hd, hdj, hi⟩, hR, hB⟩ := hrel
    by_cases hlt : k < n
    · have q : (0 : Int) ≤ (k : Int) ∧ (k : Int) < (n : Int) := by omega
      have cn := rd_num g s (a + k) 1 (a + (k + 1 : Nat)) wr hR hs (by omega) (by decide) (by decide) (by omega)
      obtain ⟨x, hx⟩ : ∃ x, nAt s (a + (k : Int)) 1 = x := ⟨_, rfl⟩
      rw [hx] at cn
      clear hR
      go_wp2_with (fail)
      with_reducible refine cn.mono ?_
      rintro e w3 ⟨rfl, hR, hb3⟩
      have hi3 := hb3.iblk hi (by omega)
      have hB3 := hB.trans hb3
      have hf := hi3.frozen k
      have h2 := hi3.cell k (by omega)
      generalize d[k]! = y at h2
      clear hi hB hb3 cn
      go_wp2_with (fail)
      go_roundw
      case rel =>
        refine ⟨k + 1, by omega, by go_num, ⟨d.setIfInBounds k x, by simp [hd], fun j hj => ?_, hi3.set k x⟩, Cel.other (show Cel _ g _ _ from hR) _ _ (show g ≠ p by omega), hB3.high hgl (by omega)⟩
        by_cases hjk2 : j = k
        · subst hjk2
          rw [getElem!_pos _ _ (by simp [hd]; omega), Array.getElem_setIfInBounds, if_pos rfl, hx]
          simp [hd]; omega
        · rw [getElem!_pos _ _ (by simp [hd]; omega), Array.getElem_setIfInBounds, if_neg (by omega), ← hdj j (by omega), getElem!_pos _ _ (by rw [hd]; omega)]
      case measure => simp [intOf]; omega
    · obtain rfl : k = n := by omega
      have hdz : d.toList = idsAt s a k := by
        apply List.ext_getElem
        · simp [hd, idsAt_length]
        · intro j h1 h2
          have hj : j < k := by rw [idsAt_length] at h2; exact h2
          have := hdj j hj
          rw [getElem!_pos _ _ (by rw [hd]; exact hj)] at this
          simpa [idsAt] using this
      rw [show d = (idsAt s a k).toArray by rw [← hdz]] at hi
      clear hR hdj
      go_wp2_with (fail)
      go_ret
      exact ⟨rfl, hi, hB⟩
end Go.Proofs.Ytkpajakangaekab

namespace Go.Proofs.Ytkpajakangaekab
open Go.RowKit

def rdo8 (s : ByteArray) (a : Int) : Ov := { Ov.zero with kind := 8, ids := idsAt s (a + 2) (nAt s (a + 1) 1).toNat }

set_option maxHeartbeats 1000000 in
theorem opt_8 (g : Nat) (s : ByteArray) (a : Int) (w : World) (h : Rdr w g s a) (hs : s.size ≤ 1048576) (hk : nAt s a 1 = 8) :
    Calls Try.prog 41 #[.pointer (some ⟨g, 0, none⟩)] w fun e w' => ∃ p c, e = .returned (.iface 99 (.agg #[.slice (some ⟨p, 0, none⟩) (rdo8 s a).ids.length c])) ∧ IRow w' w.heap.size w'.heap.size (.slice (some ⟨p, 0, none⟩) (rdo8 s a).ids.length c) (rdo8 s a).ids ∧ But g w w' := by
  have ha := nAt_nz s a 1 _ hk (by decide)
  have c0 := rd_num g s a 1 (a + 1) w h hs (by omega) (by decide) (by decide) rfl
  rw [hk] at c0
  obtain ⟨n, hn, en⟩ := nAt_byte s (a + 1)
  have hids : (rdo8 s a).ids = idsAt s (a + 2) n := by unfold rdo8; rw [en]; rfl
  have hlen : (rdo8 s a).ids.length = n := by rw [hids, idsAt_length]
  rw [hlen, hids]
  clear hk h hlen hids
  go_enter Try.func41, Try.ntmps41
  go_wp2_with (fail)
  with_reducible refine c0.mono ?_
  rintro e w1 ⟨rfl, h, B⟩
  clear c0
  go_wp2_with (fail)
  have c1 := rd_num g s (a + 1) 1 (a + 2) _ h hs (by omega) (by decide) (by decide) (by omega)
  rw [en] at c1
  with_reducible refine c1.mono ?_
  rintro e w2 ⟨rfl, h2, B2⟩
  have B := B.trans B2
  have h := h2
  clear B2 h2 c1
  go_wp2_with (fail)
  with_reducible refine (rd_ids g s (a + 2) n _ h hs (by omega) (by omega)).mono ?_
  rintro e w3 ⟨rfl, hi, B2⟩
  have hws := B.size
  have B := B.trans B2
  go_wp2_with (fail)
  go_ret
  have hr := hi.irow (by rw [idsAt_length]; omega) hws hi.lt
  rw [idsAt_length] at hr
  exact ⟨_, _, rfl, hr, B⟩

theorem wrap64_le (n : Int) : wrap64 n ≤ 9223372036854775807 := by unfold wrap64; omega

set_option maxHeartbeats 1000000 in
theorem opt_0 (g : Nat) (s : ByteArray) (a : Int) (w : World) (h : Rdr w g s a) (hs : s.size ≤ 1048576) (ha : a ≤ 9223372036854775807) (hk : ¬ (1 ≤ nAt s a 1 ∧ nAt s a 1 ≤ 10)) :
    Calls Try.prog 41 #[.pointer (some ⟨g, 0, none⟩)] w fun e w' => e = .returned .nilIface ∧ But g w w' := by
  have c0 := rd_number g s a 1 w h hs ha (by decide) (by decide)
  generalize nAt s a 1 = x at *
  have q1 : ¬ x = 1 := by omega
  have q2 : ¬ x = 2 := by omega
  have q3 : ¬ x = 3 := by omega
  have q4 : ¬ x = 4 := by omega
  have q5 : ¬ x = 5 := by omega
  have q6 : ¬ x = 6 := by omega
  have q7 : ¬ x = 7 := by omega
  have q8 : ¬ x = 8 := by omega
  have q9 : ¬ x = 9 := by omega
  have q10 : ¬ x = 10 := by omega
  clear hk h
  go_enter Try.func41, Try.ntmps41
  go_wp2_with (fail)
  with_reducible refine c0.mono ?_
  rintro e w1 ⟨rfl, h, B⟩
  clear c0
  go_wp2_with (fail)
  with_reducible refine (rd_number g s _ 1 _ h hs (wrap64_le _) (by decide) (by decide)).mono ?_
  rintro e w2 ⟨rfl, h2, B2⟩
  have B := B.trans B2
  clear B2 h2 h
  go_wp2_with (fail)
  go_ret
  exact ⟨rfl, B⟩

/-- What the bytes at a say, field by field. -/
def rdo (s : ByteArray) (a : Int) : Ov := if nAt s a 1 = 1 then rdo1 s a else if nAt s a 1 = 2 then rdo2 s a else if nAt s a 1 = 3 then rdo3 s a else if nAt s a 1 = 4 then rdo4 s a else if nAt s a 1 = 5 then rdo5 s a else if nAt s a 1 = 6 then rdo6 s a else if nAt s a 1 = 7 then rdo7 s a else if nAt s a 1 = 8 then rdo8 s a else if nAt s a 1 = 9 then rdo9 s a else if nAt s a 1 = 10 then rdo10 s a else Ov.zero

theorem rdo_0 (s : ByteArray) (a : Int) (h : ¬ (1 ≤ nAt s a 1 ∧ nAt s a 1 ≤ 10)) : rdo s a = Ov.zero := by
  unfold rdo
  rw [if_neg (by omega)]
  rw [if_neg (by omega)]
  rw [if_neg (by omega)]
  rw [if_neg (by omega)]
  rw [if_neg (by omega)]
  rw [if_neg (by omega)]
  rw [if_neg (by omega)]
  rw [if_neg (by omega)]
  rw [if_neg (by omega)]
  rw [if_neg (by omega)]
theorem rdo_1 (s : ByteArray) (a : Int) (h : nAt s a 1 = 1) : rdo s a = rdo1 s a := by unfold rdo; simp [h]
theorem rdo_2 (s : ByteArray) (a : Int) (h : nAt s a 1 = 2) : rdo s a = rdo2 s a := by unfold rdo; simp [h]
theorem rdo_3 (s : ByteArray) (a : Int) (h : nAt s a 1 = 3) : rdo s a = rdo3 s a := by unfold rdo; simp [h]
theorem rdo_4 (s : ByteArray) (a : Int) (h : nAt s a 1 = 4) : rdo s a = rdo4 s a := by unfold rdo; simp [h]
theorem rdo_5 (s : ByteArray) (a : Int) (h : nAt s a 1 = 5) : rdo s a = rdo5 s a := by unfold rdo; simp [h]
theorem rdo_6 (s : ByteArray) (a : Int) (h : nAt s a 1 = 6) : rdo s a = rdo6 s a := by unfold rdo; simp [h]
theorem rdo_7 (s : ByteArray) (a : Int) (h : nAt s a 1 = 7) : rdo s a = rdo7 s a := by unfold rdo; simp [h]
theorem rdo_8 (s : ByteArray) (a : Int) (h : nAt s a 1 = 8) : rdo s a = rdo8 s a := by unfold rdo; simp [h]
theorem rdo_9 (s : ByteArray) (a : Int) (h : nAt s a 1 = 9) : rdo s a = rdo9 s a := by unfold rdo; simp [h]
theorem rdo_10 (s : ByteArray) (a : Int) (h : nAt s a 1 = 10) : rdo s a = rdo10 s a := by unfold rdo; simp [h]

theorem opt_read (g : Nat) (s : ByteArray) (a : Int) (w : World) (h : Rdr w g s a) (hs : s.size ≤ 1048576) (ha : a ≤ 9223372036854775807) :
    Calls Try.prog 41 #[.pointer (some ⟨g, 0, none⟩)] w fun e w' => ∃ X v, e = .returned X ∧ (∀ W, Calls Try.prog 31 #[X] W fun e W' => e = .returned (.agg ((rdo s a).cells v)) ∧ Below W.heap.size W W') ∧ IRow w' w.heap.size w'.heap.size v (rdo s a).ids ∧ But g w w' := by
  by_cases hk : 1 ≤ nAt s a 1 ∧ nAt s a 1 ≤ 10
  · have hc : nAt s a 1 = 1 ∨ nAt s a 1 = 2 ∨ nAt s a 1 = 3 ∨ nAt s a 1 = 4 ∨ nAt s a 1 = 5 ∨ nAt s a 1 = 6 ∨ nAt s a 1 = 7 ∨ nAt s a 1 = 8 ∨ nAt s a 1 = 9 ∨ nAt s a 1 = 10 := by omega
    rcases hc with hk | hk | hk | hk | hk | hk | hk | hk | hk | hk
    · rw [rdo_1 s a hk]
      refine (opt_1 g s a w h hs hk).mono ?_
      rintro e w' ⟨rfl, hb⟩
      exact ⟨_, _, rfl, fun W => plo_1 (rdo1 s a) W, IRow.none, hb⟩
    · rw [rdo_2 s a hk]
      refine (opt_2 g s a w h hs hk).mono ?_
      rintro e w' ⟨rfl, hb⟩
      exact ⟨_, _, rfl, fun W => plo_2 (rdo2 s a) W, IRow.none, hb⟩
    · rw [rdo_3 s a hk]
      refine (opt_3 g s a w h hs hk).mono ?_
      rintro e w' ⟨rfl, hb⟩
      exact ⟨_, _, rfl, fun W => plo_3 (rdo3 s a) W, IRow.none, hb⟩
    · rw [rdo_4 s a hk]
      refine (opt_4 g s a w h hs hk).mono ?_
      rintro e w' ⟨rfl, hb⟩
      exact ⟨_, _, rfl, fun W => plo_4 (rdo4 s a) W, IRow.none, hb⟩
    · rw [rdo_5 s a hk]
      refine (opt_5 g s a w h hs hk).mono ?_
      rintro e w' ⟨rfl, hb⟩
      exact ⟨_, _, rfl, fun W => plo_5 (rdo5 s a) W, IRow.none, hb⟩
    · rw [rdo_6 s a hk]
      refine (opt_6 g s a w h hs hk).mono ?_
      rintro e w' ⟨rfl, hb⟩
      exact ⟨_, _, rfl, fun W => plo_6 (rdo6 s a) W, IRow.none, hb⟩
    · rw [rdo_7 s a hk]
      refine (opt_7 g s a w h hs hk).mono ?_
      rintro e w' ⟨rfl, hb⟩
      exact ⟨_, _, rfl, fun W => plo_7 (rdo7 s a) W, IRow.none, hb⟩
    · rw [rdo_8 s a hk]
      refine (opt_8 g s a w h hs hk).mono ?_
      rintro e w' ⟨p, c, rfl, hr, hb⟩
      exact ⟨_, _, rfl, fun W => plo_8 (rdo8 s a) _ _ _ W, hr, hb⟩
    · rw [rdo_9 s a hk]
      refine (opt_9 g s a w h hs hk).mono ?_
      rintro e w' ⟨rfl, hb⟩
      exact ⟨_, _, rfl, fun W => plo_9 (rdo9 s a) W, IRow.none, hb⟩
    · rw [rdo_10 s a hk]
      refine (opt_10 g s a w h hs hk).mono ?_
      rintro e w' ⟨rfl, hb⟩
      exact ⟨_, _, rfl, fun W => plo_10 (rdo10 s a) W, IRow.none, hb⟩
  · rw [rdo_0 s a hk]
    refine (opt_0 g s a w h hs ha hk).mono ?_
    rintro e w' ⟨rfl, hb⟩
    exact ⟨_, _, rfl, fun W => plo_0 W, IRow.none, hb⟩
end Go.Proofs.Ytkpajakangaekab

