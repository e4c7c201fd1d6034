import Derived.Test.YtkpajakangaekabRdr
import Derived.Test.YtkpajakangaekabPlo
import Derived.Test.YtkpajakangaekabInts0
import Derived.Test.YtkpajakangaekabIntsL
namespace Go.Proofs.Ytkpajakangaekab
open Go.RowKit

theorem But.rd {g : Nat} {w w' : World} {v : Value} {zs : List Int} (hb : But g w w') (hv : Rd w v zs) (hg : ∀ a c k, 0 < k → v = .slice a k c → ∀ ad, a = some ad → ad.block ≠ g) : Rd w' v zs := by
  obtain ⟨a, c, rfl, h⟩ := hv
  refine ⟨a, c, rfl, fun h0 => ?_⟩
  obtain ⟨b, off, rfl, hc⟩ := h h0
  refine ⟨b, off, rfl, fun j hj => ?_⟩
  have hlt := World.block_lt_of_cell? _ _ (hc j hj)
  have hne : b ≠ g := hg _ _ zs.length h0 rfl ⟨b, off, none⟩ rfl
  have h2 := hb.at_ b hne hlt
  rw [← hc j hj]
  unfold World.cell?
  rw [h2]

theorem rd_num (g : Nat) (s : ByteArray) (a m b : Int) (w : World) (h : Rdr w g s a) (hs : s.size ≤ 1048576) (ha : 0 ≤ a ∧ a ≤ 2097152) (h1 : 1 ≤ m) (h6 : m ≤ 6) (hb : a + m = b) :
    Calls Try.prog 61 #[.pointer (some ⟨g, 0, none⟩), .int .i64 m] w fun e w' => e = .returned (.int .i64 (nAt s a m)) ∧ Rdr w' g s b ∧ But g w w' := by
  have h2 := rd_number g s a m w h hs (by omega) h1 h6
  rw [IntWalk.wrap64_in _ (by omega), hb] at h2
  exact h2
theorem rd_text (g : Nat) (s : ByteArray) (a m b : Int) (w : World) (h : Rdr w g s a) (hs : s.size ≤ 1048576) (ha : 0 ≤ a ∧ a ≤ 2097152) (hm : 0 ≤ m ∧ m ≤ 20) (hb : a + m = b) :
    Calls Try.prog 62 #[.pointer (some ⟨g, 0, none⟩), .int .i64 m] w fun e w' => e = .returned (.string (tAt s a m)) ∧ Rdr w' g s b ∧ But g w w' := by
  have h2 := rd_bytes g s a m w h hs (by omega)
  rw [IntWalk.wrap64_in _ (by omega), hb] at h2
  exact h2
theorem rd_flg (g : Nat) (s : ByteArray) (a b : Int) (w : World) (h : Rdr w g s a) (hs : s.size ≤ 1048576) (ha : 0 ≤ a ∧ a ≤ 2097152) (hb : a + 1 = b) :
    Calls Try.prog 63 #[.pointer (some ⟨g, 0, none⟩)] w fun e w' => e = .returned (.bool (nAt s a 1 == 1)) ∧ Rdr w' g s b ∧ But g w w' := by
  have h2 := rd_flag g s a w h hs (by omega)
  rw [IntWalk.wrap64_in _ (by omega), hb] at h2
  exact h2



def rdo1 (s : ByteArray) (a : Int) : Ov := { Ov.zero with kind := 1, key := tAt s (a + 2) 8 }
set_option maxHeartbeats 1000000 in
theorem opt_1 (g : Nat) (s : ByteArray) (a : Int) (w : World) (h : Rdr w g s a) (hs : s.size ≤ 1048576) (hk : nAt s a 1 = 1) :
    Calls Try.prog 41 #[.pointer (some ⟨g, 0, none⟩)] w fun e w' => e = .returned (.iface 85 (.agg #[.string (tAt s (a + 2) 8)])) ∧ But g w w' := by
  have ha := nAt_nz s a 1 _ hk (by decide)
  have c0 := rd_num g s a 1 (a + 1) w h hs (by omega) (by decide) (by decide) rfl
  rw [hk] at c0
  clear hk h
  go_enter Try.func41, Try.ntmps41
  go_wp2_with (fail)
  with_reducible refine c0.mono ?_
  rintro e w1 ⟨rfl, h, B⟩
  clear c0
  go_wp2_with (fail)
  with_reducible refine (rd_num g s (a + 1) 1 (a + 2) _ h hs (by omega) (by decide) (by decide) (by omega)).mono ?_
  rintro e w2 ⟨rfl, h2, B2⟩
  have B := B.trans B2
  have h := h2
  clear B2 h2
  go_wp2_with (fail)

  with_reducible refine (rd_text g s (a + 2) 8 (a + 10) _ h hs (by omega) (by decide) (by omega)).mono ?_
  rintro e w3 ⟨rfl, h2, B2⟩
  have B := B.trans B2
  have h := h2
  clear B2 h2
  go_wp2_with (fail)
  go_ret
  exact ⟨rfl, B⟩


def rdo2 (s : ByteArray) (a : Int) : Ov := { Ov.zero with kind := 2, id := nAt s (a + 2) 1, flag := (nAt s (a + 3) 1 == 1), token := nAt s (a + 4) 4, nonce := nAt s (a + 8) 4 }
set_option maxHeartbeats 1000000 in
theorem opt_2 (g : Nat) (s : ByteArray) (a : Int) (w : World) (h : Rdr w g s a) (hs : s.size ≤ 1048576) (hk : nAt s a 1 = 2) :
    Calls Try.prog 41 #[.pointer (some ⟨g, 0, none⟩)] w fun e w' => e = .returned (.iface 87 (.agg #[.int .i64 (nAt s (a + 2) 1), .bool (nAt s (a + 3) 1 == 1), .int .i64 (nAt s (a + 4) 4), .int .i64 (nAt s (a + 8) 4)])) ∧ But g w w' := by
  have ha := nAt_nz s a 1 _ hk (by decide)
  have c0 := rd_num g s a 1 (a + 1) w h hs (by omega) (by decide) (by decide) rfl
  rw [hk] at c0
  clear hk h
  go_enter Try.func41, Try.ntmps41
  go_wp2_with (fail)
  with_reducible refine c0.mono ?_
  rintro e w1 ⟨rfl, h, B⟩
  clear c0
  go_wp2_with (fail)
  with_reducible refine (rd_num g s (a + 1) 1 (a + 2) _ h hs (by omega) (by decide) (by decide) (by omega)).mono ?_
  rintro e w2 ⟨rfl, h2, B2⟩
  have B := B.trans B2
  have h := h2
  clear B2 h2
  go_wp2_with (fail)

  with_reducible refine (rd_num g s (a + 2) 1 (a + 3) _ h hs (by omega) (by decide) (by decide) (by omega)).mono ?_
  rintro e w3 ⟨rfl, h2, B2⟩
  have B := B.trans B2
  have h := h2
  clear B2 h2
  go_wp2_with (fail)
  with_reducible refine (rd_flg g s (a + 3) (a + 4) _ h hs (by omega) (by omega)).mono ?_
  rintro e w4 ⟨rfl, h2, B2⟩
  have B := B.trans B2
  have h := h2
  clear B2 h2
  go_wp2_with (fail)
  with_reducible refine (rd_num g s (a + 4) 4 (a + 8) _ h hs (by omega) (by decide) (by decide) (by omega)).mono ?_
  rintro e w5 ⟨rfl, h2, B2⟩
  have B := B.trans B2
  have h := h2
  clear B2 h2
  go_wp2_with (fail)
  with_reducible refine (rd_num g s (a + 8) 4 (a + 12) _ h hs (by omega) (by decide) (by decide) (by omega)).mono ?_
  rintro e w6 ⟨rfl, h2, B2⟩
  have B := B.trans B2
  have h := h2
  clear B2 h2
  go_wp2_with (fail)
  go_ret
  exact ⟨rfl, B⟩


def rdo3 (s : ByteArray) (a : Int) : Ov := { Ov.zero with kind := 3, id := nAt s (a + 2) 1, flag := (nAt s (a + 3) 1 == 1), mark := tAt s (a + 4) 8, nonce := nAt s (a + 12) 4 }
set_option maxHeartbeats 1000000 in
theorem opt_3 (g : Nat) (s : ByteArray) (a : Int) (w : World) (h : Rdr w g s a) (hs : s.size ≤ 1048576) (hk : nAt s a 1 = 3) :
    Calls Try.prog 41 #[.pointer (some ⟨g, 0, none⟩)] w fun e w' => e = .returned (.iface 89 (.agg #[.int .i64 (nAt s (a + 2) 1), .bool (nAt s (a + 3) 1 == 1), .string (tAt s (a + 4) 8), .int .i64 (nAt s (a + 12) 4)])) ∧ But g w w' := by
  have ha := nAt_nz s a 1 _ hk (by decide)
  have c0 := rd_num g s a 1 (a + 1) w h hs (by omega) (by decide) (by decide) rfl
  rw [hk] at c0
  clear hk h
  go_enter Try.func41, Try.ntmps41
  go_wp2_with (fail)
  with_reducible refine c0.mono ?_
  rintro e w1 ⟨rfl, h, B⟩
  clear c0
  go_wp2_with (fail)
  with_reducible refine (rd_num g s (a + 1) 1 (a + 2) _ h hs (by omega) (by decide) (by decide) (by omega)).mono ?_
  rintro e w2 ⟨rfl, h2, B2⟩
  have B := B.trans B2
  have h := h2
  clear B2 h2
  go_wp2_with (fail)

  with_reducible refine (rd_num g s (a + 2) 1 (a + 3) _ h hs (by omega) (by decide) (by decide) (by omega)).mono ?_
  rintro e w3 ⟨rfl, h2, B2⟩
  have B := B.trans B2
  have h := h2
  clear B2 h2
  go_wp2_with (fail)
  with_reducible refine (rd_flg g s (a + 3) (a + 4) _ h hs (by omega) (by omega)).mono ?_
  rintro e w4 ⟨rfl, h2, B2⟩
  have B := B.trans B2
  have h := h2
  clear B2 h2
  go_wp2_with (fail)
  with_reducible refine (rd_text g s (a + 4) 8 (a + 12) _ h hs (by omega) (by decide) (by omega)).mono ?_
  rintro e w5 ⟨rfl, h2, B2⟩
  have B := B.trans B2
  have h := h2
  clear B2 h2
  go_wp2_with (fail)
  with_reducible refine (rd_num g s (a + 12) 4 (a + 16) _ h hs (by omega) (by decide) (by decide) (by omega)).mono ?_
  rintro e w6 ⟨rfl, h2, B2⟩
  have B := B.trans B2
  have h := h2
  clear B2 h2
  go_wp2_with (fail)
  go_ret
  exact ⟨rfl, B⟩


def rdo4 (s : ByteArray) (a : Int) : Ov := { Ov.zero with kind := 4, mark := tAt s (a + 2) 20 }
set_option maxHeartbeats 1000000 in
theorem opt_4 (g : Nat) (s : ByteArray) (a : Int) (w : World) (h : Rdr w g s a) (hs : s.size ≤ 1048576) (hk : nAt s a 1 = 4) :
    Calls Try.prog 41 #[.pointer (some ⟨g, 0, none⟩)] w fun e w' => e = .returned (.iface 91 (.agg #[.string (tAt s (a + 2) 20)])) ∧ But g w w' := by
  have ha := nAt_nz s a 1 _ hk (by decide)
  have c0 := rd_num g s a 1 (a + 1) w h hs (by omega) (by decide) (by decide) rfl
  rw [hk] at c0
  clear hk h
  go_enter Try.func41, Try.ntmps41
  go_wp2_with (fail)
  with_reducible refine c0.mono ?_
  rintro e w1 ⟨rfl, h, B⟩
  clear c0
  go_wp2_with (fail)
  with_reducible refine (rd_num g s (a + 1) 1 (a + 2) _ h hs (by omega) (by decide) (by decide) (by omega)).mono ?_
  rintro e w2 ⟨rfl, h2, B2⟩
  have B := B.trans B2
  have h := h2
  clear B2 h2
  go_wp2_with (fail)

  with_reducible refine (rd_text g s (a + 2) 20 (a + 22) _ h hs (by omega) (by decide) (by omega)).mono ?_
  rintro e w3 ⟨rfl, h2, B2⟩
  have B := B.trans B2
  have h := h2
  clear B2 h2
  go_wp2_with (fail)
  go_ret
  exact ⟨rfl, B⟩


def rdo5 (s : ByteArray) (a : Int) : Ov := { Ov.zero with kind := 5, ack := nAt s (a + 2) 6, seq := nAt s (a + 8) 6, sub := nAt s (a + 14) 4, len := nAt s (a + 18) 2 }
set_option maxHeartbeats 1000000 in
theorem opt_5 (g : Nat) (s : ByteArray) (a : Int) (w : World) (h : Rdr w g s a) (hs : s.size ≤ 1048576) (hk : nAt s a 1 = 5) :
    Calls Try.prog 41 #[.pointer (some ⟨g, 0, none⟩)] w fun e w' => e = .returned (.iface 93 (.agg #[.int .i64 (nAt s (a + 2) 6), .int .i64 (nAt s (a + 8) 6), .int .i64 (nAt s (a + 14) 4), .int .i64 (nAt s (a + 18) 2)])) ∧ But g w w' := by
  have ha := nAt_nz s a 1 _ hk (by decide)
  have c0 := rd_num g s a 1 (a + 1) w h hs (by omega) (by decide) (by decide) rfl
  rw [hk] at c0
  clear hk h
  go_enter Try.func41, Try.ntmps41
  go_wp2_with (fail)
  with_reducible refine c0.mono ?_
  rintro e w1 ⟨rfl, h, B⟩
  clear c0
  go_wp2_with (fail)
  with_reducible refine (rd_num g s (a + 1) 1 (a + 2) _ h hs (by omega) (by decide) (by decide) (by omega)).mono ?_
  rintro e w2 ⟨rfl, h2, B2⟩
  have B := B.trans B2
  have h := h2
  clear B2 h2
  go_wp2_with (fail)

  with_reducible refine (rd_num g s (a + 2) 6 (a + 8) _ h hs (by omega) (by decide) (by decide) (by omega)).mono ?_
  rintro e w3 ⟨rfl, h2, B2⟩
  have B := B.trans B2
  have h := h2
  clear B2 h2
  go_wp2_with (fail)
  with_reducible refine (rd_num g s (a + 8) 6 (a + 14) _ h hs (by omega) (by decide) (by decide) (by omega)).mono ?_
  rintro e w4 ⟨rfl, h2, B2⟩
  have B := B.trans B2
  have h := h2
  clear B2 h2
  go_wp2_with (fail)
  with_reducible refine (rd_num g s (a + 14) 4 (a + 18) _ h hs (by omega) (by decide) (by decide) (by omega)).mono ?_
  rintro e w5 ⟨rfl, h2, B2⟩
  have B := B.trans B2
  have h := h2
  clear B2 h2
  go_wp2_with (fail)
  with_reducible refine (rd_num g s (a + 18) 2 (a + 20) _ h hs (by omega) (by decide) (by decide) (by omega)).mono ?_
  rintro e w6 ⟨rfl, h2, B2⟩
  have B := B.trans B2
  have h := h2
  clear B2 h2
  go_wp2_with (fail)
  go_ret
  exact ⟨rfl, B⟩


def rdo6 (s : ByteArray) (a : Int) : Ov := { Ov.zero with kind := 6, id := nAt s (a + 2) 1, addr := nAt s (a + 3) 4, port := nAt s (a + 7) 2, mark := tAt s (a + 9) 8 }
set_option maxHeartbeats 1000000 in
theorem opt_6 (g : Nat) (s : ByteArray) (a : Int) (w : World) (h : Rdr w g s a) (hs : s.size ≤ 1048576) (hk : nAt s a 1 = 6) :
    Calls Try.prog 41 #[.pointer (some ⟨g, 0, none⟩)] w fun e w' => e = .returned (.iface 95 (.agg #[.int .i64 (nAt s (a + 2) 1), .int .i64 (nAt s (a + 3) 4), .int .i64 (nAt s (a + 7) 2), .string (tAt s (a + 9) 8)])) ∧ But g w w' := by
  have ha := nAt_nz s a 1 _ hk (by decide)
  have c0 := rd_num g s a 1 (a + 1) w h hs (by omega) (by decide) (by decide) rfl
  rw [hk] at c0
  clear hk h
  go_enter Try.func41, Try.ntmps41
  go_wp2_with (fail)
  with_reducible refine c0.mono ?_
  rintro e w1 ⟨rfl, h, B⟩
  clear c0
  go_wp2_with (fail)
  with_reducible refine (rd_num g s (a + 1) 1 (a + 2) _ h hs (by omega) (by decide) (by decide) (by omega)).mono ?_
  rintro e w2 ⟨rfl, h2, B2⟩
  have B := B.trans B2
  have h := h2
  clear B2 h2
  go_wp2_with (fail)

  with_reducible refine (rd_num g s (a + 2) 1 (a + 3) _ h hs (by omega) (by decide) (by decide) (by omega)).mono ?_
  rintro e w3 ⟨rfl, h2, B2⟩
  have B := B.trans B2
  have h := h2
  clear B2 h2
  go_wp2_with (fail)
  with_reducible refine (rd_num g s (a + 3) 4 (a + 7) _ h hs (by omega) (by decide) (by decide) (by omega)).mono ?_
  rintro e w4 ⟨rfl, h2, B2⟩
  have B := B.trans B2
  have h := h2
  clear B2 h2
  go_wp2_with (fail)
  with_reducible refine (rd_num g s (a + 7) 2 (a + 9) _ h hs (by omega) (by decide) (by decide) (by omega)).mono ?_
  rintro e w5 ⟨rfl, h2, B2⟩
  have B := B.trans B2
  have h := h2
  clear B2 h2
  go_wp2_with (fail)
  with_reducible refine (rd_text g s (a + 9) 8 (a + 17) _ h hs (by omega) (by decide) (by omega)).mono ?_
  rintro e w6 ⟨rfl, h2, B2⟩
  have B := B.trans B2
  have h := h2
  clear B2 h2
  go_wp2_with (fail)
  go_ret
  exact ⟨rfl, B⟩


def rdo7 (s : ByteArray) (a : Int) : Ov := { Ov.zero with kind := 7, id := nAt s (a + 2) 1, addr := nAt s (a + 3) 4, port := nAt s (a + 7) 2 }
set_option maxHeartbeats 1000000 in
theorem opt_7 (g : Nat) (s : ByteArray) (a : Int) (w : World) (h : Rdr w g s a) (hs : s.size ≤ 1048576) (hk : nAt s a 1 = 7) :
    Calls Try.prog 41 #[.pointer (some ⟨g, 0, none⟩)] w fun e w' => e = .returned (.iface 97 (.agg #[.int .i64 (nAt s (a + 2) 1), .int .i64 (nAt s (a + 3) 4), .int .i64 (nAt s (a + 7) 2)])) ∧ But g w w' := by
  have ha := nAt_nz s a 1 _ hk (by decide)
  have c0 := rd_num g s a 1 (a + 1) w h hs (by omega) (by decide) (by decide) rfl
  rw [hk] at c0
  clear hk h
  go_enter Try.func41, Try.ntmps41
  go_wp2_with (fail)
  with_reducible refine c0.mono ?_
  rintro e w1 ⟨rfl, h, B⟩
  clear c0
  go_wp2_with (fail)
  with_reducible refine (rd_num g s (a + 1) 1 (a + 2) _ h hs (by omega) (by decide) (by decide) (by omega)).mono ?_
  rintro e w2 ⟨rfl, h2, B2⟩
  have B := B.trans B2
  have h := h2
  clear B2 h2
  go_wp2_with (fail)

  with_reducible refine (rd_num g s (a + 2) 1 (a + 3) _ h hs (by omega) (by decide) (by decide) (by omega)).mono ?_
  rintro e w3 ⟨rfl, h2, B2⟩
  have B := B.trans B2
  have h := h2
  clear B2 h2
  go_wp2_with (fail)
  with_reducible refine (rd_num g s (a + 3) 4 (a + 7) _ h hs (by omega) (by decide) (by decide) (by omega)).mono ?_
  rintro e w4 ⟨rfl, h2, B2⟩
  have B := B.trans B2
  have h := h2
  clear B2 h2
  go_wp2_with (fail)
  with_reducible refine (rd_num g s (a + 7) 2 (a + 9) _ h hs (by omega) (by decide) (by decide) (by omega)).mono ?_
  rintro e w5 ⟨rfl, h2, B2⟩
  have B := B.trans B2
  have h := h2
  clear B2 h2
  go_wp2_with (fail)
  go_ret
  exact ⟨rfl, B⟩


def rdo9 (s : ByteArray) (a : Int) : Ov := { Ov.zero with kind := 9, seq := nAt s (a + 2) 6 }
set_option maxHeartbeats 1000000 in
theorem opt_9 (g : Nat) (s : ByteArray) (a : Int) (w : World) (h : Rdr w g s a) (hs : s.size ≤ 1048576) (hk : nAt s a 1 = 9) :
    Calls Try.prog 41 #[.pointer (some ⟨g, 0, none⟩)] w fun e w' => e = .returned (.iface 101 (.agg #[.int .i64 (nAt s (a + 2) 6)])) ∧ But g w w' := by
  have ha := nAt_nz s a 1 _ hk (by decide)
  have c0 := rd_num g s a 1 (a + 1) w h hs (by omega) (by decide) (by decide) rfl
  rw [hk] at c0
  clear hk h
  go_enter Try.func41, Try.ntmps41
  go_wp2_with (fail)
  with_reducible refine c0.mono ?_
  rintro e w1 ⟨rfl, h, B⟩
  clear c0
  go_wp2_with (fail)
  with_reducible refine (rd_num g s (a + 1) 1 (a + 2) _ h hs (by omega) (by decide) (by decide) (by omega)).mono ?_
  rintro e w2 ⟨rfl, h2, B2⟩
  have B := B.trans B2
  have h := h2
  clear B2 h2
  go_wp2_with (fail)

  with_reducible refine (rd_num g s (a + 2) 6 (a + 8) _ h hs (by omega) (by decide) (by decide) (by omega)).mono ?_
  rintro e w3 ⟨rfl, h2, B2⟩
  have B := B.trans B2
  have h := h2
  clear B2 h2
  go_wp2_with (fail)
  go_ret
  exact ⟨rfl, B⟩


def rdo10 (s : ByteArray) (a : Int) : Ov := { Ov.zero with kind := 10, key := tAt s (a + 2) 8 }
set_option maxHeartbeats 1000000 in
theorem opt_10 (g : Nat) (s : ByteArray) (a : Int) (w : World) (h : Rdr w g s a) (hs : s.size ≤ 1048576) (hk : nAt s a 1 = 10) :
    Calls Try.prog 41 #[.pointer (some ⟨g, 0, none⟩)] w fun e w' => e = .returned (.iface 102 (.agg #[.string (tAt s (a + 2) 8)])) ∧ But g w w' := by
  have ha := nAt_nz s a 1 _ hk (by decide)
  have c0 := rd_num g s a 1 (a + 1) w h hs (by omega) (by decide) (by decide) rfl
  rw [hk] at c0
  clear hk h
  go_enter Try.func41, Try.ntmps41
  go_wp2_with (fail)
  with_reducible refine c0.mono ?_
  rintro e w1 ⟨rfl, h, B⟩
  clear c0
  go_wp2_with (fail)
  with_reducible refine (rd_num g s (a + 1) 1 (a + 2) _ h hs (by omega) (by decide) (by decide) (by omega)).mono ?_
  rintro e w2 ⟨rfl, h2, B2⟩
  have B := B.trans B2
  have h := h2
  clear B2 h2
  go_wp2_with (fail)

  with_reducible refine (rd_text g s (a + 2) 8 (a + 10) _ h hs (by omega) (by decide) (by omega)).mono ?_
  rintro e w3 ⟨rfl, h2, B2⟩
  have B := B.trans B2
  have h := h2
  clear B2 h2
  go_wp2_with (fail)
  go_ret
  exact ⟨rfl, B⟩

end Go.Proofs.Ytkpajakangaekab
