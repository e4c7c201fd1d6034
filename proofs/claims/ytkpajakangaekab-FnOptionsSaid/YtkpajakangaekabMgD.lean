import Derived.Test.YtkpajakangaekabRows
import Derived.WalkKit
import Derived.Below
import Derived.IntWalk
import Derived.OwnWalk
import Derived.Laws.BitsAllLaws
import Derived.Deep.QuietTactic
import Derived.BigQuiet
import Derived.Test.YtkpajakangaekabBBlk
import Derived.Lib.Hide
import Derived.Test.YtkpajakangaekabCel
import Derived.Test.YtkpajakangaekabBytes
namespace Go.Proofs.Ytkpajakangaekab
open Go.RowKit

theorem and_le (x : Int) (m : Nat) (hm : m < 2 ^ 63) : 0 ≤ bits .and .i64 x (m : Int) ∧ bits .and .i64 x (m : Int) ≤ m := by
  have h := Nat.and_le_right (n := (BitVec.ofInt 64 x).toNat) (m := (BitVec.ofInt 64 (m : Int)).toNat)
  have e : (BitVec.ofInt 64 (m : Int)).toNat = m := by simp; omega
  have hq : bits .and .i64 x (m : Int) = IntKind.i64.wrap (((BitVec.ofInt 64 x).toNat &&& (BitVec.ofInt 64 (m : Int)).toNat : Nat) : Int) := by
    have := BitVec.toNat_and (BitVec.ofInt 64 x) (BitVec.ofInt 64 (m : Int))
    rw [← this]
    rfl
  rw [hq]
  rw [e] at h ⊢
  generalize (BitVec.ofInt 64 x).toNat &&& m = q at h
  rw [IntWalk.i64_in _ (by omega)]
  omega

/-- A slice of bytes that can be read. -/
def RdB (W : World) (v : Value) (n : Nat) : Prop :=
  ∃ a c, v = .slice a n c ∧ (0 < n → ∃ b off, a = some ⟨b, off, none⟩ ∧ ∀ j, j < n → ∃ x : Nat, x < 256 ∧ W.cell? ⟨b, off + j, none⟩ = some (.int .u8 (x : Int)))

/-- Block g is a cursor over the slice v of n bytes. -/
def Cur (W : World) (g : Nat) (v : Value) (n : Nat) : Prop :=
  ∃ (i : Nat) (h : Int), i ≤ n ∧ W.heap[g]? = some (.cells #[v, .int .i64 (i : Int), .int .i64 h] 83 (0, 0))

/-- Only block g has turned. -/
structure Only (g : Nat) (w w' : World) : Prop where
  bl : Below g w w'
  size : w'.heap.size = w.heap.size
  at_ : ∀ k, k ≠ g → w'.heap[k]? = w.heap[k]?

set_option maxHeartbeats 1000000 in
set_option maxRecDepth 100000 in
theorem l01_byte (g : Nat) (v : Value) (n : Nat) (w : World) (hc : Cur w g v n) (hv : RdB w v n) (hn : n ≤ 1048576) (hg : ∀ a c k, 0 < k → v = .slice a k c → ∀ ad, a = some ad → ad.block ≠ g) :
    Calls Try.prog 69 #[.pointer (some ⟨g, 0, none⟩)] w fun e w' => ∃ r : Nat, r ≤ 255 ∧ e = .returned (.int .i64 (r : Int)) ∧ Cur w' g v n ∧ Only g w w' := by
  obtain ⟨i, h, hi, hb⟩ := hc
  obtain ⟨a, c, rfl, hcell⟩ := hv
  have c0 : w.cell? ⟨g, 0, none⟩ = some (.slice a n c) := by rw [cell_of_row _ _ _ _ _ _ hb]; rfl
  have c1 : w.cell? ⟨g, 1, none⟩ = some (.int .i64 (i : Int)) := by rw [cell_of_row _ _ _ _ _ _ hb]; rfl
  have c2 : w.cell? ⟨g, 2, none⟩ = some (.int .i64 h) := by rw [cell_of_row _ _ _ _ _ _ hb]; rfl
  have hf : ∀ j, w.frozen? ⟨g, j, none⟩ = false := fun j => by simp [World.frozen?, hb]
  go_enter Try.func69, Try.ntmps69
  go_wp2_with (fail)
  generalize wrap64 (wrap64 (h * 6364136223846793005) + 1442695040888963407) = H
  have hb1 : (w.setCell ⟨g, 2, none⟩ (.int .i64 H)).heap[g]? = some (.cells #[.slice a n c, .int .i64 (i : Int), .int .i64 H] 83 (0, 0)) := by
    show (w.heap.modify g _)[g]? = _
    rw [Array.getElem?_modify, if_pos rfl, hb]
    rfl
  have hO1 : Only g w (w.setCell ⟨g, 2, none⟩ (.int .i64 H)) := ⟨Below.setCell (p := ⟨g, 2, none⟩) (Below.refl g w) (Nat.le_refl g) _, by simp, fun k hk => Below.heap_setCell _ _ _ _ hk⟩
  clear c0 c1 c2 hf hb
  generalize w.setCell ⟨g, 2, none⟩ (.int .i64 H) = W1 at hb1 hO1
  have c0 : W1.cell? ⟨g, 0, none⟩ = some (.slice a n c) := by rw [cell_of_row _ _ _ _ _ _ hb1]; rfl
  have c1 : W1.cell? ⟨g, 1, none⟩ = some (.int .i64 (i : Int)) := by rw [cell_of_row _ _ _ _ _ _ hb1]; rfl
  have c2 : W1.cell? ⟨g, 2, none⟩ = some (.int .i64 H) := by rw [cell_of_row _ _ _ _ _ _ hb1]; rfl
  have hf : ∀ j, W1.frozen? ⟨g, j, none⟩ = false := fun j => by simp [World.frozen?, hb1]
  go_quiet (fail)
  revert nq
  intro m1
  go_wp2_with (fail)
  have hX := and_le (bits .xor .i64 (H / 8589934592) (H / 35184372088832)) 255 (by decide)
  rw [show ((255 : Nat) : Int) = (255 : Int) from rfl] at hX
  generalize bits .and .i64 (bits .xor .i64 (H / 8589934592) (H / 35184372088832)) 255 = X at hX ⊢
  obtain ⟨r, rfl⟩ := Int.eq_ofNat_of_zero_le hX.1
  have hr : r ≤ 255 := by omega
  clear hX
  have hb2 : (W1.drewN m1).heap[g]? = some (.cells #[.slice a n c, .int .i64 (i : Int), .int .i64 H] 83 (0, 0)) := hb1
  have hO2 : Only g w (W1.drewN m1) := ⟨⟨hO1.bl.os, hO1.bl.tape, hO1.bl.output, hO1.bl.size, hO1.bl.block⟩, hO1.size, hO1.at_⟩
  clear c0 c1 c2 hf hb1 hO1
  generalize W1.drewN m1 = W2 at hb2 hO2
  have c0 : W2.cell? ⟨g, 0, none⟩ = some (.slice a n c) := by rw [cell_of_row _ _ _ _ _ _ hb2]; rfl
  have c1 : W2.cell? ⟨g, 1, none⟩ = some (.int .i64 (i : Int)) := by rw [cell_of_row _ _ _ _ _ _ hb2]; rfl
  have hf : ∀ j, W2.frozen? ⟨g, j, none⟩ = false := fun j => by simp [World.frozen?, hb2]
  by_cases hin : i < n
  · obtain ⟨b, off, rfl, hcc⟩ := hcell (by omega)
    obtain ⟨x, hx, hcx⟩ := hcc i hin
    have hbg : b ≠ g := hg _ _ n (by omega) rfl ⟨b, off, none⟩ rfl
    have hcx2 : W2.cell? ⟨b, off + i, none⟩ = some (.int .u8 (x : Int)) := by
      rw [← hcx]
      simp only [World.cell?, hO2.at_ b hbg]
    clear hcc hcell hcx
    have q : (i : Int) < (n : Int) := by omega
    have q0 : (0 : Int) ≤ (i : Int) := by omega
    have e1 : IntKind.i64.wrap ((r : Int) + (x : Int)) = (r : Int) + (x : Int) := IntWalk.i64_in _ (by omega)
    have hX := and_le ((r : Int) + (x : Int)) 255 (by decide)
    rw [show ((255 : Nat) : Int) = (255 : Int) from rfl] at hX
    have e2 : IntKind.i64.wrap (x : Int) = (x : Int) := IntWalk.i64_in _ (by omega)
    have e3 : IntKind.i64.wrap ((i : Int) + 1) = (i : Int) + 1 := IntWalk.i64_in _ (by omega)
    go_quiet (fail)
    revert nq
    intro m2
    go_wp2_with (fail)
    go_quiet (fail)
    revert nq
    intro m3
    go_wp2_with (fail)
    generalize bits .and .i64 ((r : Int) + (x : Int)) 255 = X at hX ⊢
    obtain ⟨r', rfl⟩ := Int.eq_ofNat_of_zero_le hX.1
    go_ret
    refine ⟨r', by omega, rfl, ⟨i + 1, H, by omega, ?_⟩, ⟨Below.setCell (p := ⟨g, 1, none⟩) (show Below g w (W2.drewN (m2 + m3)) from ⟨hO2.bl.os, hO2.bl.tape, hO2.bl.output, hO2.bl.size, hO2.bl.block⟩) (Nat.le_refl g) _, ?_, fun k hk => ?_⟩⟩
    · show ((W2.drewN (m2 + m3)).heap.modify g _)[g]? = _
      rw [Array.getElem?_modify, if_pos rfl, show (W2.drewN (m2 + m3)).heap[g]? = _ from hb2]
      rfl
    · rw [World.size_setCell]; exact hO2.size
    · rw [Below.heap_setCell _ _ _ _ hk]; exact hO2.at_ k hk
  · have q : ¬ ((i : Int) < (n : Int)) := by omega
    go_quiet (fail)
    revert nq
    intro m2
    go_wp2_with (fail)
    go_ret
    exact ⟨r, hr, rfl, ⟨i, H, hi, hb2⟩, ⟨⟨hO2.bl.os, hO2.bl.tape, hO2.bl.output, hO2.bl.size, hO2.bl.block⟩, hO2.size, hO2.at_⟩⟩

theorem Only.trans {g : Nat} {a b c : World} (h : Only g a b) (k : Only g b c) : Only g a c :=
  ⟨h.bl.trans k.bl, k.size.trans h.size, fun i hi => (k.at_ i hi).trans (h.at_ i hi)⟩

theorem Only.rdB {g : Nat} {w w' : World} {v : Value} {n : Nat} (h : Only g w w') (hv : RdB w v n) (hg : ∀ a c k, 0 < k → v = .slice a k c → ∀ ad, a = some ad → ad.block ≠ g) : RdB w' v n := by
  obtain ⟨a, c, rfl, hv⟩ := hv
  refine ⟨a, c, rfl, fun h0 => ?_⟩
  obtain ⟨b, off, rfl, hc⟩ := hv h0
  refine ⟨b, off, rfl, fun j hj => ?_⟩
  obtain ⟨x, hx, hcx⟩ := hc j hj
  refine ⟨x, hx, ?_⟩
  rw [← hcx]
  simp only [World.cell?, h.at_ b (hg _ _ n h0 rfl ⟨b, off, none⟩ rfl)]

end Go.Proofs.Ytkpajakangaekab

namespace Go.Proofs.Ytkpajakangaekab
open Go.RowKit

set_option maxHeartbeats 1000000 in
set_option maxRecDepth 100000 in
theorem l01_new (v : Value) (n : Nat) (w : World) (hv : RdB w v n) (hn : n ≤ 1048576) :
    Calls Try.prog 29 #[v] w fun e w' => e = .returned (.pointer (some ⟨w.heap.size, 0, none⟩)) ∧ Cur w' w.heap.size v n ∧ Below w.heap.size w w' := by
  obtain ⟨a, c, rfl, hcell⟩ := hv
  have e0 : IntKind.i64.wrap (94701 + (n : Int)) = 94701 + (n : Int) := IntWalk.i64_in _ (by omega)
  go_enter Try.func29, Try.ntmps29
  go_wp2_with (fail)
  go_loopw [3, 4] (fun m i wr => ∃ (k : Nat) (z : Int) (d : Nat), k ≤ n ∧ k ≤ 4000 ∧ m = .int .i64 z ∧ i = .int .i64 k ∧ wr = w.drewN d) (fun _ i _ => 5000 - (intOf i).toNat)
  case atStart => exact ⟨0, _, 0, by omega, by omega, rfl, rfl, rfl⟩
  case round =>
    obtain ⟨k, z, d, hk, hk4, rfl, rfl, rfl⟩ := hrel
    by_cases h1 : k < n
    · have q1 : (k : Int) < (n : Int) := by omega
      by_cases h2 : k < 4000
      · have q2 : (k : Int) < 4000 := by omega
        obtain ⟨b, off, rfl, hcc⟩ := hcell (by omega)
        obtain ⟨x, hx, hcx⟩ := hcc k h1
        have q0 : (0 : Int) ≤ (k : Int) := by omega
        clear hcell hcc
        go_wp2_with (fail)
        go_roundw
        case rel => exact ⟨k + 1, _, d, by omega, by omega, rfl, by go_num, rfl⟩
        case measure => simp [intOf]; omega
      · have q2 : ¬ (k : Int) < 4000 := by omega
        go_wp2_with (fail)
        go_ret
        refine ⟨rfl, ⟨0, z, by omega, ?_⟩, (Below.alloc (w := w.drewN d) (show Below w.heap.size w (w.drewN d) from ⟨rfl, rfl, rfl, Nat.le_refl _, fun _ _ => rfl⟩) (Nat.le_refl _) _)⟩
        show ((w.drewN d).heap.push _)[w.heap.size]? = _
        rw [show w.heap.size = (w.drewN d).heap.size from rfl]
        simp
    · have q1 : ¬ (k : Int) < (n : Int) := by omega
      go_wp2_with (fail)
      go_ret
      refine ⟨rfl, ⟨0, z, by omega, ?_⟩, (Below.alloc (w := w.drewN d) (show Below w.heap.size w (w.drewN d) from ⟨rfl, rfl, rfl, Nat.le_refl _, fun _ _ => rfl⟩) (Nat.le_refl _) _)⟩
      show ((w.drewN d).heap.push _)[w.heap.size]? = _
      rw [show w.heap.size = (w.drewN d).heap.size from rfl]
      simp
theorem RdB.below {W W' : World} {v : Value} {n B : Nat} (hv : RdB W v n) (hb : Below B W W') (hlt : ∀ a c k, 0 < k → v = .slice a k c → ∀ ad, a = some ad → ad.block < B) : RdB W' v n := by
  obtain ⟨a, c, rfl, hvv⟩ := hv
  refine ⟨a, c, rfl, fun h0 => ?_⟩
  obtain ⟨b, off, rfl, hc⟩ := hvv h0
  refine ⟨b, off, rfl, fun j hj => ?_⟩
  obtain ⟨x, hx, hcx⟩ := hc j hj
  exact ⟨x, hx, by rw [hb.cell (p := ⟨b, off + j, none⟩) (show b < B from hlt _ _ n h0 rfl ⟨b, off, none⟩ rfl)]; exact hcx⟩

theorem Cur.below {W W' : World} {g : Nat} {v : Value} {n B : Nat} (h : Cur W g v n) (hb : Below B W W') (hg : g < B) : Cur W' g v n := by
  obtain ⟨i, z, hi, hh⟩ := h
  exact ⟨i, z, hi, by rw [hb.block g hg]; exact hh⟩


theorem RdB.lt {W : World} {v : Value} {n : Nat} (hv : RdB W v n) : ∀ a c k, 0 < k → v = .slice a k c → ∀ ad, a = some ad → ad.block < W.heap.size := by
  obtain ⟨a, c, rfl, hvv⟩ := hv
  intro a' c' k h0 he ad ha
  injection he with e1 e2 e3
  subst e1 e2 e3
  obtain ⟨b, off, e, hc⟩ := hvv h0
  rw [ha] at e
  obtain rfl := Option.some.inj e
  obtain ⟨x, _, hx⟩ := hc 0 h0
  exact World.block_lt_of_cell? _ _ hx

/-- Block g is a cursor over the slice v, which lies below it. -/
structure Dr (W : World) (g : Nat) (v : Value) (n : Nat) : Prop where
  cur : Cur W g v n
  rd : RdB W v n
  lt : ∀ a c k, 0 < k → v = .slice a k c → ∀ ad, a = some ad → ad.block < g
  small : n ≤ 1048576

theorem Dr.blk {W : World} {g : Nat} {v : Value} {n : Nat} (h : Dr W g v n) : g < W.heap.size := by
  obtain ⟨_, _, _, hh⟩ := h.cur
  exact (Array.getElem?_eq_some_iff.1 hh).1

theorem Dr.below {W W' : World} {g : Nat} {v : Value} {n B : Nat} (h : Dr W g v n) (hb : Below B W W') (hg : g < B) : Dr W' g v n :=
  ⟨h.cur.below hb hg, h.rd.below hb (fun a c k h0 he ad ha => by have := h.lt a c k h0 he ad ha; omega), h.lt, h.small⟩

theorem Dr.kept {W W' : World} {g : Nat} {v : Value} {n : Nat} (h : Dr W g v n) (hb : Below W.heap.size W W') : Dr W' g v n := h.below hb h.blk

theorem Dr.only {W W' : World} {g : Nat} {v : Value} {n : Nat} (h : Dr W g v n) (ho : Only g W W') (hc : Cur W' g v n) : Dr W' g v n :=
  ⟨hc, ho.rdB h.rd (fun a c k h0 he ad ha => by have := h.lt a c k h0 he ad ha; omega), h.lt, h.small⟩

theorem Only.below {g B : Nat} {a w w' : World} (ho : Only g w w') (h : Below B a w) (hB : B ≤ g) : Below B a w' := h.trans (ho.bl.mono hB)

theorem Only.refl (g : Nat) (w : World) : Only g w w := ⟨Below.refl g w, rfl, fun _ _ => rfl⟩

/-- A new cursor. -/
theorem new_dr (v : Value) (n : Nat) (w : World) (hv : RdB w v n) (hn : n ≤ 1048576) :
    Calls Try.prog 29 #[v] w fun e w' => e = .returned (.pointer (some ⟨w.heap.size, 0, none⟩)) ∧ Dr w' w.heap.size v n ∧ Below w.heap.size w w' :=
  (l01_new v n w hv hn).mono fun _ _ ⟨h1, h2, h3⟩ => ⟨h1, ⟨h2, hv.below h3 hv.lt, hv.lt, hn⟩, h3⟩

/-- The next byte of a cursor. -/
theorem byte_dr (g : Nat) (v : Value) (n : Nat) (w : World) (h : Dr w g v n) :
    Calls Try.prog 69 #[.pointer (some ⟨g, 0, none⟩)] w fun e w' => ∃ r : Nat, r ≤ 255 ∧ e = .returned (.int .i64 (r : Int)) ∧ Dr w' g v n ∧ Only g w w' :=
  (l01_byte g v n w h.cur h.rd h.small (fun a c k h0 he ad ha => by have := h.lt a c k h0 he ad ha; omega)).mono fun _ _ ⟨r, h1, h2, h3, h4⟩ => ⟨r, h1, h2, h.only h4 h3, h4⟩

theorem own_only {g B : Nat} {w w' : World} {v : Value} {n : Nat} {xs : List Value} (h : w.ownsRow B 3 1 v n xs) (ho : Only g w w') (hB : g < B) : w'.ownsRow B 3 1 v n xs := by
  obtain ⟨h1, h2⟩ := h
  refine ⟨h1, ?_⟩
  rcases h2 with h2 | ⟨g', cap, cur, hv, hg, hh, r⟩
  · exact .inl h2
  · refine .inr ⟨g', cap, cur, hv, hg, ?_, r⟩
    rw [ho.at_ g' (by omega)]
    exact hh


set_option maxHeartbeats 1000000 in
set_option maxRecDepth 100000 in
theorem below_big (g : Nat) (v : Value) (n k : Nat) (w : World) (hd : Dr w g v n) (hk : 256 < k) (hk2 : k ≤ 1000000000) :
    Calls Try.prog 45 #[.pointer (some ⟨g, 0, none⟩), .int .i64 (k : Int)] w fun e w' => ∃ r : Nat, r < k ∧ e = .returned (.int .i64 (r : Int)) ∧ Dr w' g v n ∧ Only g w w' := by
  have q1 : ¬ ((k : Int) ≤ 0) := by omega
  have q2 : ¬ ((k : Int) ≤ 256) := by omega
  go_enter Try.func45, Try.ntmps45
  go_wp2_with (fail)
  with_reducible refine (byte_dr g v n w hd).mono ?_
  rintro e w1 ⟨r1, h1, rfl, d1, o1⟩
  go_wp2_with (fail)
  with_reducible refine (byte_dr g v n w1 d1).mono ?_
  rintro e w2 ⟨r2, h2, rfl, d2, o2⟩
  go_wp2_with (fail)
  with_reducible refine (byte_dr g v n w2 d2).mono ?_
  rintro e w3 ⟨r3, h3, rfl, d3, o3⟩
  go_wp2_with (fail)
  with_reducible refine (byte_dr g v n w3 d3).mono ?_
  rintro e w4 ⟨r4, h4, rfl, d4, o4⟩
  have e1 : ((r1 : Int) * 16777216 + (r2 : Int) * 65536 + (r3 : Int) * 256 + (r4 : Int)).tmod (k : Int) = (((r1 * 16777216 + r2 * 65536 + r3 * 256 + r4) % k : Nat) : Int) := by
    rw [Int.tmod_eq_emod_of_nonneg (by omega), show ((r1 : Int) * 16777216 + (r2 : Int) * 65536 + (r3 : Int) * 256 + (r4 : Int)) = ((r1 * 16777216 + r2 * 65536 + r3 * 256 + r4 : Nat) : Int) by omega]
    exact (Int.natCast_emod _ _).symm
  have hlt : (r1 * 16777216 + r2 * 65536 + r3 * 256 + r4) % k < k := Nat.mod_lt _ (by omega)
  have e2 : ((r1 : Int) * 16777216 + (r2 : Int) * 65536 + (r3 : Int) * 256 + (r4 : Int)) % (k : Int) = (((r1 * 16777216 + r2 * 65536 + r3 * 256 + r4) % k : Nat) : Int) := by
    rw [← e1, Int.tmod_eq_emod_of_nonneg (by omega)]
  generalize (r1 * 16777216 + r2 * 65536 + r3 * 256 + r4) % k = q at e1 e2 hlt
  go_wp2_with (fail)
  go_ret
  refine ⟨q, hlt, ?_, d4, ((o1.trans o2).trans o3).trans o4⟩
  first | rfl | simp [e1] | simp [e2]

set_option maxHeartbeats 1000000 in
theorem below_small (g : Nat) (v : Value) (n k : Nat) (w : World) (hd : Dr w g v n) (h0 : 0 < k) (hk : k ≤ 256) :
    Calls Try.prog 45 #[.pointer (some ⟨g, 0, none⟩), .int .i64 (k : Int)] w fun e w' => ∃ r : Nat, r < k ∧ e = .returned (.int .i64 (r : Int)) ∧ Dr w' g v n ∧ Only g w w' := by
  have q1 : ¬ ((k : Int) ≤ 0) := by omega
  have q2 : ((k : Int) ≤ 256) := by omega
  go_enter Try.func45, Try.ntmps45
  go_wp2_with (fail)
  with_reducible refine (byte_dr g v n w hd).mono ?_
  rintro e w1 ⟨r1, h1, rfl, d1, o1⟩
  have e1 : (r1 : Int).tmod (k : Int) = ((r1 % k : Nat) : Int) := by
    rw [Int.tmod_eq_emod_of_nonneg (by omega)]
    exact (Int.natCast_emod _ _).symm
  have e2 : (r1 : Int) % (k : Int) = ((r1 % k : Nat) : Int) := (Int.natCast_emod _ _).symm
  have hlt : r1 % k < k := Nat.mod_lt _ (by omega)
  generalize r1 % k = q at e1 e2 hlt
  go_wp2_with (fail)
  go_ret
  refine ⟨q, hlt, ?_, d1, o1⟩
  first | rfl | simp [e1] | simp [e2]

theorem below_zero (g : Nat) (k : Int) (w : World) (h0 : k ≤ 0) :
    Calls Try.prog 45 #[.pointer (some ⟨g, 0, none⟩), .int .i64 k] w fun e w' => e = .returned (.int .i64 0) ∧ w = w' := by
  go_enter Try.func45, Try.ntmps45
  go_wp2_with (fail)
  go_ret
  exact ⟨rfl, rfl⟩

/-- A number below k. -/
theorem below_dr (g : Nat) (v : Value) (n k : Nat) (w : World) (hd : Dr w g v n) (h0 : 0 < k) (hk : k ≤ 1000000000) :
    Calls Try.prog 45 #[.pointer (some ⟨g, 0, none⟩), .int .i64 (k : Int)] w fun e w' => ∃ r : Nat, r < k ∧ e = .returned (.int .i64 (r : Int)) ∧ Dr w' g v n ∧ Only g w w' := by
  by_cases h : k ≤ 256
  · exact below_small g v n k w hd h0 h
  · exact below_big g v n k w hd (by omega) hk
end Go.Proofs.Ytkpajakangaekab

namespace Go.Proofs.Ytkpajakangaekab
open Go.RowKit

/-- The first k bytes are x, the others zero. -/
def laidOf (n : Nat) (x : UInt8) (k : Nat) : Array UInt8 := (List.replicate k x ++ List.replicate (n - k) 0).toArray

theorem laidOf_size (n : Nat) (x : UInt8) (k : Nat) (h : k ≤ n) : (laidOf n x k).size = n := by
  unfold laidOf; simp; omega

theorem laidOf_succ (n : Nat) (x : UInt8) (k : Nat) (h : k < n) : laidOf n x (k + 1) = (laidOf n x k).setIfInBounds k x := by
  unfold laidOf
  apply Array.toList_inj.1
  simp only [Array.toList_setIfInBounds]
  have e : n - k = (n - (k + 1)) + 1 := by omega
  rw [e, show List.replicate (n - (k + 1) + 1) (0 : UInt8) = 0 :: List.replicate (n - (k + 1)) 0 from rfl, List.set_append_right _ _ (by simp), List.replicate_succ']
  simp

attribute [irreducible] laidOf

set_option maxHeartbeats 400000 in
theorem spec_long (n : Nat) (x : UInt8) (w : World) (hn : n ≤ 1000000) :
    Calls Try.prog 68 #[.int .i64 (n : Int), .int .u8 (x.toNat : Int)] w fun e w' => e = .returned (.string ⟨(List.replicate n x).toArray⟩) ∧ Below w.heap.size w w' := by
  have hmk := makeRow n hn
  have hb0 : BBlk (w.alloc (.cells ((Array.replicate n (0 : UInt8)).map cb) 5)) w.heap.size (laidOf n x 0) := by
    show (w.heap.push _)[w.heap.size]? = _
    unfold laidOf
    simp
  have hB0 : Below w.heap.size w (w.alloc (.cells ((Array.replicate n (0 : UInt8)).map cb) 5)) := (Below.refl _ _).alloc (Nat.le_refl _) _
  have hend : (laidOf n x n).toList = List.replicate n x := by unfold laidOf; simp
  generalize List.replicate n x = fin at hend
  generalize (Array.replicate n (0 : UInt8)).map cb = z at hmk hb0 hB0
  go_enter Try.func68, Try.ntmps68
  go_wp2_with (fail)
  clear hmk
  go_loopw [6] (fun i wr => ∃ k : Nat, k ≤ n ∧ i = .int .i64 k ∧ BBlk wr w.heap.size (laidOf n x k) ∧ Below w.heap.size w wr) (fun i _ => n - (intOf i).toNat)
  case atStart => exact ⟨0, by omega, rfl, hb0, hB0⟩
  case round =>
    clear hb0 hB0
    obtain ⟨k, hk, rfl, hb, hB⟩ := hrel
    by_cases hlt : k < n
    · have q : (k : Int) < (n : Int) := by omega
      have hsucc := laidOf_succ n x k hlt
      obtain ⟨v0, o0⟩ := hb.cell k (by rw [laidOf_size n x k (by omega)]; exact hlt)
      have hf := hb.frozen k
      go_wp2_with (fail)
      go_roundw
      case rel =>
        refine ⟨k + 1, by omega, by go_num, ?_, hB.setCell (Nat.le_refl _) _⟩
        rw [hsucc]
        exact hb.set k x
      case measure => simp [intOf]; omega
    · obtain rfl : k = n := by omega
      have q : ¬ ((k : Int) < (k : Int)) := by omega
      have hcv := hb.conv k (laidOf_size k x k (by omega))
      have e2 : (⟨laidOf k x k⟩ : ByteArray) = ⟨fin.toArray⟩ := by rw [← hend]
      rw [e2] at hcv
      clear hend e2
      go_wp2_with (fail)
      go_ret
      exact ⟨rfl, hB⟩


theorem long_dr (n : Nat) (r : Nat) (hr : r ≤ 255) (i : Int) (hi : (n : Int) = i) (w : World) (hn : n ≤ 1000000) :
    Calls Try.prog 68 #[.int .i64 i, .int .u8 (r : Int)] w fun e w' => (∃ s, e = .returned (.string s)) ∧ Below w.heap.size w w' := by
  subst hi
  have h := spec_long n (UInt8.ofNat r) w hn
  rw [show (UInt8.ofNat r).toNat = r by simp; omega] at h
  exact h.mono fun _ _ ⟨h1, h2⟩ => ⟨⟨_, h1⟩, h2⟩
end Go.Proofs.Ytkpajakangaekab

namespace Go.Proofs.Ytkpajakangaekab
open Go.RowKit

theorem own_only2 {g B : Nat} {w w' : World} {v : Value} {e : TypeId} {size n : Nat} {xs : List Value} (h : w.ownsRow B e size v n xs) (ho : Only g w w') (hB : g < B) : w'.ownsRow B e size v n xs := by
  obtain ⟨h1, h2⟩ := h
  refine ⟨h1, ?_⟩
  rcases h2 with h2 | ⟨g', cap, cur, hv, hg, hh, r⟩
  · exact .inl h2
  · refine .inr ⟨g', cap, cur, hv, hg, ?_, r⟩
    rw [ho.at_ g' (by omega)]
    exact hh

theorem Cel.only {g b : Nat} {w w' : World} {t : TypeId} {cs : Array Value} (h : Cel w b t cs) (ho : Only g w w') (hb : b ≠ g) : Cel w' b t cs := by
  show w'.heap[b]? = _
  rw [ho.at_ b hb]; exact h

/-- Only block g, and what is new, has turned. -/
def Grew (g : Nat) (w w' : World) : Prop := w.grownBy w' (some g)

theorem Only.grew {g : Nat} {w w' : World} (h : Only g w w') : Grew g w w' :=
  ⟨h.bl.os, h.bl.tape, h.bl.output, Nat.le_of_eq h.size.symm, fun i _ hn => h.at_ i (fun e => hn (by rw [e]))⟩
theorem Grew.refl (g : Nat) (w : World) : Grew g w w := ⟨rfl, rfl, rfl, Nat.le_refl _, fun _ _ _ => rfl⟩
theorem Grew.trans {g : Nat} {a b c : World} (h : Grew g a b) (k : Grew g b c) : Grew g a c :=
  ⟨k.os.trans h.os, k.tape.trans h.tape, k.output.trans h.output, Nat.le_trans h.size k.size, fun i hi hn => (k.block i (Nat.lt_of_lt_of_le hi h.size) hn).trans (h.block i hi hn)⟩
theorem Grew.of_below {g B : Nat} {a b : World} (h : Below B a b) (hB : a.heap.size ≤ B) : Grew g a b :=
  ⟨h.os, h.tape, h.output, h.size, fun i hi _ => h.block i (by omega)⟩
theorem Grew.below {g B : Nat} {a b : World} (h : Grew g a b) (hB : B ≤ g) (hB2 : B ≤ a.heap.size) : Below B a b :=
  ⟨h.os, h.tape, h.output, h.size, fun i hi => h.block i (by omega) (fun e => by injection e with e; omega)⟩
theorem Cel.grew {g b : Nat} {w w' : World} {t : TypeId} {cs : Array Value} (h : Cel w b t cs) (ho : Grew g w w') (hb : b ≠ g) : Cel w' b t cs := h.grown ho (fun e => hb (by injection e))
theorem Grew.chain {g B : Nat} {a b c : World} (h : Below B a b) (k : Grew g b c) (hB : B ≤ g) (hB2 : B ≤ b.heap.size) : Below B a c := h.trans (k.below hB hB2)

/-- A row of bytes of the call's own, empty or not, made a string. -/
theorem conv_row {W : World} {B g n cap : Nat} {l : List UInt8} (h : W.ownsRow B 5 1 (.slice (some ⟨g, 0, none⟩) l.length cap) l.length (l.map cb)) (hl : l.length = n) :
    (convert 22 9 (.slice (some ⟨g, 0, none⟩) n cap)).run Try.prog W = .ok (.string ⟨l.toArray⟩) W := by
  subst hl
  refine run_convert_bytes_back W 22 9 5 ⟨g, 0, none⟩ cap l Try.underlying22 Try.underlying5 Try.underlying9 fun j hj => ?_
  have hc := h.cells (g := g) rfl j (cb l[j]) (by rw [List.getElem?_map, List.getElem?_eq_getElem hj]; rfl)
  exact hc

/-- One of a list of numbers. -/
theorem pick_int (g : Nat) (v : Value) (n : Nat) (w : World) (hd : Dr w g v n) (b cap : Nat) (zs : List Int) (hc : Cel w b 3 (zs.map (Value.int .i64)).toArray) (hb : b ≠ g) (h0 : 0 < zs.length) (hl : zs.length ≤ 1000) :
    Calls Try.prog 58 #[.pointer (some ⟨g, 0, none⟩), .slice (some ⟨b, 0, none⟩) zs.length cap] w fun e w' => ∃ j : Fin zs.length, e = .returned (.int .i64 zs[j]) ∧ Dr w' g v n ∧ Only g w w' := by
  have cb := below_dr g v n zs.length w hd h0 (by omega)
  go_enter Try.func58, Try.ntmps58
  go_wp2_with (fail)
  with_reducible refine cb.mono ?_
  rintro e w1 ⟨r, hr, rfl, d1, o1⟩
  have hcell : w1.cell? ⟨b, r, none⟩ = some (.int .i64 (zs[r]'hr)) := by
    rw [(hc.only o1 hb).cell r]
    simp [hr]
  have q : (r : Int) < (zs.length : Int) := by omega
  have q0 : (0 : Int) ≤ (r : Int) := by omega
  go_wp2_with (fail)
  go_ret
  exact ⟨⟨r, hr⟩, rfl, d1, o1⟩

set_option maxHeartbeats 1000000 in
/-- A drawn text of k bytes. -/
theorem draw_text (g : Nat) (v : Value) (n k : Nat) (w : World) (hd : Dr w g v n) (hk : k ≤ 5000) :
    Calls Try.prog 59 #[.pointer (some ⟨g, 0, none⟩), .int .i64 (k : Int)] w fun e w' => ∃ s : ByteArray, s.size = k ∧ e = .returned (.string s) ∧ Dr w' g v n ∧ Grew g w w' := by
  obtain ⟨i0, hi, hz0, hz1, hz2⟩ := info_parts info5
  have q : ¬ (5000 : Int) < (k : Int) := by omega
  have hgw := hd.blk
  have ho := World.ownsRow_made w (e := 5) (size := 1) (base := w.heap.size) #[] 0 (Nat.le_refl _) (by unfold maxLen; omega) rfl
  have hd0 := hd.kept (below_new w (.cells #[] 5))
  have hG : Grew g w (w.alloc (.cells #[] 5)) := Grew.of_below (below_new w (.cells #[] 5)) (Nat.le_refl _)
  go_enter Try.func59, Try.ntmps59
  go_wp2_with (fail)
  go_loopw [5, 6] (fun u i wr => ∃ (j gg cap : Nat) (l : List UInt8), j ≤ k ∧ i = .int .i64 j ∧ u = .slice (some ⟨gg, 0, none⟩) j cap ∧ l.length = j ∧ wr.ownsRow w.heap.size 5 1 (.slice (some ⟨gg, 0, none⟩) j cap) j (l.map cb) ∧ Dr wr g v n ∧ Grew g w wr) (fun _ i _ => k - (intOf i).toNat)
  case atStart => exact ⟨0, w.heap.size, 0, [], by omega, rfl, rfl, rfl, by simpa using ho, hd0, hG⟩
  case round =>
    clear ho hd0 hG
    obtain ⟨j, gg, cap, l, hj, rfl, rfl, hl, hown, hd1, hG⟩ := hrel
    by_cases hlt : j < k
    · have q1 : (j : Int) < (k : Int) := by omega
      have cb1 := byte_dr g v n wr hd1
      go_wp2_with (fail)
      with_reducible refine cb1.mono ?_
      rintro e w2 ⟨r, hr, rfl, d2, o2⟩
      have hown2 := own_only2 hown o2 hgw
      have hG2 := hG.trans o2.grew
      have hs2 := hG2.size
      obtain ⟨c, hc⟩ : ∃ c : UInt8, (r : Int) % 256 = (c.toNat : Int) := ⟨UInt8.ofNat r, by simp⟩
      have hw : IntKind.u8.wrap (r : Int) = (c.toNat : Int) := by rw [IntKind.wrap_u8', hc]
      clear hown hG cb1 o2
      go_wp2_with (at_builtin; refine wpList_append_own _ rfl _ _ 22 rfl w.heap.size 5 i0 (.int .u8 0) 1 1 Try.underlying22 hi hz0 hz1 hz2 rfl (by decide) _ _ _ rfl (hown2.alloc _) ⟨w2.heap.size, 0, none⟩ 1 1 [cb c] rfl rfl ?c1 ?c2 ?c3 ?c4 ?c5 ?_)
      case c1 =>
        intro i u hi
        match i, hi with
        | 0, hi => simp at hi; subst hi; simp [Addr.add, cb]
      case c2 => intro u hu; simp at hu; subst hu; rfl
      case c3 => unfold maxLen; omega
      case c4 => omega
      case c5 => simp; omega
      intro v' w3 hown3 hgrow _
      have hb3 : Below w.heap.size w2 w3 := ((Below.refl w.heap.size w2).alloc (by omega) _).grown hgrow (by simp; omega) (fun i hi => (hown2.lt i hi).1)
      have d3 := d2.below hb3 hgw
      have hG3 : Grew g w w3 := ⟨hb3.os.trans hG2.os, hb3.tape.trans hG2.tape, hb3.output.trans hG2.output, Nat.le_trans hG2.size hb3.size, fun i hi hn => (hb3.block i hi).trans (hG2.block i hi hn)⟩
      obtain ⟨g', cap', rfl⟩ : ∃ g cap, v' = .slice (some ⟨g, 0, none⟩) (j + 1) cap := by
        rcases hown3.2 with ⟨_, h0⟩ | ⟨g, cap, cur, hv, _⟩
        · omega
        · exact ⟨g, cap, hv⟩
      have e5 : l.map cb ++ [cb c] = (l ++ [c]).map cb := by simp
      rw [e5] at hown3
      clear hown2 d2 hG2 hb3 hgrow e5
      go_wp2_with (fail)
      go_roundw
      case rel => exact ⟨j + 1, g', cap', l ++ [c], by omega, by go_num, rfl, by simp [hl], hown3, d3, hG3⟩
      case measure => simp [intOf]; omega
    · obtain rfl : j = k := by omega
      have q1 : ¬ ((j : Int) < (j : Int)) := by omega
      have hcv : (convert 22 9 (.slice (some ⟨gg, 0, none⟩) j cap)).run Try.prog wr = .ok (.string ⟨l.toArray⟩) wr := conv_row (by rw [hl]; exact hown) hl
      have hsz : (⟨l.toArray⟩ : ByteArray).size = j := by show l.toArray.size = j; simp [hl]
      generalize (⟨l.toArray⟩ : ByteArray) = s at hcv hsz
      go_wp2_with (fail)
      go_ret
      exact ⟨s, hsz, rfl, hd1, hG⟩
end Go.Proofs.Ytkpajakangaekab

