import Derived.Test.YtoeflkmhofkiaaaRows
import Derived.WalkKit
import Derived.Below
import Derived.IntWalk
import Derived.OwnWalk
import Derived.Laws.BitsAllLaws
import Derived.Deep.QuietTactic
import Derived.BigQuiet
namespace Go.Proofs.Ytoeflkmhofkiaaa
open Go.RowKit
set_option maxRecDepth 100000

theorem and_le (x : Int) (m : Nat) (hm : m < 2 ^ 63) : 0 ≤ bits .and .i64 x (m : Int) ∧ bits .and .i64 x (m : Int) ≤ m := by
  have h := Nat.and_le_right (n := (BitVec.ofInt 64 x).toNat) (m := (BitVec.ofInt 64 (m : Int)).toNat)
  have e : (BitVec.ofInt 64 (m : Int)).toNat = m := by simp; omega
  have hq : bits .and .i64 x (m : Int) = IntKind.i64.wrap (((BitVec.ofInt 64 x).toNat &&& (BitVec.ofInt 64 (m : Int)).toNat : Nat) : Int) := by
    have := BitVec.toNat_and (BitVec.ofInt 64 x) (BitVec.ofInt 64 (m : Int))
    rw [← this]
    rfl
  rw [hq]
  rw [e] at h ⊢
  generalize (BitVec.ofInt 64 x).toNat &&& m = q at h
  rw [IntWalk.i64_in _ (by omega)]
  omega

/-- A slice of bytes that can be read. -/
def RdB (W : World) (v : Value) (n : Nat) : Prop :=
  ∃ a c, v = .slice a n c ∧ (0 < n → ∃ b off, a = some ⟨b, off, none⟩ ∧ ∀ j, j < n → ∃ x : Nat, x < 256 ∧ W.cell? ⟨b, off + j, none⟩ = some (.int .u8 (x : Int)))

/-- Block g is a cursor over the slice v of n bytes. -/
def Cur (W : World) (g : Nat) (v : Value) (n : Nat) : Prop :=
  ∃ (i : Nat) (h : Int), i ≤ n ∧ W.heap[g]? = some (.cells #[v, .int .i64 (i : Int), .int .i64 h] 89 (0, 0))

/-- Only block g has turned. -/
structure Only (g : Nat) (w w' : World) : Prop where
  bl : Below g w w'
  size : w'.heap.size = w.heap.size
  at_ : ∀ k, k ≠ g → w'.heap[k]? = w.heap[k]?

set_option maxHeartbeats 1000000 in
set_option maxRecDepth 100000 in
theorem l01_byte (g : Nat) (v : Value) (n : Nat) (w : World) (hc : Cur w g v n) (hv : RdB w v n) (hn : n ≤ 1048576) (hg : ∀ a c k, 0 < k → v = .slice a k c → ∀ ad, a = some ad → ad.block ≠ g) :
    Calls Try.prog 72 #[.pointer (some ⟨g, 0, none⟩)] w fun e w' => ∃ r : Nat, r ≤ 255 ∧ e = .returned (.int .i64 (r : Int)) ∧ Cur w' g v n ∧ Only g w w' := by
  obtain ⟨i, h, hi, hb⟩ := hc
  obtain ⟨a, c, rfl, hcell⟩ := hv
  have c0 : w.cell? ⟨g, 0, none⟩ = some (.slice a n c) := by rw [cell_of_row _ _ _ _ _ _ hb]; rfl
  have c1 : w.cell? ⟨g, 1, none⟩ = some (.int .i64 (i : Int)) := by rw [cell_of_row _ _ _ _ _ _ hb]; rfl
  have c2 : w.cell? ⟨g, 2, none⟩ = some (.int .i64 h) := by rw [cell_of_row _ _ _ _ _ _ hb]; rfl
  have hf : ∀ j, w.frozen? ⟨g, j, none⟩ = false := fun j => by simp [World.frozen?, hb]
  go_enter Try.func72, Try.ntmps72
  go_wp2_with (fail)
  generalize wrap64 (wrap64 (h * 6364136223846793005) + 1442695040888963407) = H
  have hb1 : (w.setCell ⟨g, 2, none⟩ (.int .i64 H)).heap[g]? = some (.cells #[.slice a n c, .int .i64 (i : Int), .int .i64 H] 89 (0, 0)) := by
    show (w.heap.modify g _)[g]? = _
    rw [Array.getElem?_modify, if_pos rfl, hb]
    rfl
  have hO1 : Only g w (w.setCell ⟨g, 2, none⟩ (.int .i64 H)) := ⟨Below.setCell (p := ⟨g, 2, none⟩) (Below.refl g w) (Nat.le_refl g) _, by simp, fun k hk => Below.heap_setCell _ _ _ _ hk⟩
  clear c0 c1 c2 hf hb
  generalize w.setCell ⟨g, 2, none⟩ (.int .i64 H) = W1 at hb1 hO1
  have c0 : W1.cell? ⟨g, 0, none⟩ = some (.slice a n c) := by rw [cell_of_row _ _ _ _ _ _ hb1]; rfl
  have c1 : W1.cell? ⟨g, 1, none⟩ = some (.int .i64 (i : Int)) := by rw [cell_of_row _ _ _ _ _ _ hb1]; rfl
  have c2 : W1.cell? ⟨g, 2, none⟩ = some (.int .i64 H) := by rw [cell_of_row _ _ _ _ _ _ hb1]; rfl
  have hf : ∀ j, W1.frozen? ⟨g, j, none⟩ = false := fun j => by simp [World.frozen?, hb1]
  go_quiet (fail)
  revert nq
  intro m1
  go_wp2_with (fail)
  have hX := and_le (bits .xor .i64 (H / 8589934592) (H / 35184372088832)) 255 (by decide)
  rw [show ((255 : Nat) : Int) = (255 : Int) from rfl] at hX
  generalize bits .and .i64 (bits .xor .i64 (H / 8589934592) (H / 35184372088832)) 255 = X at hX ⊢
  obtain ⟨r, rfl⟩ := Int.eq_ofNat_of_zero_le hX.1
  have hr : r ≤ 255 := by omega
  clear hX
  have hb2 : (W1.drewN m1).heap[g]? = some (.cells #[.slice a n c, .int .i64 (i : Int), .int .i64 H] 89 (0, 0)) := hb1
  have hO2 : Only g w (W1.drewN m1) := ⟨⟨hO1.bl.os, hO1.bl.tape, hO1.bl.output, hO1.bl.size, hO1.bl.block⟩, hO1.size, hO1.at_⟩
  clear c0 c1 c2 hf hb1 hO1
  generalize W1.drewN m1 = W2 at hb2 hO2
  have c0 : W2.cell? ⟨g, 0, none⟩ = some (.slice a n c) := by rw [cell_of_row _ _ _ _ _ _ hb2]; rfl
  have c1 : W2.cell? ⟨g, 1, none⟩ = some (.int .i64 (i : Int)) := by rw [cell_of_row _ _ _ _ _ _ hb2]; rfl
  have hf : ∀ j, W2.frozen? ⟨g, j, none⟩ = false := fun j => by simp [World.frozen?, hb2]
  by_cases hin : i < n
  · obtain ⟨b, off, rfl, hcc⟩ := hcell (by omega)
    obtain ⟨x, hx, hcx⟩ := hcc i hin
    have hbg : b ≠ g := hg _ _ n (by omega) rfl ⟨b, off, none⟩ rfl
    have hcx2 : W2.cell? ⟨b, off + i, none⟩ = some (.int .u8 (x : Int)) := by
      rw [← hcx]
      simp only [World.cell?, hO2.at_ b hbg]
    clear hcc hcell hcx
    have q : (i : Int) < (n : Int) := by omega
    have q0 : (0 : Int) ≤ (i : Int) := by omega
    have e1 : IntKind.i64.wrap ((r : Int) + (x : Int)) = (r : Int) + (x : Int) := IntWalk.i64_in _ (by omega)
    have hX := and_le ((r : Int) + (x : Int)) 255 (by decide)
    rw [show ((255 : Nat) : Int) = (255 : Int) from rfl] at hX
    have e2 : IntKind.i64.wrap (x : Int) = (x : Int) := IntWalk.i64_in _ (by omega)
    have e3 : IntKind.i64.wrap ((i : Int) + 1) = (i : Int) + 1 := IntWalk.i64_in _ (by omega)
    go_quiet (fail)
    revert nq
    intro m2
    go_wp2_with (fail)
    go_quiet (fail)
    revert nq
    intro m3
    go_wp2_with (fail)
    generalize bits .and .i64 ((r : Int) + (x : Int)) 255 = X at hX ⊢
    obtain ⟨r', rfl⟩ := Int.eq_ofNat_of_zero_le hX.1
    go_ret
    refine ⟨r', by omega, rfl, ⟨i + 1, H, by omega, ?_⟩, ⟨Below.setCell (p := ⟨g, 1, none⟩) (show Below g w (W2.drewN (m2 + m3)) from ⟨hO2.bl.os, hO2.bl.tape, hO2.bl.output, hO2.bl.size, hO2.bl.block⟩) (Nat.le_refl g) _, ?_, fun k hk => ?_⟩⟩
    · show ((W2.drewN (m2 + m3)).heap.modify g _)[g]? = _
      rw [Array.getElem?_modify, if_pos rfl, show (W2.drewN (m2 + m3)).heap[g]? = _ from hb2]
      rfl
    · rw [World.size_setCell]; exact hO2.size
    · rw [Below.heap_setCell _ _ _ _ hk]; exact hO2.at_ k hk
  · have q : ¬ ((i : Int) < (n : Int)) := by omega
    go_quiet (fail)
    revert nq
    intro m2
    go_wp2_with (fail)
    go_ret
    exact ⟨r, hr, rfl, ⟨i, H, hi, hb2⟩, ⟨⟨hO2.bl.os, hO2.bl.tape, hO2.bl.output, hO2.bl.size, hO2.bl.block⟩, hO2.size, hO2.at_⟩⟩

theorem Only.trans {g : Nat} {a b c : World} (h : Only g a b) (k : Only g b c) : Only g a c :=
  ⟨h.bl.trans k.bl, k.size.trans h.size, fun i hi => (k.at_ i hi).trans (h.at_ i hi)⟩

theorem Only.rdB {g : Nat} {w w' : World} {v : Value} {n : Nat} (h : Only g w w') (hv : RdB w v n) (hg : ∀ a c k, 0 < k → v = .slice a k c → ∀ ad, a = some ad → ad.block ≠ g) : RdB w' v n := by
  obtain ⟨a, c, rfl, hv⟩ := hv
  refine ⟨a, c, rfl, fun h0 => ?_⟩
  obtain ⟨b, off, rfl, hc⟩ := hv h0
  refine ⟨b, off, rfl, fun j hj => ?_⟩
  obtain ⟨x, hx, hcx⟩ := hc j hj
  refine ⟨x, hx, ?_⟩
  rw [← hcx]
  simp only [World.cell?, h.at_ b (hg _ _ n h0 rfl ⟨b, off, none⟩ rfl)]

end Go.Proofs.Ytoeflkmhofkiaaa
