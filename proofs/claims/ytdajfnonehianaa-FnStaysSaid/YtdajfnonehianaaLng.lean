import Derived.Test.YtdajfnonehianaaBBlk
import Derived.Test.YtdajfnonehianaaDr
import Derived.Lib.Hide
namespace Go.Proofs.Ytdajfnonehianaa
open Go.RowKit

/-- The first k bytes are x, the others zero. -/
def laidOf (n : Nat) (x : UInt8) (k : Nat) : Array UInt8 := (List.replicate k x ++ List.replicate (n - k) 0).toArray

theorem laidOf_size (n : Nat) (x : UInt8) (k : Nat) (h : k ≤ n) : (laidOf n x k).size = n := by
  unfold laidOf; simp; omega

theorem laidOf_succ (n : Nat) (x : UInt8) (k : Nat) (h : k < n) : laidOf n x (k + 1) = (laidOf n x k).setIfInBounds k x := by
  unfold laidOf
  apply Array.toList_inj.1
  simp only [Array.toList_setIfInBounds]
  have e : n - k = (n - (k + 1)) + 1 := by omega
  rw [e, show List.replicate (n - (k + 1) + 1) (0 : UInt8) = 0 :: List.replicate (n - (k + 1)) 0 from rfl, List.set_append_right _ _ (by simp), List.replicate_succ']
  simp

attribute [irreducible] laidOf

set_option maxHeartbeats 400000 in
theorem spec_long (n : Nat) (x : UInt8) (w : World) (hn : n ≤ 1000000) :
    Calls Try.prog 61 #[.int .i64 (n : Int), .int .u8 (x.toNat : Int)] w fun e w' => e = .returned (.string ⟨(List.replicate n x).toArray⟩) ∧ Below w.heap.size w w' := by
  have hmk := makeRow n hn
  have hb0 : BBlk (w.alloc (.cells ((Array.replicate n (0 : UInt8)).map cb) 5)) w.heap.size (laidOf n x 0) := by
    show (w.heap.push _)[w.heap.size]? = _
    unfold laidOf
    simp
  have hB0 : Below w.heap.size w (w.alloc (.cells ((Array.replicate n (0 : UInt8)).map cb) 5)) := (Below.refl _ _).alloc (Nat.le_refl _) _
  have hend : (laidOf n x n).toList = List.replicate n x := by unfold laidOf; simp
  generalize List.replicate n x = fin at hend
  generalize (Array.replicate n (0 : UInt8)).map cb = z at hmk hb0 hB0
  go_enter Try.func61, Try.ntmps61
  go_wp2_with (fail)
  clear hmk
  go_loopw [6] (fun i wr => ∃ k : Nat, k ≤ n ∧ i = .int .i64 k ∧ BBlk wr w.heap.size (laidOf n x k) ∧ Below w.heap.size w wr) (fun i _ => n - (intOf i).toNat)
  case atStart => exact ⟨0, by omega, rfl, hb0, hB0⟩
  case round =>
    clear hb0 hB0
    obtain ⟨k, hk, rfl, hb, hB⟩ := hrel
    by_cases hlt : k < n
    · have q : (k : Int) < (n : Int) := by omega
      have hsucc := laidOf_succ n x k hlt
      obtain ⟨v0, o0⟩ := hb.cell k (by rw [laidOf_size n x k (by omega)]; exact hlt)
      have hf := hb.frozen k
      go_wp2_with (fail)
      go_roundw
      case rel =>
        refine ⟨k + 1, by omega, by go_num, ?_, hB.setCell (Nat.le_refl _) _⟩
        rw [hsucc]
        exact hb.set k x
      case measure => simp [intOf]; omega
    · obtain rfl : k = n := by omega
      have q : ¬ ((k : Int) < (k : Int)) := by omega
      have hcv := hb.conv k (laidOf_size k x k (by omega))
      have e2 : (⟨laidOf k x k⟩ : ByteArray) = ⟨fin.toArray⟩ := by rw [← hend]
      rw [e2] at hcv
      clear hend e2
      go_wp2_with (fail)
      go_ret
      exact ⟨rfl, hB⟩


theorem long_dr (n : Nat) (r : Nat) (hr : r ≤ 255) (i : Int) (hi : (n : Int) = i) (w : World) (hn : n ≤ 1000000) :
    Calls Try.prog 61 #[.int .i64 i, .int .u8 (r : Int)] w fun e w' => (∃ s, e = .returned (.string s)) ∧ Below w.heap.size w w' := by
  subst hi
  have h := spec_long n (UInt8.ofNat r) w hn
  rw [show (UInt8.ofNat r).toNat = r by simp; omega] at h
  exact h.mono fun _ _ ⟨h1, h2⟩ => ⟨⟨_, h1⟩, h2⟩
end Go.Proofs.Ytdajfnonehianaa
