import Derived.Test.YtjnobggefofjcacDoorMath
import Derived.Test.YtjnobggefofjcacDoorPad
namespace Go.Proofs.YtjnobggefofjcacDoor
open Go.RowKit

/-- Byte of a word. -/
def wbyte (x : BitVec 32) (n : Nat) : UInt8 := UInt8.ofNat (x.toNat / 2 ^ n % 256)

/-- A word's four bytes. -/
def wordBytes (x : BitVec 32) : List UInt8 := [wbyte x 24, wbyte x 16, wbyte x 8, wbyte x 0]

/-- The bytes of the first k words. -/
def stText (d : Array (BitVec 32)) (k : Nat) : List UInt8 := (List.range k).flatMap fun i => wordBytes d[i]!

theorem stText_succ (d : Array (BitVec 32)) (k : Nat) : stText d (k + 1) = stText d k ++ wordBytes d[k]! := by
  simp [stText, List.range_succ]

theorem stText_length (d : Array (BitVec 32)) (k : Nat) : (stText d k).length = 4 * k := by
  induction k with
  | zero => rfl
  | succ k ih => rw [stText_succ, List.length_append, ih]; simp [wordBytes]; omega

theorem wbyte_int (x : BitVec 32) (n : Nat) : (x.toNat : Int) / 2 ^ n % 256 = ((wbyte x n).toNat : Int) := by
  have : ((x.toNat : Int) / 2 ^ n) = ((x.toNat / 2 ^ n : Nat) : Int) := by norm_cast
  rw [this]
  unfold wbyte
  simp

attribute [irreducible] wbyte stText

attribute [-simp] Tryd.isAgg67 Tryd.sizeOf67

set_option maxHeartbeats 1000000 in
set_option maxRecDepth 100000 in
theorem impl_text (d : Array (BitVec 32)) (hd : d.size = 8) (w : World) :
    Calls Tryd.prog 54 #[.agg (d.map u)] w fun e w' => e = .returned (.string ⟨(stText d 8).toArray⟩) ∧ Below w.heap.size w w' := by
  obtain ⟨i0, hi, hz0, hz1, hz2⟩ := info_parts info5
  have hB0 : Below w.heap.size w (w.alloc (.cells (d.map u) 67)) := (Below.refl _ _).alloc (Nat.le_refl _) _
  have hd0 := Blk.new w 67 d
  go_enter Tryd.func54, Tryd.ntmps54
  go_wp2_with (at_make; refine wpList_make_own _ rfl _ _ 33 rfl w.heap.size 5 i0 _ 1 Tryd.underlying33 hi hz0 hz1 .i64 .i64 _ 32 rfl rfl (by omega) (by rw [hz2]; omega) (by unfold maxLen; omega) (by simp) ?_; intro w1 hown1 hgrow1)
  have hB1 := hB0.grown hgrow1 (by simp) (by simp)
  have hd1 : Blk w1 w.heap.size 67 d := by
    show w1.heap[w.heap.size]? = _
    rw [hgrow1.block _ (by simp) (by simp)]
    exact hd0
  clear hB0 hd0
  have hld := load_open hd1 hd
  clear hd1 hgrow1
  simp only [World.size_alloc] at hown1
  simp only [Tryd.isAgg67, Tryd.sizeOf67, Result.andThen, ↓reduceIte, hld]
  rw [Oper.upon_value]
  clear hld
  go_wp2_with (fail)
  go_loopw [3, 8] (fun v i wr => ∃ k g cap : Nat, k ≤ 8 ∧ i = .int .i64 k ∧ v = .slice (some ⟨g, 0, none⟩) (4 * k) cap ∧ wr.ownsRow w.heap.size 5 1 (.slice (some ⟨g, 0, none⟩) (4 * k) cap) (4 * k) ((stText d k).map cb) ∧ Below w.heap.size w wr) (fun _ i _ => 8 - (intOf i).toNat)
  case atStart => exact ⟨0, w.heap.size + 1, 32, by omega, rfl, rfl, by simpa [stText] using hown1, hB1⟩
  case round =>
    clear hown1 hB1
    obtain ⟨k, g, cap, hk, rfl, rfl, hown, hB⟩ := hrel
    by_cases hlt : k < 8
    · have cx := index_agg 67 Tryd.underlying67 d hd k hlt
      have hsucc := stText_succ d k
      generalize d[k]! = x at cx hsucc
      have b1 := wbyte_int x 24
      have b2 := wbyte_int x 16
      have b3 := wbyte_int x 8
      have b4 := wbyte_int x 0
      simp only [Int.reducePow, Int.pow_zero, Int.ediv_one] at b1 b2 b3 b4
      have b0 : (x.toNat : Int) / 16777216 = ((wbyte x 24).toNat : Int) := by have := x.isLt; omega
      unfold wordBytes at hsucc
      generalize wbyte x 24 = y1 at b0 b1 hsucc
      generalize wbyte x 16 = y2 at b2 hsucc
      generalize wbyte x 8 = y3 at b3 hsucc
      generalize wbyte x 0 = y4 at b4 hsucc
      have q : (k : Int) < 8 := by omega
      have hsz := hB.size
      go_wp2_with (at_builtin; refine wpList_append_own _ rfl _ _ 33 rfl w.heap.size 5 i0 (.int .u8 0) 1 1 Tryd.underlying33 hi hz0 hz1 hz2 rfl (by decide) _ _ _ rfl (hown.alloc _) ⟨wr.heap.size, 0, none⟩ 4 4 [cb y1, cb y2, cb y3, cb y4] rfl rfl ?c1 ?c2 ?c3 ?c4 ?c5 ?_)
      case c1 =>
        intro j u hj
        match j, hj with
        | 0, hj => simp at hj; subst hj; simp [Addr.add, cb]
        | 1, hj => simp at hj; subst hj; simp [Addr.add, cb]
        | 2, hj => simp at hj; subst hj; simp [Addr.add, cb]
        | 3, hj => simp at hj; subst hj; simp [Addr.add, cb]
      case c2 => intro u hu; simp at hu; rcases hu with rfl | rfl | rfl | rfl <;> rfl
      case c3 => unfold maxLen; omega
      case c4 => omega
      case c5 => simp; omega
      intro v' w2 hown' hgrow _
      have hB2 : Below w.heap.size w w2 := (hB.alloc hsz _).grown hgrow (by simp; omega) (fun j hj => (hown.lt j hj).1)
      have e4 : 4 * k + 4 = 4 * (k + 1) := by omega
      have e5 : (stText d k).map cb ++ [cb y1, cb y2, cb y3, cb y4] = (stText d (k + 1)).map cb := by rw [hsucc]; simp
      rw [e4, e5] at hown'
      obtain ⟨g', cap', rfl⟩ : ∃ g cap, v' = .slice (some ⟨g, 0, none⟩) (4 * (k + 1)) cap := by
        rcases hown'.2 with ⟨_, h0⟩ | ⟨g, cap, cur, hv, _⟩
        · omega
        · exact ⟨g, cap, hv⟩
      clear hown hB hgrow b0 b1 b2 b3 b4 cx e4 e5
      go_wp2_with (fail)
      go_roundw
      case rel => exact ⟨k + 1, g', cap', by omega, by go_num, rfl, hown', hB2⟩
      case measure => simp [intOf]; omega
    · obtain rfl : k = 8 := by omega
      have hrow := BRow.of_own (B := w.heap.size) (l := stText d 8) (by rw [stText_length]; exact hown) (by rw [stText_length]; omega)
      have hcv := hrow.conv
      clear hrow hown
      go_wp2_with (fail)
      go_ret
      exact ⟨rfl, hB⟩
end Go.Proofs.YtjnobggefofjcacDoor
