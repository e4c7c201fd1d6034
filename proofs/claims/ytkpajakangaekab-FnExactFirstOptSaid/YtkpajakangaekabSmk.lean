import Derived.Test.YtkpajakangaekabCel
import Derived.IntWalk
import Derived.BigQuiet
import Derived.Deep.QuietTactic
import Derived.Lib.Hide
namespace Go.Proofs.Ytkpajakangaekab
open Go.RowKit

/-- The twelve letters. -/
def letters : ByteArray := ⟨#[105, 102, 116, 110, 97, 115, 117, 108, 100, 112, 107, 109]⟩

/-- Does letter x stand among the first m of a shape. -/
def hasAt (sh : ByteArray) (m x : Nat) : Bool := (List.range m).any fun i => (letters[x]!).toNat == (sh[2 * i]!).toNat

/-- .. where of the next one the first j letters have been asked. -/
def midUp (sh : ByteArray) (m j : Nat) : List Bool := (List.range 12).map fun x => hasAt sh m x || (decide (x < j) && (letters[x]!).toNat == (sh[2 * m]!).toNat)

def hasUp (sh : ByteArray) (m : Nat) : List Bool := (List.range 12).map fun x => hasAt sh m x

theorem midUp_zero (sh : ByteArray) (m : Nat) : midUp sh m 0 = hasUp sh m := by simp [midUp, hasUp]
theorem midUp_end (sh : ByteArray) (m : Nat) : midUp sh m 12 = hasUp sh (m + 1) := by
  unfold midUp hasUp
  apply List.map_congr_left
  intro x hx
  have : x < 12 := by simpa using hx
  simp [hasAt, List.range_succ, this]
theorem midUp_length (sh : ByteArray) (m j : Nat) : (midUp sh m j).length = 12 := by simp [midUp]
theorem hasUp_length (sh : ByteArray) (m : Nat) : (hasUp sh m).length = 12 := by simp [hasUp]
theorem midUp_yes (sh : ByteArray) (m j : Nat) (h : (letters[j]!).toNat = (sh[2 * m]!).toNat) : (midUp sh m j).set j true = midUp sh m (j + 1) := by
  apply List.ext_getElem
  · simp [midUp]
  · intro x h1 h2
    rw [List.getElem_set]
    by_cases hx : j = x
    · subst hx; simp [midUp, h]
    · rw [if_neg hx]
      have e : (x < j) = (x < j + 1) := by simp; omega
      simp [midUp, e]
theorem midUp_no (sh : ByteArray) (m j : Nat) (h : ¬ (letters[j]!).toNat = (sh[2 * m]!).toNat) : midUp sh m j = midUp sh m (j + 1) := by
  unfold midUp
  apply List.map_congr_left
  intro x hx
  by_cases hx : x = j
  · subst hx; simp [h]
  · have e : (x < j) = (x < j + 1) := by simp; omega
    simp [e]
attribute [irreducible] midUp hasUp

theorem make_bools (W : World) : (Instr.makeSlice 104 (.int .i64 12) (.int .i64 12)).run Try.prog W = .ok (.slice (some ⟨W.heap.size, 0, none⟩) 12 12) (W.alloc (.cells ((List.replicate 12 false).map Value.bool).toArray 4)) := by kernel_rfl

set_option maxHeartbeats 1000000 in
theorem spec_marks (sh : ByteArray) (n : Nat) (hn : sh.size = 2 * n) (h8 : n ≤ 100) (w : World) :
    Calls Try.prog 60 #[.string sh] w fun e w' => e = .returned (.slice (some ⟨w.heap.size, 0, none⟩) 12 12) ∧ Cel w' w.heap.size 4 ((hasUp sh n).map Value.bool).toArray ∧ Below w.heap.size w w' := by
  have hmk := make_bools w
  have HN := Lib.hid hn
  clear hn
  have hi : Cel (w.alloc (.cells ((List.replicate 12 false).map Value.bool).toArray 4)) w.heap.size 4 ((hasUp sh 0).map Value.bool).toArray := by
    have e : hasUp sh 0 = List.replicate 12 false := by unfold hasUp hasAt; rfl
    rw [e]
    exact Cel.new _ _ _
  have hB := (Below.refl w.heap.size w).alloc (Nat.le_refl _) (.cells ((List.replicate 12 false).map Value.bool).toArray 4)
  generalize w.alloc (.cells ((List.replicate 12 false).map Value.bool).toArray 4) = W1 at hmk hi hB
  go_enter Try.func60, Try.ntmps60
  go_wp2_with (fail)
  go_loopw [4] (fun i wr => ∃ m x : Nat, x = 2 * m ∧ m ≤ n ∧ i = .int .i64 x ∧ Cel wr w.heap.size 4 ((hasUp sh m).map Value.bool).toArray ∧ Below w.heap.size w wr) (fun i _ => sh.size - (intOf i).toNat)
  case atStart => exact ⟨0, 0, rfl, by omega, rfl, hi, hB⟩
  case round =>
    clear hi hB hmk
    obtain ⟨m, x, hx, hm, rfl, hi, hB⟩ := hrel
    have hn := HN.out
    have qb : (x : Int) ≤ 200 := by omega
    by_cases hlt : m < n
    · have q0 : (x : Int) + 1 < (sh.size : Int) := by omega
      have q1 : x < sh.size := by omega
      have q2 : (x : Int) < (sh.size : Int) := by omega
      have HX := Lib.hid hx
      clear hx hn
      go_wp2_with (fail)
      obtain ⟨wo, rfl⟩ : ∃ wo : World, wo = wr := ⟨_, rfl⟩
      go_loopw [5] (fun k wi => ∃ j : Nat, j ≤ 12 ∧ k = .int .i64 j ∧ Cel wi w.heap.size 4 ((midUp sh m j).map Value.bool).toArray ∧ Below w.heap.size w wi) (fun k _ => 12 - (intOf k).toNat)
      case atStart => exact ⟨0, by omega, rfl, by rw [midUp_zero]; exact hi, hB⟩
      case round =>
        clear hi hB
        obtain ⟨j, hj, rfl, hi, hB⟩ := hrel
        have hc := hi.cell j
        have hf := hi.frozen j
        by_cases hjt : j < 12
        · have q3 : (j : Int) < 12 := by omega
          have hlen := midUp_length sh m j
          have hcj : (((midUp sh m j).map Value.bool).toArray)[j]? = some (.bool ((midUp sh m j)[j]'(by omega))) := by simp [hlen, hjt]
          rw [hcj] at hc
          clear hcj
          generalize (midUp sh m j)[j]'_ = y at hc
          clear hlen
          have hL : (letters[j]!).toNat = (letters[j]'(by exact hjt)).toNat := by rw [getElem!_pos letters j hjt]
          have hS : (sh[2 * m]!).toNat = (sh[x]'q1).toNat := by rw [← HX.out, getElem!_pos sh x q1]
          by_cases he : (letters[j]'(by exact hjt)).toNat = (sh[x]'q1).toNat
          · have hset := hi.set j (.bool true)
            have hnew : (((midUp sh m j).map Value.bool).toArray).setIfInBounds j (.bool true) = ((midUp sh m (j + 1)).map Value.bool).toArray := by
              rw [← midUp_yes sh m j (by rw [hL, hS, he]), List.map_set, List.setIfInBounds_toArray]
            rw [hnew] at hset
            have hb2 := hB.setCell (p := ⟨w.heap.size, j, none⟩) (Nat.le_refl _) (.bool true)
            have e1 : (((letters[j]'(by exact hjt)).toNat : Int) == ((sh[x]'q1).toNat : Int)) = true := by simp [he]
            have e2 : ((letters[j]'(by exact hjt)).toNat : Int) = ((sh[x]'q1).toNat : Int) := by omega
            unfold letters at e1 e2
            clear hL hS he hi hnew hB
            go_wp2_with (fail)
            go_quiet (fail)
            go_wp2_with (fail)
            go_roundw
            case rel => exact ⟨j + 1, by omega, by go_num, hset, ⟨hb2.os, hb2.tape, hb2.output, hb2.size, hb2.block⟩⟩
            case measure => simp [intOf]; omega
          · rw [midUp_no sh m j (by rw [hL, hS]; exact he)] at hi
            have e1 : (((letters[j]'(by exact hjt)).toNat : Int) == ((sh[x]'q1).toNat : Int)) = false := by simp; omega
            have e2 : ¬ ((letters[j]'(by exact hjt)).toNat : Int) = ((sh[x]'q1).toNat : Int) := by omega
            unfold letters at e1 e2
            clear hL hS he hc hf
            go_wp2_with (fail)
            go_quiet (fail)
            go_wp2_with (fail)
            go_roundw
            case rel => exact ⟨j + 1, by omega, by go_num, hi, ⟨hB.os, hB.tape, hB.output, hB.size, hB.block⟩⟩
            case measure => simp [intOf]; omega
        · obtain rfl : j = 12 := by omega
          rw [midUp_end] at hi
          clear hc hf
          go_wp2_with (fail)
          go_roundw
          case rel => exact ⟨m + 1, x + 2, by have := HX.out; omega, by omega, by go_num, hi, hB⟩
          case measure => simp [intOf]; omega
    · obtain rfl : m = n := by omega
      have q0 : ¬ ((x : Int) + 1 < (sh.size : Int)) := by omega
      clear hx hn
      go_wp2_with (fail)
      go_ret
      exact ⟨rfl, hi, hB⟩
end Go.Proofs.Ytkpajakangaekab
