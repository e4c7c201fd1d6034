import Derived.Test.YtnikehgmopcocaaDoorMt
import Derived.Test.YtnikehgmopcocaaDoorPartsS
import Derived.Deep.QuietTactic
import Derived.BigQuiet
import Derived.Deep.RegionHeld3
namespace Go.Proofs.YtnikehgmopcocaaDoor
open Go.RowKit

/-- The marks from k on. -/
def marksS (k n : Nat) : List Value := (List.range n).map fun i => .string (mtext (k + i))
theorem marksS_length (k n : Nat) : (marksS k n).length = n := by simp [marksS]
theorem marksS_get (k n i : Nat) (h : i < n) : (marksS k n)[i]'(by rw [marksS_length]; exact h) = .string (mtext (k + i)) := by simp [marksS]

/-- xs with its first j places marked from k on. -/
def markedS (xs : List Value) (k : Nat) : Nat → List Value
  | 0 => xs
  | j + 1 => (markedS xs k j).set j (.string (mtext (k + j)))
theorem markedS_length (xs : List Value) (k j : Nat) : (markedS xs k j).length = xs.length := by
  induction j with
  | zero => rfl
  | succ j ih => simp [markedS, ih]
theorem markedS_get (xs : List Value) (k j : Nat) (i : Nat) (hi : i < j) (h : i < (markedS xs k j).length) : (markedS xs k j)[i] = .string (mtext (k + i)) := by
  induction j with
  | zero => omega
  | succ j ih =>
    simp only [markedS]
    rw [List.getElem_set]
    split
    · subst_vars; rfl
    · exact ih (by omega) _
theorem markedS_all (xs : List Value) (k : Nat) : markedS xs k xs.length = marksS k xs.length := by
  apply List.ext_getElem
  · rw [markedS_length, marksS_length]
  · intro i h1 h2
    rw [marksS_length] at h2
    rw [markedS_get _ _ _ _ h2, marksS_get _ _ _ h2]

theorem mtext_size (k : Nat) (h : k < 18446744073709551616) : (mtext k).size ≤ 21 := by
  have := dg_len k h
  show (109 :: Lib.decDigits k).toArray.size ≤ 21
  simp
  omega

set_option maxHeartbeats 1000000 in
set_option maxRecDepth 100000 in
theorem eq_strs (v v' : Value) (ps : List ByteArray) (w : World) (hv : VRd w v (strVs ps)) (hv' : VRd w v' (strVs ps)) (hn : ps.length ≤ 1048576) :
    Calls Tryd.prog 14 #[v, v'] w fun e w' => e = .returned (.bool true) ∧ ∃ m, w' = w.drewN m := by
  obtain ⟨a, c, rfl, hc⟩ := hv
  obtain ⟨a', c', rfl, hc'⟩ := hv'
  rw [strVs_length]
  go_enter Tryd.func14, Tryd.ntmps14
  go_wp2_with (fail)
  go_loopw [5] (fun i wr => ∃ k : Nat, k ≤ ps.length ∧ i = .int .i64 k ∧ ∃ m, wr = w.drewN m) (fun i _ => ps.length - (intOf i).toNat)
  case atStart => exact ⟨0, by omega, rfl, 0, rfl⟩
  case round =>
    obtain ⟨k, hk, rfl, m, rfl⟩ := hrel
    by_cases hlt : k < ps.length
    · obtain ⟨b, off, rfl, hcc⟩ := hc (by rw [strVs_length]; omega)
      obtain ⟨b', off', rfl, hcc'⟩ := hc' (by rw [strVs_length]; omega)
      have h1 := hcc k (by rw [strVs_length]; exact hlt)
      have h2 := hcc' k (by rw [strVs_length]; exact hlt)
      have e : (strVs ps)[k]'(by rw [strVs_length]; exact hlt) = .string ps[k] := by simp [strVs]
      rw [e] at h1 h2
      clear e
      generalize ps[k] = x at h1 h2
      have q : (0 : Int) ≤ (k : Int) ∧ (k : Int) < (ps.length : Int) := by omega
      clear hc hc' hcc hcc'
      go_wp2_with (fail)
      go_quiet (fail)
      go_wp2_with (fail)
      go_roundw
      case rel => exact ⟨k + 1, by omega, by go_num, _, by first | rfl | exact World.drewN_drewN _ _ _⟩
      case measure => simp [intOf]; omega
    · obtain rfl : k = ps.length := by omega
      go_wp2_with (fail)
      go_ret
      exact ⟨rfl, _, rfl⟩

set_option maxHeartbeats 1000000 in
set_option maxRecDepth 100000 in
theorem mark_strs (v : Value) (xs : List Value) (w : World) (B C k : Nat) (hv : VRow w 9 B C v xs) (hC : C ≤ w.heap.size) (hn : xs.length ≤ 1048576) (hk : k ≤ 1099511627776) (hk1 : 1 ≤ k) :
    Calls Tryd.prog 15 #[v, .int .i64 (k : Int)] w fun e w' => e = .returned (.int .i64 ((k + xs.length : Nat) : Int)) ∧ VRow w' 9 B C v (marksS k xs.length) ∧ Below B w w' ∧ ∀ i < w.heap.size, v.ownBlock ≠ some i → w'.heap[i]? = w.heap[i]? := by
  rw [← markedS_all]
  obtain ⟨a, c, rfl, hform⟩ := hv.form
  go_enter Tryd.func15, Tryd.ntmps15
  go_wp2_with (fail)
  go_loopw [1, 5] (fun m i wr => ∃ j : Nat, j ≤ xs.length ∧ m = .int .i64 ((k + j : Nat) : Int) ∧ i = .int .i64 j ∧ VRow wr 9 B C (.slice a xs.length c) (markedS xs k j) ∧ Below B w wr ∧ ∀ i < w.heap.size, (Value.slice a xs.length c).ownBlock ≠ some i → wr.heap[i]? = w.heap[i]?) (fun _ i _ => xs.length - (intOf i).toNat)
  case atStart => exact ⟨0, by omega, rfl, rfl, hv, Below.refl _ _, fun _ _ _ => rfl⟩
  case round =>
    clear hv
    obtain ⟨j, hj, rfl, rfl, hr, hB, ho⟩ := hrel
    by_cases hlt : j < xs.length
    · obtain ⟨g, rfl, hg, hgC⟩ := hform (by omega)
      have hsz := hB.size
      have q : (0 : Int) ≤ (j : Int) ∧ (j : Int) < (xs.length : Int) := by omega
      have e1 : IntKind.i64.wrap (((k + j : Nat) : Int) + 1) = ((k + (j + 1) : Nat) : Int) := by rw [IntWalk.i64_in _ (by omega)]; omega
      have hs := markedS.eq_2 xs k j
      have hx1 : 1 ≤ k + j := by omega
      have hx2 : k + j ≤ 9223372036854775807 := by omega
      obtain ⟨x, hx⟩ : ∃ x, k + j = x := ⟨_, rfl⟩
      rw [hx] at e1 hs hx1 hx2 ⊢
      have cm := fun W => mark_text x W hx1 hx2
      generalize mtext x = y at cm hs
      have hcell := fun (W : World) (hb : Below wr.heap.size wr W) => (hr.keep hb (by omega)).cell j (by rw [markedS_length]; exact hlt)
      go_wp2_with (fail)
      with_reducible refine (cm _).mono ?_
      rintro e w3 ⟨rfl, hb3⟩
      obtain ⟨hc3, hf3⟩ := hcell w3 hb3
      generalize (markedS xs k j)[j]'_ = y0 at hc3
      have hz := hb3.size
      have HR := Lib.hid (hs ▸ (hr.keep hb3 (by omega)).set j (.string y))
      have HB := Lib.hid ((hB.trans (hb3.mono (by omega))).setCell (p := ⟨g, j, none⟩) hg (.string y))
      have HO := Lib.hid (show ∀ i < w.heap.size, (Value.slice (some ⟨g, 0, none⟩) xs.length c).ownBlock ≠ some i → (w3.setCell ⟨g, j, none⟩ (.string y)).heap[i]? = w.heap[i]? from fun i hi hne => by
        rw [Below.heap_setCell _ _ _ _ (fun h => hne (by simp [Value.ownBlock, h])), hb3.block i (by omega)]
        exact ho i hi hne)
      clear hr ho hcell hs hb3 cm
      go_wp2_with (fail)
      go_roundw
      case rel => exact ⟨j + 1, by omega, by rw [show ((k : Int) + ((j : Int) + 1)) = ((k + (j + 1) : Nat) : Int) by omega], by go_num, HR.out, HB.out, HO.out⟩
      case measure => simp [intOf]; omega
    · obtain rfl : j = xs.length := by omega
      have HR := Lib.hid hr
      have HO := Lib.hid ho
      clear hr ho
      go_wp2_with (fail)
      go_ret
      exact ⟨rfl, HR.out, hB, HO.out⟩

theorem keep_cell {w W W' : World} {b j : Nat} {y : ByteArray} (h : W.cell? ⟨b, j, none⟩ = some (.string y) ∧ Below w.heap.size w W) (hb : Below W.heap.size W W') : W'.cell? ⟨b, j, none⟩ = some (.string y) ∧ Below w.heap.size w W' :=
  ⟨by rw [hb.cell (World.block_lt_of_cell? _ _ h.1)]; exact h.1, Below.then_ h.2 hb⟩

set_option maxHeartbeats 1000000 in
set_option maxRecDepth 100000 in
theorem held_strs (v : Value) (k n : Nat) (w : World) (hv : VRd w v (marksS k n)) (hn : n ≤ 1048576) (hk : k ≤ 1099511627776) (hk1 : 1 ≤ k) :
    Calls Tryd.prog 16 #[v, .int .i64 (k : Int)] w fun e w' => e = .returned (.int .i64 ((k + n : Nat) : Int)) ∧ Below w.heap.size w w' := by
  obtain ⟨a, c, rfl, hc⟩ := hv
  rw [marksS_length]
  go_enter Tryd.func16, Tryd.ntmps16
  go_wp2_with (fail)
  go_loopw [1, 5] (fun m i wr => ∃ j : Nat, j ≤ n ∧ m = .int .i64 ((k + j : Nat) : Int) ∧ i = .int .i64 j ∧ Below w.heap.size w wr) (fun _ i _ => n - (intOf i).toNat)
  case atStart => exact ⟨0, by omega, rfl, rfl, Below.refl _ _⟩
  case round =>
    obtain ⟨j, hj, rfl, rfl, hb⟩ := hrel
    by_cases hlt : j < n
    · obtain ⟨b, off, rfl, hcc⟩ := hc (by rw [marksS_length]; omega)
      have h1 := hcc j (by rw [marksS_length]; exact hlt)
      rw [marksS_get k n j hlt] at h1
      have q : (0 : Int) ≤ (j : Int) ∧ (j : Int) < (n : Int) := by omega
      have e1 : IntKind.i64.wrap (((k + j : Nat) : Int) + 1) = ((k + (j + 1) : Nat) : Int) := by rw [IntWalk.i64_in _ (by omega)]; omega
      have hx1 : 1 ≤ k + j := by omega
      have hx2 : k + j ≤ 9223372036854775807 := by omega
      obtain ⟨x, hx⟩ : ∃ x, k + j = x := ⟨_, rfl⟩
      rw [hx] at e1 h1 hx1 hx2 ⊢
      have cm := fun W => mark_text x W hx1 hx2
      generalize mtext x = y at cm h1
      rw [← hb.cell (World.block_lt_of_cell? _ _ h1)] at h1
      have S0 : wr.drew.cell? ⟨b, off + j, none⟩ = some (.string y) ∧ Below w.heap.size w wr.drew := ⟨h1, hb.drew⟩
      clear hc hcc
      go_wp2_with (fail)
      go_region_held3 (fun W => W.cell? ⟨b, off + j, none⟩ = some (.string y) ∧ Below w.heap.size w W)
        (first | exact S0 | exact keep_cell (by assumption) (by assumption) | go_keep)
        (first | (go_at_call 25; (with_reducible refine (cm _).mono ?_); rintro e w3 ⟨rfl, hb3⟩))
      go_wp2_with (fail)
      go_roundw
      case rel => exact ⟨j + 1, by omega, by rw [show ((k : Int) + ((j : Int) + 1)) = ((k + (j + 1) : Nat) : Int) by omega], by go_num, Below.then_ hb.drew hb3⟩
      case measure => simp [intOf]; omega
    · obtain rfl : j = n := by omega
      go_wp2_with (fail)
      go_ret
      exact ⟨rfl, hb⟩

end Go.Proofs.YtnikehgmopcocaaDoor
