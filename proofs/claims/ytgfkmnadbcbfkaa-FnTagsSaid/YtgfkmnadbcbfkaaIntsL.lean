import Derived.Test.YtgfkmnadbcbfkaaInts0
namespace Go.Proofs.Ytgfkmnadbcbfkaa
open Go.RowKit

/-- The integers k, k + 1, .., n of them. -/
def marks (k n : Nat) : List Int := (List.range n).map fun j => ((k + j : Nat) : Int)

theorem marks_length (k n : Nat) : (marks k n).length = n := by simp [marks]
theorem marks_get (k n j : Nat) (h : j < n) : (marks k n)[j]'(by rw [marks_length]; exact h) = ((k + j : Nat) : Int) := by simp [marks]

set_option maxHeartbeats 1000000 in
set_option maxRecDepth 100000 in
theorem to_ints (v : Value) (zs : List Int) (w : World) (hv : Rd w v zs) (hn : zs.length ≤ 1048576) :
    Calls Try.prog 41 #[v] w fun e w' => ∃ v', e = .returned v' ∧ IRow w' w.heap.size (w.heap.size + 1) v' zs ∧ Below w.heap.size w w' := by
  obtain ⟨a, c, rfl, hc⟩ := hv
  have hmk := make_ints zs.length hn w
  have hB := (Below.refl w.heap.size w).alloc (Nat.le_refl _) (.cells ((Array.replicate zs.length (0 : Int)).map (Value.int .i64)) 3)
  have hi := alloc_iblk w (Array.replicate zs.length (0 : Int))
  generalize w.alloc (.cells ((Array.replicate zs.length (0 : Int)).map (Value.int .i64)) 3) = W1 at hmk hB hi
  go_enter Try.func41, Try.ntmps41
  go_wp2_with (fail)
  go_loopw [4] (fun i wr => ∃ k : Nat, k ≤ zs.length ∧ i = .int .i64 k ∧ (∃ d : Array Int, d.size = zs.length ∧ (∀ j (h : j < zs.length), j < k → d[j]! = zs[j]) ∧ IBlk wr w.heap.size d) ∧ Below w.heap.size w wr) (fun i _ => zs.length - (intOf i).toNat)
  case atStart => exact ⟨0, by omega, rfl, ⟨_, by simp, fun j _ h => by omega, hi⟩, hB⟩
  case round =>
    clear hi hB hmk
    obtain ⟨k, hk, rfl, ⟨d, hd, hdj, hi⟩, hB⟩ := hrel
    by_cases hlt : k < zs.length
    · obtain ⟨b, off, rfl, hcc⟩ := hc (by omega)
      have h1 := hcc k hlt
      have hbl := World.block_lt_of_cell? _ _ h1
      rw [← hB.cell hbl] at h1
      have h2 := hi.cell k (by omega)
      have hf := hi.frozen k
      obtain ⟨x, hx⟩ : ∃ x, zs[k] = x := ⟨_, rfl⟩
      rw [hx] at h1
      generalize d[k]! = y at h2
      have q : (0 : Int) ≤ (k : Int) ∧ (k : Int) < (zs.length : Int) := by omega
      go_wp2_with (fail)
      go_roundw
      case rel =>
        refine ⟨k + 1, by omega, by go_num, ⟨d.setIfInBounds k x, by simp [hd], fun j hj hjk => ?_, hi.set k x⟩, hB.setCell (Nat.le_refl _) _⟩
        by_cases hjk2 : j = k
        · subst hjk2
          rw [getElem!_pos _ _ (by simp [hd]; exact hj), Array.getElem_setIfInBounds, if_pos rfl, hx]
          simp [hd]; exact hj
        · rw [getElem!_pos _ _ (by simp [hd]; exact hj), Array.getElem_setIfInBounds, if_neg (by omega), ← hdj j hj (by omega), getElem!_pos _ _ (by rw [hd]; exact hj)]
      case measure => simp [intOf]; omega
    · obtain rfl : k = zs.length := by omega
      have hdz : d.toList = zs := by
        apply List.ext_getElem
        · simp [hd]
        · intro j h1 h2
          have := hdj j h2 h2
          rw [getElem!_pos _ _ (by rw [hd]; exact h2)] at this
          simpa using this
      have hr := hi.row (B := w.heap.size) (C := w.heap.size + 1) (Nat.le_refl _) (by omega) (by rw [hd]; unfold maxLen; omega)
      rw [hdz, hd] at hr
      go_wp2_with (fail)
      go_ret
      exact ⟨_, rfl, hr, hB⟩

set_option maxHeartbeats 1000000 in
set_option maxRecDepth 100000 in
theorem eq_ints (v v' : Value) (zs : List Int) (w : World) (hv : Rd w v zs) (hv' : Rd w v' zs) (hn : zs.length ≤ 1048576) :
    Calls Try.prog 43 #[v, v'] w fun e w' => e = .returned (.bool true) ∧ ∃ m, w' = w.drewN m := by
  obtain ⟨a, c, rfl, hc⟩ := hv
  obtain ⟨a', c', rfl, hc'⟩ := hv'
  go_enter Try.func43, Try.ntmps43
  go_wp2_with (fail)
  go_loopw [5] (fun i wr => ∃ k : Nat, k ≤ zs.length ∧ i = .int .i64 k ∧ ∃ m, wr = w.drewN m) (fun i _ => zs.length - (intOf i).toNat)
  case atStart => exact ⟨0, by omega, rfl, 0, rfl⟩
  case round =>
    obtain ⟨k, hk, rfl, m, rfl⟩ := hrel
    by_cases hlt : k < zs.length
    · obtain ⟨b, off, rfl, hcc⟩ := hc (by omega)
      obtain ⟨b', off', rfl, hcc'⟩ := hc' (by omega)
      have h1 := hcc k hlt
      have h2 := hcc' k hlt
      generalize zs[k] = x at h1 h2
      have q : (0 : Int) ≤ (k : Int) ∧ (k : Int) < (zs.length : Int) := by omega
      clear hc hc' hcc hcc'
      go_wp2_with (fail)
      go_quiet (fail)
      go_wp2_with (fail)
      go_roundw
      case rel => exact ⟨k + 1, by omega, by go_num, _, by first | rfl | exact World.drewN_drewN _ _ _⟩
      case measure => simp [intOf]; omega
    · obtain rfl : k = zs.length := by omega
      go_wp2_with (fail)
      go_ret
      exact ⟨rfl, _, rfl⟩

/-- zs with its first j places marked from k on. -/
def marked (zs : List Int) (k : Nat) : Nat → List Int
  | 0 => zs
  | j + 1 => (marked zs k j).set j ((k + j : Nat) : Int)

theorem marked_length (zs : List Int) (k j : Nat) : (marked zs k j).length = zs.length := by
  induction j with
  | zero => rfl
  | succ j ih => simp [marked, ih]

theorem marked_get (zs : List Int) (k j : Nat) (i : Nat) (hi : i < j) (h : i < (marked zs k j).length) : (marked zs k j)[i] = ((k + i : Nat) : Int) := by
  induction j with
  | zero => omega
  | succ j ih =>
    simp only [marked]
    rw [List.getElem_set]
    by_cases hij : j = i
    · subst hij; simp
    · rw [if_neg hij]
      exact ih (by omega) (by rw [marked_length] at h ⊢; exact h)

theorem marked_all (zs : List Int) (k : Nat) : marked zs k zs.length = marks k zs.length := by
  apply List.ext_getElem
  · rw [marked_length, marks_length]
  · intro i h1 h2
    rw [marked_get _ _ _ _ (by rw [marked_length] at h1; exact h1), marks_get _ _ _ (by rw [marks_length] at h2; exact h2)]

theorem marked_succ (zs : List Int) (k j : Nat) : marked zs k (j + 1) = (marked zs k j).set j ((k + j : Nat) : Int) := rfl
theorem marked_zero (zs : List Int) (k : Nat) : marked zs k 0 = zs := rfl
attribute [irreducible] marked marks

set_option maxHeartbeats 1000000 in
set_option maxRecDepth 100000 in
theorem mark_ints (v : Value) (zs : List Int) (w : World) (B C k : Nat) (hv : IRow w B C v zs) (hn : zs.length ≤ 1048576) (hk : k ≤ 1099511627776) :
    Calls Try.prog 45 #[v, .int .i64 (k : Int)] w fun e w' => e = .returned (.int .i64 ((k + zs.length : Nat) : Int)) ∧ IRow w' B C v (marks k zs.length) ∧ Below B w w' := by
  rw [← marked_all]
  obtain ⟨a, c, rfl⟩ : ∃ a c, v = .slice a zs.length c := by
    obtain ⟨a, c, h, _⟩ := hv.rd
    exact ⟨a, c, h⟩
  have hform : 0 < zs.length → ∃ g, a = some ⟨g, 0, none⟩ ∧ B ≤ g := by
    intro h0
    rcases hv.1.2 with ⟨_, h⟩ | ⟨g, cap, cur, h, hg, _⟩
    · omega
    · injection h with e1; exact ⟨g, e1, hg⟩
  go_enter Try.func45, Try.ntmps45
  go_wp2_with (fail)
  go_loopw [1, 5] (fun m i wr => ∃ j : Nat, j ≤ zs.length ∧ m = .int .i64 ((k + j : Nat) : Int) ∧ i = .int .i64 j ∧ IRow wr B C (.slice a zs.length c) (marked zs k j) ∧ Below B w wr) (fun _ i _ => zs.length - (intOf i).toNat)
  case atStart => exact ⟨0, by omega, rfl, rfl, by rw [marked_zero]; exact hv, Below.refl _ _⟩
  case round =>
    clear hv
    obtain ⟨j, hj, rfl, rfl, hr, hB⟩ := hrel
    by_cases hlt : j < zs.length
    · obtain ⟨g, rfl, hg⟩ := hform (by omega)
      have hc := hr.cell j (by rw [marked_length]; exact hlt)
      obtain ⟨h1, h2⟩ := hc
      generalize (marked zs k j)[j]'_ = y at h1
      have hs := marked_succ zs k j
      have q : (0 : Int) ≤ (j : Int) ∧ (j : Int) < (zs.length : Int) := by omega
      have e1 : IntKind.i64.wrap (((k + j : Nat) : Int) + 1) = ((k + (j + 1) : Nat) : Int) := by rw [IntWalk.i64_in _ (by omega)]; omega
      obtain ⟨x, hx⟩ : ∃ x, k + j = x := ⟨_, rfl⟩
      rw [hx] at e1 hs ⊢
      go_wp2_with (fail)
      go_roundw
      case rel => exact ⟨j + 1, by omega, by rw [show ((k : Int) + ((j : Int) + 1)) = ((k + (j + 1) : Nat) : Int) by omega], by go_num, by rw [hs]; exact hr.set j x, hB.setCell hg _⟩
      case measure => simp [intOf]; omega
    · obtain rfl : j = zs.length := by omega
      go_wp2_with (fail)
      go_ret
      exact ⟨rfl, hr, hB⟩

set_option maxHeartbeats 1000000 in
set_option maxRecDepth 100000 in
theorem held_ints (v : Value) (k n : Nat) (w : World) (hv : Rd w v (marks k n)) (hn : n ≤ 1048576) (hk : k ≤ 1099511627776) :
    Calls Try.prog 47 #[v, .int .i64 (k : Int)] w fun e w' => e = .returned (.int .i64 ((k + n : Nat) : Int)) ∧ w = w' := by
  obtain ⟨a, c, rfl, hc⟩ := hv
  rw [marks_length]
  go_enter Try.func47, Try.ntmps47
  go_wp2_with (fail)
  go_loop [1, 5] (fun m i => ∃ j : Nat, j ≤ n ∧ m = .int .i64 ((k + j : Nat) : Int) ∧ i = .int .i64 j) (fun _ i => n - (intOf i).toNat)
  case atStart => exact ⟨0, by omega, rfl, rfl⟩
  case round =>
    obtain ⟨j, hj, rfl, rfl⟩ := hrel
    by_cases hlt : j < n
    · obtain ⟨b, off, rfl, hcc⟩ := hc (by rw [marks_length]; omega)
      have h1 := hcc j (by rw [marks_length]; exact hlt)
      rw [marks_get k n j hlt] at h1
      have q : (0 : Int) ≤ (j : Int) ∧ (j : Int) < (n : Int) := by omega
      have e1 : IntKind.i64.wrap (((k + j : Nat) : Int) + 1) = ((k + (j + 1) : Nat) : Int) := by rw [IntWalk.i64_in _ (by omega)]; omega
      obtain ⟨x, hx⟩ : ∃ x, k + j = x := ⟨_, rfl⟩
      rw [hx] at e1 h1 ⊢
      clear hc hcc
      go_wp2_with (fail)
      go_round
      case rel => exact ⟨j + 1, by omega, by rw [show ((k : Int) + ((j : Int) + 1)) = ((k + (j + 1) : Nat) : Int) by omega], by go_num⟩
      case measure => simp [intOf]; omega
    · obtain rfl : j = n := by omega
      go_wp2_with (fail)
      go_ret
      exact ⟨rfl, rfl⟩

end Go.Proofs.Ytgfkmnadbcbfkaa
