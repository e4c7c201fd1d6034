import Derived.Test.YtjnobggefofjcaaMto
namespace Go.Proofs.Ytjnobggefofjcaa
open Go.RowKit

set_option maxRecDepth 100000 in
set_option maxHeartbeats 2000000 in
theorem mark_maps (v : Value) (ms : List Mp) (w : World) (B C k : Nat) (hv : OwnM w B C v ms) (hn : ms.length ≤ 1048577) (hk : k ≤ 1099511627776) :
    Calls Try.prog 23 #[v, .int .i64 (k : Int)] w fun e w' => e = .returned (.int .i64 ((k + ms.length * 3 : Nat) : Int)) ∧ OwnM w' B C v (markM k ms.length) ∧ Below B w w' ∧ w'.heap.size = w.heap.size ∧ ∀ i, v.ownBlock ≠ some i → w'.heap[i]? = w.heap[i]? := by
  obtain ⟨a, c, rfl, hform⟩ := hv.form
  go_enter Try.func23, Try.ntmps23
  go_wp2_with (fail)
  go_loopw [1, 5] (fun m i wr => ∃ j : Nat, j ≤ ms.length ∧ m = .int .i64 ((k + j * 3 : Nat) : Int) ∧ i = .int .i64 j ∧ OwnM wr B C (.slice a ms.length c) (marked3 ms k j) ∧ Below B w wr ∧ wr.heap.size = w.heap.size ∧ ∀ i, (Value.slice a ms.length c).ownBlock ≠ some i → wr.heap[i]? = w.heap[i]?) (fun _ i _ => ms.length - (intOf i).toNat)
  case atStart => exact ⟨0, by omega, by simp, rfl, by rw [marked3_zero]; exact hv, Below.refl _ _, rfl, fun _ _ => rfl⟩
  case round =>
    clear hv
    obtain ⟨j, hj, rfl, rfl, hr, hB, hz, ho⟩ := hrel
    by_cases hlt : j < ms.length
    · obtain ⟨g, rfl, hg, -⟩ := hform (by omega)
      have hl : j < (marked3 ms k j).length := by rw [marked3_length _ _ _ (by omega)]; exact hlt
      have hs := marked3_succ ms k j hlt
      have hat := hr.at j hl
      generalize (marked3 ms k j)[j] = mm at hat
      generalize marked3 ms k j = cur at *
      obtain ⟨c0, c1, c2, hf, hgw, -⟩ := hat
      have f0 := hf (j * 3)
      have f1 := hf (j * 3 + 1)
      have f2 := hf (j * 3 + 2)
      have hput := hr.put j hl ⟨((k + j * 3 : Nat) : Int), ((k + j * 3 + 1 : Nat) : Int), ((k + j * 3 + 2 : Nat) : Int)⟩
      have hB2 := hB.trans (setCells3_below g B hg (j * 3) (Mp.cells ⟨((k + j * 3 : Nat) : Int), ((k + j * 3 + 1 : Nat) : Int), ((k + j * 3 + 2 : Nat) : Int)⟩).toList wr)
      have hz2 := (setCells3_size g (j * 3) (Mp.cells ⟨((k + j * 3 : Nat) : Int), ((k + j * 3 + 1 : Nat) : Int), ((k + j * 3 + 2 : Nat) : Int)⟩).toList wr).trans hz
      have ho2 : ∀ i, (Value.slice (some ⟨g, 0, none⟩) ms.length c).ownBlock ≠ some i → (wr.setCells g (j * 3) (Mp.cells ⟨((k + j * 3 : Nat) : Int), ((k + j * 3 + 1 : Nat) : Int), ((k + j * 3 + 2 : Nat) : Int)⟩).toList).heap[i]? = w.heap[i]? := fun i hi => by
        rw [setCells3_other g (j * 3) _ wr i (fun h => hi (by simp [Value.ownBlock, h]))]
        exact ho i hi
      rw [set3_cells] at hput hB2 hz2 ho2
      rw [← hs] at hput
      clear hs
      have q : (0 : Int) ≤ (j : Int) ∧ (j : Int) < (ms.length : Int) := by omega
      have e1 : IntKind.i64.wrap (((k + j * 3 : Nat) : Int) + 1) = ((k + j * 3 + 1 : Nat) : Int) := by rw [IntWalk.i64_in _ (by omega)]; omega
      have e2 : IntKind.i64.wrap (((k + j * 3 + 1 : Nat) : Int) + 1) = ((k + j * 3 + 2 : Nat) : Int) := by rw [IntWalk.i64_in _ (by omega)]; omega
      have e3 : IntKind.i64.wrap (((k + j * 3 + 2 : Nat) : Int) + 1) = ((k + j * 3 + 3 : Nat) : Int) := by rw [IntWalk.i64_in _ (by omega)]; omega
      generalize ((k + j * 3 : Nat) : Int) = x0 at *
      generalize ((k + j * 3 + 1 : Nat) : Int) = x1 at *
      generalize ((k + j * 3 + 2 : Nat) : Int) = x2 at *
      have HP := Lib.hid (And.intro hput (And.intro hB2 (And.intro hz2 ho2)))
      clear hput hB2 hz2 ho2 ho hB hr hf hz
      go_wp2_with (fail)
      go_roundw
      case rel =>
        obtain ⟨p1, p2, p3, p4⟩ := HP.out
        exact ⟨j + 1, by omega, congrArg (Value.int .i64) (by omega), by go_num, p1, p2, p3, p4⟩
      case measure => simp [intOf]; omega
    · obtain rfl : j = ms.length := by omega
      rw [marked3_all] at hr
      go_wp2_with (fail)
      go_ret
      exact ⟨rfl, hr, hB, hz, ho⟩

set_option maxRecDepth 100000 in
set_option maxHeartbeats 2000000 in
theorem held_maps (v : Value) (k n : Nat) (w : World) (hv : RdM w v (markM k n)) (hn : n ≤ 1048577) (hk : k ≤ 1099511627776) :
    Calls Try.prog 24 #[v, .int .i64 (k : Int)] w fun e w' => e = .returned (.int .i64 ((k + n * 3 : Nat) : Int)) ∧ w = w' := by
  obtain ⟨a, c, rfl⟩ : ∃ a c, v = .slice a n c := by
    obtain ⟨a, c, h⟩ := hv.form
    rw [markM_length] at h
    exact ⟨a, c, h⟩
  go_enter Try.func24, Try.ntmps24
  go_wp2_with (fail)
  go_loop [1, 5] (fun m i => ∃ j : Nat, j ≤ n ∧ m = .int .i64 ((k + j * 3 : Nat) : Int) ∧ i = .int .i64 j) (fun _ i => n - (intOf i).toNat)
  case atStart => exact ⟨0, by omega, by simp, rfl⟩
  case round =>
    obtain ⟨j, hj, rfl, rfl⟩ := hrel
    by_cases hlt : j < n
    · obtain ⟨b, off, ha, -, c0, c1, c2, -⟩ := hv.at (P := Try.prog) j (by rw [markM_length]; exact hlt)
      subst ha
      rw [markM_at k n j hlt] at c0 c1 c2
      have q : (0 : Int) ≤ (j : Int) ∧ (j : Int) < (n : Int) := by omega
      have e1 : IntKind.i64.wrap (((k + j * 3 : Nat) : Int) + 1) = ((k + j * 3 + 1 : Nat) : Int) := by rw [IntWalk.i64_in _ (by omega)]; omega
      have e2 : IntKind.i64.wrap (((k + j * 3 + 1 : Nat) : Int) + 1) = ((k + j * 3 + 2 : Nat) : Int) := by rw [IntWalk.i64_in _ (by omega)]; omega
      have e3 : IntKind.i64.wrap (((k + j * 3 + 2 : Nat) : Int) + 1) = ((k + j * 3 + 3 : Nat) : Int) := by rw [IntWalk.i64_in _ (by omega)]; omega
      simp only at c0 c1 c2
      generalize ((k + j * 3 : Nat) : Int) = x0 at *
      generalize ((k + j * 3 + 1 : Nat) : Int) = x1 at *
      generalize ((k + j * 3 + 2 : Nat) : Int) = x2 at *
      clear hv
      go_wp2_with (fail)
      go_round
      case rel => exact ⟨j + 1, by omega, congrArg (Value.int .i64) (by omega), by go_num⟩
      case measure => simp [intOf]; omega
    · obtain rfl : j = n := by omega
      go_wp2_with (fail)
      go_ret
      exact ⟨rfl, rfl⟩
end Go.Proofs.Ytjnobggefofjcaa
