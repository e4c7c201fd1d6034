import Derived.Test.YtkpajakangaekabIntsL
namespace Go.Proofs.Ytkpajakangaekab
open Go.RowKit

theorem IBlk.below {W W' : World} {g : Nat} {d : Array Int} (h : IBlk W g d) {D : Nat} (hb : Below D W W') (hg : g < D) : IBlk W' g d := by
  show W'.heap[g]? = _
  rw [hb.block g hg]; exact h

theorem IBlk.alloc {W : World} {g : Nat} {d : Array Int} (h : IBlk W g d) (o : Obj) : IBlk (W.alloc o) g d := by
  show (W.alloc o).heap[g]? = _
  rw [Below.heap_alloc _ _ _ h.lt]; exact h

theorem IBlk.irow {W : World} {g : Nat} {zs : List Int} (h : IBlk W g zs.toArray) (hn : zs.length ≤ 1048576) {B C : Nat} (hB : B ≤ g) (hC : g < C) : IRow W B C (.slice (some ⟨g, 0, none⟩) zs.length zs.length) zs := by
  have := h.row hB hC (by simp; unfold maxLen; omega)
  simpa using this

set_option maxHeartbeats 1000000 in
set_option maxRecDepth 100000 in
theorem to_ints_blk (v : Value) (zs : List Int) (w : World) (hv : Rd w v zs) (hn : zs.length ≤ 1048576) :
    Calls Try.prog 77 #[v] w fun e w' => e = .returned (.slice (some ⟨w.heap.size, 0, none⟩) zs.length zs.length) ∧ IBlk w' w.heap.size zs.toArray ∧ Below w.heap.size w w' := by
  obtain ⟨a, c, rfl, hc⟩ := hv
  have hmk := make_ints zs.length hn w
  have hB := (Below.refl w.heap.size w).alloc (Nat.le_refl _) (.cells ((Array.replicate zs.length (0 : Int)).map (Value.int .i64)) 3)
  have hi := alloc_iblk w (Array.replicate zs.length (0 : Int))
  generalize w.alloc (.cells ((Array.replicate zs.length (0 : Int)).map (Value.int .i64)) 3) = W1 at hmk hB hi
  go_enter Try.func77, Try.ntmps77
  go_wp2_with (fail)
  go_loopw [4] (fun i wr => ∃ k : Nat, k ≤ zs.length ∧ i = .int .i64 k ∧ (∃ d : Array Int, d.size = zs.length ∧ (∀ j (h : j < zs.length), j < k → d[j]! = zs[j]) ∧ IBlk wr w.heap.size d) ∧ Below w.heap.size w wr) (fun i _ => zs.length - (intOf i).toNat)
  case atStart => exact ⟨0, by omega, rfl, ⟨_, by simp, fun j _ h => by omega, hi⟩, hB⟩
  case round =>
    clear hi hB hmk
    obtain ⟨k, hk, rfl, ⟨d, hd, hdj, hi⟩, hB⟩ := hrel
    by_cases hlt : k < zs.length
    · obtain ⟨b, off, rfl, hcc⟩ := hc (by omega)
      have h1 := hcc k hlt
      have hbl := World.block_lt_of_cell? _ _ h1
      rw [← hB.cell hbl] at h1
      have h2 := hi.cell k (by omega)
      have hf := hi.frozen k
      obtain ⟨x, hx⟩ : ∃ x, zs[k] = x := ⟨_, rfl⟩
      rw [hx] at h1
      generalize d[k]! = y at h2
      have q : (0 : Int) ≤ (k : Int) ∧ (k : Int) < (zs.length : Int) := by omega
      go_wp2_with (fail)
      go_roundw
      case rel =>
        refine ⟨k + 1, by omega, by go_num, ⟨d.setIfInBounds k x, by simp [hd], fun j hj hjk => ?_, hi.set k x⟩, hB.setCell (Nat.le_refl _) _⟩
        by_cases hjk2 : j = k
        · subst hjk2
          rw [getElem!_pos _ _ (by simp [hd]; exact hj), Array.getElem_setIfInBounds, if_pos rfl, hx]
          simp [hd]; exact hj
        · rw [getElem!_pos _ _ (by simp [hd]; exact hj), Array.getElem_setIfInBounds, if_neg (by omega), ← hdj j hj (by omega), getElem!_pos _ _ (by rw [hd]; exact hj)]
      case measure => simp [intOf]; omega
    · obtain rfl : k = zs.length := by omega
      have hdz : d.toList = zs := by
        apply List.ext_getElem
        · simp [hd]
        · intro j h1 h2
          have := hdj j h2 h2
          rw [getElem!_pos _ _ (by rw [hd]; exact h2)] at this
          simpa using this
      rw [show d = zs.toArray by rw [← hdz]] at hi
      go_wp2_with (fail)
      go_ret
      exact ⟨rfl, hi, hB⟩


theorem IRow.keepAt {W W' : World} {B C : Nat} {v : Value} {zs : List Int} (h : IRow W B C v zs) (hb : ∀ g, v.ownBlock = some g → W'.heap[g]? = W.heap[g]?) : IRow W' B C v zs := by
  obtain ⟨⟨h1, h2⟩, h3⟩ := h
  refine ⟨⟨h1, ?_⟩, h3⟩
  rcases h2 with h2 | ⟨g, cap, cur, hv, hg, hh, r⟩
  · exact .inl h2
  · refine .inr ⟨g, cap, cur, hv, hg, ?_, r⟩
    rw [hb g (by rw [hv]; rfl)]
    exact hh

theorem IRow.block {W : World} {B C : Nat} {v : Value} {zs : List Int} (h : IRow W B C v zs) (g : Nat) (hg : v.ownBlock = some g) : B ≤ g ∧ g < C := by
  refine ⟨?_, h.2 g hg⟩
  rcases h.1.2 with ⟨hv, _⟩ | ⟨g', cap, cur, hv, hb, _⟩
  · rw [hv] at hg; cases hg
  · rw [hv] at hg
    simp [Value.ownBlock] at hg
    omega

set_option maxHeartbeats 1000000 in
set_option maxRecDepth 100000 in
theorem mark_ints_only (v : Value) (zs : List Int) (w : World) (B C k : Nat) (hv : IRow w B C v zs) (hn : zs.length ≤ 1048576) (hk : k ≤ 1099511627776) :
    Calls Try.prog 55 #[v, .int .i64 (k : Int)] w fun e w' => e = .returned (.int .i64 ((k + zs.length : Nat) : Int)) ∧ IRow w' B C v (marks k zs.length) ∧ Below B w w' ∧ ∀ i, v.ownBlock ≠ some i → w'.heap[i]? = w.heap[i]? := by
  rw [← marked_all]
  obtain ⟨a, c, rfl⟩ : ∃ a c, v = .slice a zs.length c := by
    obtain ⟨a, c, h, _⟩ := hv.rd
    exact ⟨a, c, h⟩
  have hform : 0 < zs.length → ∃ g, a = some ⟨g, 0, none⟩ ∧ B ≤ g := by
    intro h0
    rcases hv.1.2 with ⟨_, h⟩ | ⟨g, cap, cur, h, hg, _⟩
    · omega
    · injection h with e1; exact ⟨g, e1, hg⟩
  go_enter Try.func55, Try.ntmps55
  go_wp2_with (fail)
  go_loopw [1, 5] (fun m i wr => ∃ j : Nat, j ≤ zs.length ∧ m = .int .i64 ((k + j : Nat) : Int) ∧ i = .int .i64 j ∧ IRow wr B C (.slice a zs.length c) (marked zs k j) ∧ Below B w wr ∧ ∀ i, (Value.slice a zs.length c).ownBlock ≠ some i → wr.heap[i]? = w.heap[i]?) (fun _ i _ => zs.length - (intOf i).toNat)
  case atStart => exact ⟨0, by omega, rfl, rfl, by rw [marked_zero]; exact hv, Below.refl _ _, fun _ _ => rfl⟩
  case round =>
    clear hv
    obtain ⟨j, hj, rfl, rfl, hr, hB, ho⟩ := hrel
    by_cases hlt : j < zs.length
    · obtain ⟨g, rfl, hg⟩ := hform (by omega)
      have hc := hr.cell j (by rw [marked_length]; exact hlt)
      obtain ⟨h1, h2⟩ := hc
      generalize (marked zs k j)[j]'_ = y at h1
      have hs := marked_succ zs k j
      have q : (0 : Int) ≤ (j : Int) ∧ (j : Int) < (zs.length : Int) := by omega
      have e1 : IntKind.i64.wrap (((k + j : Nat) : Int) + 1) = ((k + (j + 1) : Nat) : Int) := by rw [IntWalk.i64_in _ (by omega)]; omega
      obtain ⟨x, hx⟩ : ∃ x, k + j = x := ⟨_, rfl⟩
      rw [hx] at e1 hs ⊢
      go_wp2_with (fail)
      go_roundw
      case rel => exact ⟨j + 1, by omega, by rw [show ((k : Int) + ((j : Int) + 1)) = ((k + (j + 1) : Nat) : Int) by omega], by go_num, by rw [hs]; exact hr.set j x, hB.setCell hg _, fun i hi => by rw [Below.heap_setCell _ _ _ _ (fun h => hi (by simp [Value.ownBlock, h]))]; exact ho i hi⟩
      case measure => simp [intOf]; omega
    · obtain rfl : j = zs.length := by omega
      go_wp2_with (fail)
      go_ret
      exact ⟨rfl, hr, hB, ho⟩

end Go.Proofs.Ytkpajakangaekab
