import Derived.Test.YtnlbeoifmdfbjaaDoorIntsL
namespace Go.Proofs.YtnlbeoifmdfbjaaDoor
open Go.RowKit

theorem IBlk.below {W W' : World} {g : Nat} {d : Array Int} (h : IBlk W g d) {D : Nat} (hb : Below D W W') (hg : g < D) : IBlk W' g d := by
  show W'.heap[g]? = _
  rw [hb.block g hg]; exact h

theorem IBlk.alloc {W : World} {g : Nat} {d : Array Int} (h : IBlk W g d) (o : Obj) : IBlk (W.alloc o) g d := by
  show (W.alloc o).heap[g]? = _
  rw [Below.heap_alloc _ _ _ h.lt]; exact h

theorem IBlk.irow {W : World} {g : Nat} {zs : List Int} (h : IBlk W g zs.toArray) (hn : zs.length ≤ 1048576) {B C : Nat} (hB : B ≤ g) (hC : g < C) : IRow W B C (.slice (some ⟨g, 0, none⟩) zs.length zs.length) zs := by
  have := h.row hB hC (by simp; unfold maxLen; omega)
  simpa using this

set_option maxHeartbeats 1000000 in
set_option maxRecDepth 100000 in
theorem to_ints_blk (v : Value) (zs : List Int) (w : World) (hv : Rd w v zs) (hn : zs.length ≤ 1048576) :
    Calls Tryd.prog 31 #[v] w fun e w' => e = .returned (.slice (some ⟨w.heap.size, 0, none⟩) zs.length zs.length) ∧ IBlk w' w.heap.size zs.toArray ∧ Below w.heap.size w w' := by
  obtain ⟨a, c, rfl, hc⟩ := hv
  have hmk := make_ints zs.length hn w
  have hB := (Below.refl w.heap.size w).alloc (Nat.le_refl _) (.cells ((Array.replicate zs.length (0 : Int)).map (Value.int .i64)) 3)
  have hi := alloc_iblk w (Array.replicate zs.length (0 : Int))
  generalize w.alloc (.cells ((Array.replicate zs.length (0 : Int)).map (Value.int .i64)) 3) = W1 at hmk hB hi
  go_enter Tryd.func31, Tryd.ntmps31
  go_wp2_with (fail)
  go_loopw [4] (fun i wr => ∃ k : Nat, k ≤ zs.length ∧ i = .int .i64 k ∧ (∃ d : Array Int, d.size = zs.length ∧ (∀ j (h : j < zs.length), j < k → d[j]! = zs[j]) ∧ IBlk wr w.heap.size d) ∧ Below w.heap.size w wr) (fun i _ => zs.length - (intOf i).toNat)
  case atStart => exact ⟨0, by omega, rfl, ⟨_, by simp, fun j _ h => by omega, hi⟩, hB⟩
  case round =>
    clear hi hB hmk
    obtain ⟨k, hk, rfl, ⟨d, hd, hdj, hi⟩, hB⟩ := hrel
    by_cases hlt : k < zs.length
    · obtain ⟨b, off, rfl, hcc⟩ := hc (by omega)
      have h1 := hcc k hlt
      have hbl := World.block_lt_of_cell? _ _ h1
      rw [← hB.cell hbl] at h1
      have h2 := hi.cell k (by omega)
      have hf := hi.frozen k
      obtain ⟨x, hx⟩ : ∃ x, zs[k] = x := ⟨_, rfl⟩
      rw [hx] at h1
      generalize d[k]! = y at h2
      have q : (0 : Int) ≤ (k : Int) ∧ (k : Int) < (zs.length : Int) := by omega
      go_wp2_with (fail)
      go_roundw
      case rel =>
        refine ⟨k + 1, by omega, by go_num, ⟨d.setIfInBounds k x, by simp [hd], fun j hj hjk => ?_, hi.set k x⟩, hB.setCell (Nat.le_refl _) _⟩
        by_cases hjk2 : j = k
        · subst hjk2
          rw [getElem!_pos _ _ (by simp [hd]; exact hj), Array.getElem_setIfInBounds, if_pos rfl, hx]
          simp [hd]; exact hj
        · rw [getElem!_pos _ _ (by simp [hd]; exact hj), Array.getElem_setIfInBounds, if_neg (by omega), ← hdj j hj (by omega), getElem!_pos _ _ (by rw [hd]; exact hj)]
      case measure => simp [intOf]; omega
    · obtain rfl : k = zs.length := by omega
      have hdz : d.toList = zs := by
        apply List.ext_getElem
        · simp [hd]
        · intro j h1 h2
          have := hdj j h2 h2
          rw [getElem!_pos _ _ (by rw [hd]; exact h2)] at this
          simpa using this
      rw [show d = zs.toArray by rw [← hdz]] at hi
      go_wp2_with (fail)
      go_ret
      exact ⟨rfl, hi, hB⟩


theorem IRow.keepAt {W W' : World} {B C : Nat} {v : Value} {zs : List Int} (h : IRow W B C v zs) (hb : ∀ g, v.ownBlock = some g → W'.heap[g]? = W.heap[g]?) : IRow W' B C v zs := by
  obtain ⟨⟨h1, h2⟩, h3⟩ := h
  refine ⟨⟨h1, ?_⟩, h3⟩
  rcases h2 with h2 | ⟨g, cap, cur, hv, hg, hh, r⟩
  · exact .inl h2
  · refine .inr ⟨g, cap, cur, hv, hg, ?_, r⟩
    rw [hb g (by rw [hv]; rfl)]
    exact hh

theorem IRow.block {W : World} {B C : Nat} {v : Value} {zs : List Int} (h : IRow W B C v zs) (g : Nat) (hg : v.ownBlock = some g) : B ≤ g ∧ g < C := by
  refine ⟨?_, h.2 g hg⟩
  rcases h.1.2 with ⟨hv, _⟩ | ⟨g', cap, cur, hv, hb, _⟩
  · rw [hv] at hg; cases hg
  · rw [hv] at hg
    simp [Value.ownBlock] at hg
    omega

end Go.Proofs.YtnlbeoifmdfbjaaDoor
