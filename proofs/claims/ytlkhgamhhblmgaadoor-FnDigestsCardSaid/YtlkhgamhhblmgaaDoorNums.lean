import Derived.Test.YtlkhgamhhblmgaaDoorInts0
import Derived.Test.YtlkhgamhhblmgaaDoorTabs
import Derived.Test.YtlkhgamhhblmgaaDoorDig
namespace Go.Proofs.YtlkhgamhhblmgaaDoor
open Go.RowKit

/-- The words of a state as integers. -/
def words (d : Array (BitVec 32)) : List Int := d.toList.map fun x => (x.toNat : Int)

theorem words_length (d : Array (BitVec 32)) : (words d).length = d.size := by simp [words]
theorem words_get (d : Array (BitVec 32)) (j : Nat) (h : j < d.size) : (words d)[j]'(by rw [words_length]; exact h) = (d[j]!.toNat : Int) := by
  simp [words, getElem!_pos d j h]

attribute [irreducible] words

attribute [-simp] Tryd.isAgg62 Tryd.sizeOf62

set_option maxHeartbeats 1000000 in
set_option maxRecDepth 100000 in
theorem impl_numbers (d : Array (BitVec 32)) (hd : d.size = 8) (w : World) :
    Calls Tryd.prog 36 #[.agg (d.map u)] w fun e w' => ∃ v', e = .returned v' ∧ IRow w' w.heap.size w'.heap.size v' (words d) ∧ Below w.heap.size w w' := by
  have hmk := make_ints 8 (by omega) (w.alloc (.cells (d.map u) 62))
  rw [show ((8 : Nat) : Int) = (8 : Int) from rfl, World.size_alloc] at hmk
  have hB := ((Below.refl w.heap.size w).alloc (Nat.le_refl _) (.cells (d.map u) 62)).alloc (by simp) (.cells ((Array.replicate 8 (0 : Int)).map (Value.int .i64)) 3)
  have hi := alloc_iblk (w.alloc (.cells (d.map u) 62)) (Array.replicate 8 (0 : Int))
  rw [World.size_alloc] at hi
  have hd1 := (Blk.new w 62 d).alloc (.cells ((Array.replicate 8 (0 : Int)).map (Value.int .i64)) 3)
  go_enter Tryd.func36, Tryd.ntmps36
  generalize (w.alloc (.cells (d.map u) 62)).alloc (.cells ((Array.replicate 8 (0 : Int)).map (Value.int .i64)) 3) = W1 at hmk hB hi hd1
  have hld := load_open hd1 hd
  go_wp2_with (fail)
  simp only [Tryd.isAgg62, Tryd.sizeOf62, Result.andThen, ↓reduceIte, hld]
  rw [Oper.upon_value]
  clear hld hd1 hmk
  go_wp2_with (fail)
  go_loopw [8] (fun i wr => ∃ k : Nat, k ≤ 8 ∧ i = .int .i64 k ∧ (∃ a : Array Int, a.size = 8 ∧ (∀ j, j < k → a[j]! = (d[j]!.toNat : Int)) ∧ IBlk wr (w.heap.size + 1) a) ∧ Below w.heap.size w wr) (fun i _ => 8 - (intOf i).toNat)
  case atStart => exact ⟨0, by omega, rfl, ⟨_, by simp, fun j h => by omega, hi⟩, hB⟩
  case round =>
    clear hi hB
    obtain ⟨k, hk, rfl, ⟨a, ha, haj, hi⟩, hB⟩ := hrel
    by_cases hlt : k < 8
    · have cx := index_agg 62 Tryd.underlying62 d hd k hlt
      have h2 := hi.cell k (by omega)
      have hf := hi.frozen k
      obtain ⟨x, hx⟩ : ∃ x, d[k]! = x := ⟨_, rfl⟩
      rw [hx] at cx
      generalize a[k]! = y at h2
      have q : (0 : Int) ≤ (k : Int) ∧ (k : Int) < 8 := by omega
      have e1 : IntKind.i64.wrap (x.toNat : Int) = (x.toNat : Int) := IntWalk.i64_in _ (by have := x.isLt; omega)
      go_wp2_with (fail)
      go_roundw
      case rel =>
        refine ⟨k + 1, by omega, by go_num, ⟨a.setIfInBounds k (x.toNat : Int), by simp [ha], fun j hjk => ?_, hi.set k _⟩, hB.setCell (by dsimp only; omega) _⟩
        by_cases hjk2 : j = k
        · subst hjk2
          rw [getElem!_pos _ _ (by simp [ha]; omega), Array.getElem_setIfInBounds, if_pos rfl, hx]
          simp [ha]; omega
        · rw [getElem!_pos _ _ (by simp [ha]; omega), Array.getElem_setIfInBounds, if_neg (by omega), ← haj j (by omega), getElem!_pos _ _ (by omega)]
      case measure => simp [intOf]; omega
    · obtain rfl : k = 8 := by omega
      have hz : a.toList = words d := by
        apply List.ext_getElem
        · rw [words_length, hd]; simp [ha]
        · intro j h1 h2
          have hj : j < 8 := by simpa [ha] using h1
          rw [words_get d j (by omega), ← haj j hj, getElem!_pos _ _ (by omega)]
          simp
      have hr := hi.row (B := w.heap.size) (C := wr.heap.size) (by omega) hi.lt (by rw [ha]; unfold maxLen; omega)
      rw [hz, ha] at hr
      rw [show ((8 : Nat) : Int) = (8 : Int) from rfl]
      go_wp2_with (fail)
      go_ret
      exact ⟨_, rfl, hr, hB⟩

theorem impl_start (w : World) (hst : Starts w) :
    Calls Tryd.prog 16 #[] w fun e w' => ∃ v', e = .returned v' ∧ IRow w' w.heap.size w'.heap.size v' (words start) ∧ Below w.heap.size w w' := by
  have hld := hst.load
  have c28 := fun W => impl_numbers start start_size W
  go_enter Tryd.func16, Tryd.ntmps16
  go_wp2_with (fail)
  simp only [Tryd.isAgg62, Tryd.sizeOf62, Result.andThen, ↓reduceIte, hld]
  rw [Oper.upon_value]
  go_wp2_with (go_at_call 36; refine (c28 _).mono ?_; rintro e w1 ⟨v', rfl, hr, hb⟩)
  go_ret
  exact ⟨_, rfl, hr, hb⟩

end Go.Proofs.YtlkhgamhhblmgaaDoor
