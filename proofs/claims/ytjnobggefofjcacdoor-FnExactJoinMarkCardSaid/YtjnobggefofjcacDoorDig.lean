import Derived.Test.YtjnobggefofjcacDoorText
import Derived.Test.YtjnobggefofjcacDoorPadI
import Derived.Laws.DeepStrings4
namespace Go.Proofs.YtjnobggefofjcacDoor
open Go.RowKit

/-- The program's first state lies where it lay. -/
def Starts (W : World) : Prop := ∀ i, i < 8 → W.cell? ⟨0, i, none⟩ = some (u start[i]!)

theorem Starts.below {W W' : World} (h : Starts W) (hb : Below W.heap.size W W') : Starts W' := fun i hi => by
  have hlt := World.block_lt_of_cell? _ _ (h i hi)
  rw [hb.cell hlt]; exact h i hi

theorem Starts.load {W : World} (h : Starts W) : (loadCellsFrom ⟨0, 0, none⟩ 0 8 #[]).run Tryd.prog W = .ok (start.map u) W := by
  have := run_loadCells_list (P := Tryd.prog) W ⟨0, 0, none⟩ (start.map u).toList (fun j v hv => by
    have hadd : (⟨0, 0, none⟩ : Addr).add j = ⟨0, j, none⟩ := by unfold Addr.add; split <;> simp_all
    rw [hadd]
    have hj : j < 8 := by
      have := (List.getElem?_eq_some_iff.1 hv).1
      simpa [start_size] using this
    rw [h j hj]
    rw [Array.getElem?_toList, Array.getElem?_map, Array.getElem?_eq_getElem (by rw [start_size]; exact hj)] at hv
    rw [getElem!_pos start j (by rw [start_size]; exact hj)]
    exact hv)
  rw [Array.toArray_toList] at this
  have hl : (start.map u).toList.length = 8 := by rw [Array.length_toList, Array.size_map, start_size]
  rw [hl] at this
  exact this

/-- Block number k of a padded text. -/
def blk (p : ByteArray) (k : Nat) : ByteArray := p.extract (64 * k) (64 * k + 64)

/-- The state behind k blocks. -/
def digState (p : ByteArray) : Nat → Array (BitVec 32)
  | 0 => start
  | k + 1 => blockOf (digState p k) (blk p k)

theorem digState_zero (p : ByteArray) : digState p 0 = start := by rw [digState]
theorem digState_succ (p : ByteArray) (k : Nat) : digState p (k + 1) = blockOf (digState p k) (blk p k) := by rw [digState]
theorem digState_size (p : ByteArray) (k : Nat) : (digState p k).size = 8 := by
  induction k with
  | zero => rw [digState_zero, start_size]
  | succ k ih => rw [digState_succ]; exact blockOf_size _ _ ih

attribute [irreducible] digState blk

/-- The padded text. -/
def padText (s : ByteArray) : ByteArray := ⟨(padOf s).toArray⟩

theorem padText_size (s : ByteArray) : ∃ m, (padText s).size = 64 * m ∧ 64 * m ≤ s.size + 73 := by
  have h : (padText s).size = s.size + 1 + zerosOf s.size + 8 := by
    show (padOf s).toArray.size = _
    rw [List.size_toArray, padOf, List.length_append, headPad_length, lenBytes_length]
  have hz : (s.size + 1 + zerosOf s.size + 8) % 64 = 0 := by unfold zerosOf; omega
  have hl := zerosOf_lt s.size
  exact ⟨(s.size + 1 + zerosOf s.size + 8) / 64, by omega, by omega⟩

/-- The digest. -/
def digestOf (s : ByteArray) : ByteArray := ⟨(stText (digState (padText s) ((padText s).size / 64)) 8).toArray⟩

theorem slice_blk (p : ByteArray) (a : Nat) (h : a + 64 ≤ p.size) (W : World) :
    (Instr.slice 9 (.string p) (some (.int .i64 (a : Int))) (some (.int .i64 ((a : Int) + 64))) none).run Tryd.prog W = .ok (.string (p.extract a (a + 64))) W := by
  rw [run_slice_string_if (P := Tryd.prog) (w := W) 9 p .i64 .i64 _ _ Tryd.underlying9]
  have h1 : (0 : Int) ≤ (a : Int) ∧ (a : Int) ≤ (a : Int) + 64 := by omega
  have h3 : (0 : Int) ≤ (a : Int) + 64 ∧ (a : Int) + 64 ≤ (p.size : Int) := by omega
  have h2 : ((a : Int) + 64).toNat = a + 64 := by omega
  rw [if_pos h3, if_pos h1, h2]
  rfl

attribute [-simp] Tryd.isAgg67 Tryd.sizeOf67

set_option maxHeartbeats 1000000 in
set_option maxRecDepth 100000 in
theorem impl_digest (s : ByteArray) (w : World) (hs : s.size ≤ 2000000) (hk : Keys w) (hst : Starts w) :
    Calls Tryd.prog 49 #[.string s] w fun e w' => e = .returned (.string (digestOf s)) ∧ Below w.heap.size w w' := by
  have hdef : digestOf s = ⟨(stText (digState (padText s) ((padText s).size / 64)) 8).toArray⟩ := rfl
  have c31 := fun W => impl_pad s W hs
  obtain ⟨m, hm, hm2⟩ := padText_size s
  change ∀ W, Calls Tryd.prog 52 #[.string s] W fun e w' => e = .returned (.string (padText s)) ∧ Below W.heap.size W w' at c31
  have hld := hst.load
  go_enter Tryd.func49, Tryd.ntmps49
  go_wp2_with (fail)
  simp only [Tryd.isAgg67, Tryd.sizeOf67, Result.andThen, ↓reduceIte, hld]
  rw [Oper.upon_value]
  have hsto := store_new w 67 67 (Array.replicate 8 0) start (by rw [start_size]; simp) rfl (by rw [start_size]; exact size40)
  rw [zeros8] at hsto
  go_wp2_with (fail)
  simp only [Tryd.sizeOf67, Result.andThen, ↓reduceIte, start_size, hsto]
  rw [Oper.upon_skip]
  have hB1 : Below w.heap.size w (w.alloc (.cells (start.map u) 67)) := (Below.refl _ _).alloc (Nat.le_refl _) _
  have hd1 := Blk.new w 67 start
  clear hld hsto
  generalize w.alloc (.cells (start.map u) 67) = W1 at hB1 hd1 ⊢
  go_wp2_with (go_at_call 52; refine (c31 _).mono ?_)
  rintro e w2 ⟨rfl, hb2⟩
  have hB2 := hB1.trans (hb2.mono hB1.size)
  have hd2 := hd1.below hb2 hd1.lt
  clear hB1 hd1 hb2 c31
  rw [hm, show 64 * m / 64 = m by omega] at hdef
  rw [← digState_zero (padText s)] at hd2
  generalize padText s = p at hm hdef hd2 ⊢
  go_wp2_with (fail)
  go_loopw [5] (fun i wr => ∃ k : Nat, k ≤ m ∧ i = .int .i64 ((64 * k : Nat) : Int) ∧ Blk wr w.heap.size 67 (digState p k) ∧ Below w.heap.size w wr) (fun i _ => p.size - (intOf i).toNat)
  case atStart => exact ⟨0, by omega, rfl, hd2, hB2⟩
  case round =>
    clear hd2 hB2
    obtain ⟨k, hkm, rfl, hd3, hB3⟩ := hrel
    by_cases hlt : k < m
    · obtain ⟨a, ha⟩ : ∃ a, 64 * k = a := ⟨_, rfl⟩
      have hbk : p.extract a (a + 64) = blk p k := by unfold blk; rw [ha]
      have hbs : (blk p k).size = 64 := by
        rw [← hbk, ByteArray.size_extract]; omega
      rw [ha]
      have q1 : (a : Int) < (p.size : Int) := by omega
      have q2 : IntKind.i64.wrap ((a : Int) + 64) = (a : Int) + 64 := IntWalk.i64_in _ (by omega)
      have q3 : ((a : Int) + 64).toNat = a + 64 := by omega
      have q4 : (a : Int) + 64 ≤ (p.size : Int) := by omega
      have q5 : a + 64 ≤ p.size := by omega
      have hks := hk.below hB3
      have c27 := fun W hW => impl_block (digState p k) (digState_size p k) (blk p k) hbs W hW
      rw [← digState_succ] at c27
      have hsl := slice_blk p a q5
      rw [hbk] at hsl
      go_wp2_with (fail)
      refine wp_region_still_tail 6 (by kernel_rfl) (by kernel_rfl) ?_
      change wpStill _ _ wr.drew (fun a' => wpList _ _ _ _ a' wr.drew) _ _
      have hd4 : Blk wr.drew w.heap.size 67 (digState p k) := hd3
      have hB4 : Below w.heap.size w wr.drew := hB3.drew
      have hks4 : Keys wr.drew := hks
      clear hd3 hB3 hks
      generalize wr.drew = W at hd4 hB4 hks4 ⊢
      have cld := load_open hd4 (digState_size p k)
      simp only [List.take_succ_cons, List.take_zero, List.drop_succ_cons, List.drop_zero]
      refine wpStill_step (fun K hK => ?_)
      go_simp
      simp only [Tryd.isAgg67, Tryd.sizeOf67, Result.andThen, ↓reduceIte, cld]
      go_simp
      refine hK _ ?_
      clear hK K
      iterate 5 still_step
      refine wpStill_nil ?_
      go_wp2_with (go_at_call 53; refine (c27 _ hks4).mono ?_)
      rintro e w4 ⟨rfl, hb4⟩
      have hd5 := hd4.below hb4 hd4.lt
      have hB5 := hB4.trans (hb4.mono hB4.size)
      have hsz : (digState p (k + 1)).size = 8 := digState_size p (k + 1)
      have hsto := hd5.storeFrom (P := Tryd.prog) 67 (digState p (k + 1)) (by rw [hsz, digState_size]) (by rw [digState_size]; exact size40)
      have hd6 := hd5.setRow (digState p (k + 1))
      have hB6 := below_setRow hB5 w.heap.size (Nat.le_refl _) ((digState p (k + 1)).map u)
      simp only [Array.toList_map] at hsto
      clear hd4 hd5 hB4 hB5 hks4 hb4 c27 cld hsl
      go_wp2_with (fail)
      simp only [Tryd.sizeOf67, Result.andThen, ↓reduceIte, hsto]
      rw [Oper.upon_skip]
      clear hsto hsz
      generalize w4.setRow w.heap.size ((digState p (k + 1)).map u) = w6 at hd6 hB6 ⊢
      go_wp2_with (fail)
      go_roundw
      case rel => exact ⟨k + 1, by omega, by rw [show (a : Int) + 64 = ((64 * (k + 1) : Nat) : Int) by omega], hd6, hB6⟩
      case measure => simp [intOf]; omega
    · obtain rfl : k = m := by omega
      have q1 : ¬ (((64 * k : Nat) : Int) < (p.size : Int)) := by omega
      have cld := load_open hd3 (digState_size p k)
      have c32 := fun W => impl_text (digState p k) (digState_size p k) W
      rw [← hdef] at c32
      clear hdef
      go_wp2_with (fail)
      simp only [Tryd.isAgg67, Tryd.sizeOf67, Result.andThen, ↓reduceIte, cld]
      rw [Oper.upon_value]
      go_wp2_with (go_at_call 54; refine (c32 _).mono ?_)
      rintro e w4 ⟨rfl, hb4⟩
      go_wp2_with (fail)
      go_ret
      exact ⟨rfl, hB3.trans (hb4.mono hB3.size)⟩
end Go.Proofs.YtjnobggefofjcacDoor
