import Derived.Test.YtjnobggefofjcacDoorSDig
namespace Go.Proofs.YtjnobggefofjcacDoor
open Go.RowKit

attribute [-simp] Tryd.isAgg42 Tryd.sizeOf42 Tryd.isAgg40 Tryd.sizeOf40 Tryd.zeroValue42 Tryd.zeroValue40

theorem make32 (d : Array (BitVec 32)) (W : World) :
    (Instr.makeSlice 33 (.int .i64 32) (.int .i64 32)).run Tryd.prog W = .ok (.slice (some ⟨W.heap.size, 0, none⟩) 32 32) (W.alloc (.cells ((outArr d 0).map cb) 5)) := by
  obtain ⟨i0, hi, hz0, hz1, hz2⟩ := info_parts info5
  have h := run_makeSlice (P := Tryd.prog) W 33 5 i0 _ Tryd.underlying33 hi hz0 .i64 .i64 32 32 (by omega) (by omega) (by rw [hz1]; decide) (by rw [hz2]; decide) (by decide)
  rw [h, hz1]
  rw [outArr_zero]
  have e : madeCells (Value.int .u8 0).cells (Int.toNat 32 * 1) = (Array.replicate 32 (0 : UInt8)).map cb := by
    apply Array.ext
    · simp [madeCells]
    · intro i h1 h2
      simp [madeCells, Value.cells, cb, Nat.mod_one]
  rw [e]
  rfl

theorem load64 {W : World} {g : Nat} {t : TypeId} {d : Array (BitVec 32)} (h : Blk W g t d) (hd : d.size = 64) :
    (loadCellsFrom ⟨g, 0, none⟩ 0 64 #[]).run Tryd.prog W = .ok (d.map u) W := h.loadFrom 64 hd

set_option maxHeartbeats 2000000 in
set_option maxRecDepth 100000 in
theorem spec_digest (s : ByteArray) (w : World) (hs : s.size ≤ 2000000) :
    Calls Tryd.prog 25 #[.string s] w fun e w' => e = .returned (.string (digestOf s)) ∧ Below w.heap.size w w' := by
  obtain ⟨i0, hi, hz0, hz1, hz2⟩ := info_parts info5
  have hdef : digestOf s = ⟨(stText (digState (padText s) ((padText s).size / 64)) 8).toArray⟩ := rfl
  have c30 := fun W => spec_pad s W hs
  obtain ⟨m, hm, hm2⟩ := padText_size s
  change ∀ W, Calls Tryd.prog 33 #[.string s] W fun e w' => e = .returned (.string (padText s)) ∧ Below W.heap.size W w' at c30
  go_enter Tryd.func25, Tryd.ntmps25
  go_wp2_with (go_at_call 31; refine (spec_first _).mono ?_; rintro e w1 ⟨rfl, hb1⟩)
  have hsto := store_new w1 40 40 z8 start (by rw [start_size, z8_size]) rfl (by rw [start_size]; exact size35)
  simp only [Tryd.sizeOf40, Result.andThen, ↓reduceIte, start_size, hsto]
  rw [Oper.upon_skip]
  have hB1 := hb1.alloc hb1.size (.cells (start.map u) 40)
  have hd1 := Blk.new w1 40 start
  have hg1 := hb1.size
  have hs1 : (w1.alloc (.cells (start.map u) 40)).heap.size = w1.heap.size + 1 := World.size_alloc _ _
  clear hsto hb1
  generalize w1.alloc (.cells (start.map u) 40) = W1 at hB1 hd1 hs1 ⊢
  generalize w1.heap.size = g1 at hd1 hg1 hs1 ⊢
  go_wp2_with (go_at_call 32; refine (spec_keys _).mono ?_; rintro e w2 ⟨rfl, hb2⟩)
  have hsto := store_new w2 42 42 z64 keys (by rw [keys_size, z64_size]) rfl (by rw [keys_size]; exact size38)
  simp only [Tryd.sizeOf42, Result.andThen, ↓reduceIte, keys_size, hsto]
  rw [Oper.upon_skip]
  have hB2' := hB1.trans (hb2.mono hB1.size)
  have hB2 := hB2'.alloc hB2'.size (.cells (keys.map u) 42)
  have hd2 := (hd1.below hb2 hd1.lt).alloc (.cells (keys.map u) 42)
  have hk2 := Blk.new w2 42 keys
  have hg2 := hb2.size
  clear hsto hb2 hB1 hB2' hd1
  generalize w2.alloc (.cells (keys.map u) 42) = W2 at hB2 hd2 hk2 ⊢
  generalize w2.heap.size = g2 at hk2 hg2 ⊢
  go_wp2_with (go_at_call 33; refine (c30 _).mono ?_; rintro e w3 ⟨rfl, hb3⟩)
  have hB3 := hB2.trans (hb3.mono hB2.size)
  have hd3 := hd2.below hb3 hd2.lt
  have hk3 := hk2.below hb3 hk2.lt
  clear hB2 hb3 hd2 hk2 c30
  rw [hm, show 64 * m / 64 = m by omega] at hdef
  rw [← digState_zero (padText s)] at hd3
  generalize padText s = p at hm hdef hd3 ⊢
  have hne : g1 ≠ g2 := by omega
  go_wp2_with (fail)
  go_loopw [6] (fun i wr => ∃ k : Nat, k ≤ m ∧ i = .int .i64 ((64 * k : Nat) : Int) ∧ Blk wr g1 40 (digState p k) ∧ Blk wr g2 42 keys ∧ Below w.heap.size w wr) (fun i _ => p.size - (intOf i).toNat)
  case atStart => exact ⟨0, by omega, rfl, hd3, hk3, hB3⟩
  case round =>
    clear hd3 hB3 hk3
    obtain ⟨k, hkm, rfl, hd3, hk3, hB3⟩ := hrel
    by_cases hlt : k < m
    · obtain ⟨a, ha⟩ : ∃ a, 64 * k = a := ⟨_, rfl⟩
      have hbk : p.extract a (a + 64) = blk p k := by unfold blk; rw [ha]
      have hbs : (blk p k).size = 64 := by
        rw [← hbk, ByteArray.size_extract]; omega
      rw [ha]
      have q1 : (a : Int) < (p.size : Int) := by omega
      have q2 : IntKind.i64.wrap ((a : Int) + 64) = (a : Int) + 64 := IntWalk.i64_in _ (by omega)
      have q3 : ((a : Int) + 64).toNat = a + 64 := by omega
      have q4 : (a : Int) + 64 ≤ (p.size : Int) := by omega
      have q5 : a + 64 ≤ p.size := by omega
      have c23 := fun W => spec_block (digState p k) (digState_size p k) (blk p k) hbs W
      rw [← digState_succ] at c23
      have hsl := slice_blk p a q5
      rw [hbk] at hsl
      go_wp2_with (fail)
      refine wp_region_still_tail 7 (by kernel_rfl) (by kernel_rfl) ?_
      change wpStill _ _ wr.drew (fun a' => wpList _ _ _ _ a' wr.drew) _ _
      have hd4 : Blk wr.drew g1 40 (digState p k) := hd3
      have hk4 : Blk wr.drew g2 42 keys := hk3
      have hB4 : Below w.heap.size w wr.drew := hB3.drew
      clear hd3 hB3 hk3
      generalize wr.drew = W at hd4 hB4 hk4 ⊢
      have cld := load_open hd4 (digState_size p k)
      have ckd := load64 hk4 keys_size
      simp only [List.take_succ_cons, List.take_zero, List.drop_succ_cons, List.drop_zero]
      refine wpStill_step (fun K hK => ?_)
      go_simp
      simp only [Tryd.isAgg40, Tryd.sizeOf40, Result.andThen, ↓reduceIte, cld]
      go_simp
      refine hK _ ?_
      clear hK K
      iterate 5 still_step
      refine wpStill_step (fun K hK => ?_)
      go_simp
      simp only [Tryd.isAgg42, Tryd.sizeOf42, Result.andThen, ↓reduceIte, ckd]
      go_simp
      refine hK _ ?_
      clear hK K
      refine wpStill_nil ?_
      go_wp2_with (go_at_call 34; refine (c23 _).mono ?_)
      rintro e w4 ⟨rfl, hb4⟩
      have hd5 := hd4.below hb4 hd4.lt
      have hk5 := hk4.below hb4 hk4.lt
      have hB5 := hB4.trans (hb4.mono hB4.size)
      have hsz : (digState p (k + 1)).size = 8 := digState_size p (k + 1)
      have hsto := hd5.storeFrom (P := Tryd.prog) 40 (digState p (k + 1)) (by rw [hsz, digState_size]) (by rw [digState_size]; exact size35)
      have hd6 := hd5.setRow (digState p (k + 1))
      have hk6 := hk5.otherRow ((digState p (k + 1)).map u) (g' := g1) (Ne.symm hne)
      have hB6 := below_setRow hB5 g1 hg1 ((digState p (k + 1)).map u)
      simp only [Array.toList_map] at hsto
      clear hd4 hd5 hB4 hB5 hk4 hk5 hb4 c23 cld ckd hsl
      go_wp2_with (fail)
      simp only [Tryd.sizeOf40, Result.andThen, ↓reduceIte, hsto]
      rw [Oper.upon_skip]
      clear hsto hsz
      generalize w4.setRow g1 ((digState p (k + 1)).map u) = w6 at hd6 hB6 hk6 ⊢
      go_wp2_with (fail)
      go_roundw
      case rel => exact ⟨k + 1, by omega, by rw [show (a : Int) + 64 = ((64 * (k + 1) : Nat) : Int) by omega], hd6, hk6, hB6⟩
      case measure => simp [intOf]; omega
    · obtain rfl : k = m := by omega
      have q1 : ¬ (((64 * k : Nat) : Int) < (p.size : Int)) := by omega
      have hdd := digState_size p k
      have hend := outArr_end (digState p k)
      generalize digState p k = d at hd3 hdef hdd hend
      have hfin : digestOf s = ⟨outArr d 8⟩ := by rw [hdef, ← hend]
      clear hdef hend hk3
      have hmk := make32 d wr
      have hB4 := hB3.alloc hB3.size (.cells ((outArr d 0).map cb) 5)
      have hd4 := hd3.alloc (.cells ((outArr d 0).map cb) 5)
      have ho4 : BBlk (wr.alloc (.cells ((outArr d 0).map cb) 5)) wr.heap.size (outArr d 0) := by
        show (wr.heap.push _)[wr.heap.size]? = _
        simp
      have hg5 := hB3.size
      have hne5 : g1 ≠ wr.heap.size := by have := hd3.lt; omega
      clear hB3 hd3
      generalize wr.alloc (.cells ((outArr d 0).map cb) 5) = W5 at hmk hB4 hd4 ho4
      generalize hgg : wr.heap.size = g5 at hmk ho4 hne5 hg5
      go_wp2_with (fail)
      go_loopw [8] (fun i wr => ∃ k : Nat, k ≤ 8 ∧ i = .int .i64 k ∧ BBlk wr g5 (outArr d k) ∧ Blk wr g1 40 d ∧ Below w.heap.size w wr) (fun i _ => 8 - (intOf i).toNat)
      case atStart => exact ⟨0, by omega, rfl, ho4, hd4, hB4⟩
      case round =>
        clear ho4 hd4 hB4 hmk
        obtain ⟨k, hk8, rfl, ho, hd, hB⟩ := hrel
        by_cases hlt8 : k < 8
        · have cx := hd.cell k (by omega)
          have hsucc := outArr_succ d k
          generalize d[k]! = x at cx hsucc
          have b1 := wbyte_int x 24
          have b2 := wbyte_int x 16
          have b3 := wbyte_int x 8
          have b4 := wbyte_int x 0
          simp only [Int.reducePow, Int.pow_zero, Int.ediv_one] at b1 b2 b3 b4
          have b0 : (x.toNat : Int) / 16777216 = ((wbyte x 24).toNat : Int) := by have := x.isLt; omega
          generalize wbyte x 24 = y1 at b0 b1 hsucc
          generalize wbyte x 16 = y2 at b2 hsucc
          generalize wbyte x 8 = y3 at b3 hsucc
          generalize wbyte x 0 = y4 at b4 hsucc
          have hsz := outArr_size d k
          obtain ⟨v0, o0⟩ := ho.cell (4 * k) (by omega)
          obtain ⟨v1, o1⟩ := ho.cell (4 * k + 1) (by omega)
          obtain ⟨v2, o2⟩ := ho.cell (4 * k + 2) (by omega)
          obtain ⟨v3, o3⟩ := ho.cell (4 * k + 3) (by omega)
          have hf := ho.frozen
          have q : (0 : Int) ≤ (k : Int) ∧ (k : Int) < 8 := by omega
          have m0 : IntKind.i64.wrap (4 * (k : Int)) = 4 * (k : Int) := IntWalk.i64_in _ (by omega)
          have m1 : IntKind.i64.wrap (4 * (k : Int) + 1) = 4 * (k : Int) + 1 := IntWalk.i64_in _ (by omega)
          have m2 : IntKind.i64.wrap (4 * (k : Int) + 2) = 4 * (k : Int) + 2 := IntWalk.i64_in _ (by omega)
          have m3 : IntKind.i64.wrap (4 * (k : Int) + 3) = 4 * (k : Int) + 3 := IntWalk.i64_in _ (by omega)
          have n0 : (4 * (k : Int)).toNat = 4 * k := by omega
          have n1 : (4 * (k : Int) + 1).toNat = 4 * k + 1 := by omega
          have n2 : (4 * (k : Int) + 2).toNat = 4 * k + 2 := by omega
          have n3 : (4 * (k : Int) + 3).toNat = 4 * k + 3 := by omega
          have qa : (0 : Int) ≤ 4 * (k : Int) ∧ 4 * (k : Int) < 32 := by omega
          have qb : (0 : Int) ≤ 4 * (k : Int) + 1 ∧ 4 * (k : Int) + 1 < 32 := by omega
          have qc : (0 : Int) ≤ 4 * (k : Int) + 2 ∧ 4 * (k : Int) + 2 < 32 := by omega
          have qd : (0 : Int) ≤ 4 * (k : Int) + 3 ∧ 4 * (k : Int) + 3 < 32 := by omega
          go_wp2_with (fail)
          go_roundw
          case rel =>
            refine ⟨k + 1, by omega, by go_num, ?_, (((hd.other _ _ hne5).other _ _ hne5).other _ _ hne5).other _ _ hne5, (((hB.setCell hg5 _).setCell hg5 _).setCell hg5 _).setCell hg5 _⟩
            rw [hsucc]
            exact (((ho.set (4 * k) y1).set (4 * k + 1) y2).set (4 * k + 2) y3).set (4 * k + 3) y4
          case measure => simp [intOf]; omega
        · obtain rfl : k = 8 := by omega
          have hcv := ho.conv 32 (outArr_size d 8)
          rw [← hfin] at hcv
          clear hfin
          rw [show ((8 : Nat) : Int) = (8 : Int) from rfl]
          go_wp2_with (fail)
          go_ret
          exact ⟨rfl, hB⟩
end Go.Proofs.YtjnobggefofjcacDoor
