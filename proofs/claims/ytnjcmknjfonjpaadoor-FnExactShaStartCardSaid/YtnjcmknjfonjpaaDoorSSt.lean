import Derived.Test.YtnjcmknjfonjpaaDoorNums
namespace Go.Proofs.YtnjcmknjfonjpaaDoor
open Go.RowKit

attribute [-simp] Tryd.isAgg35 Tryd.sizeOf35 Tryd.zeroValue35

theorem words_take (d : Array (BitVec 32)) (k : Nat) (h : k < d.size) : (words d).take (k + 1) = (words d).take k ++ [(d[k]!.toNat : Int)] := by
  have hk : k < (words d).length := by rw [words_length]; exact h
  rw [List.take_succ_eq_append_getElem hk, words_get d k h]

set_option maxHeartbeats 1000000 in
set_option maxRecDepth 100000 in
theorem spec_start (w : World) :
    Calls Tryd.prog 14 #[] w fun e w' => ∃ v' C, e = .returned v' ∧ IRow w' w.heap.size C v' (words start) ∧ C ≤ w'.heap.size ∧ Below w.heap.size w w' := by
  obtain ⟨i0, hi, hz0, hz1, hz2⟩ := info_parts infoI
  go_enter Tryd.func14, Tryd.ntmps14
  go_wp2_with (go_at_call 29; refine (spec_first _).mono ?_; rintro e w1 ⟨rfl, hb1⟩)
  have hsto := store_new w1 35 35 z8 start (by rw [start_size, z8_size]) rfl (by rw [start_size]; exact size35)
  simp only [Tryd.sizeOf35, Result.andThen, ↓reduceIte, start_size, hsto]
  rw [Oper.upon_skip]
  have hB1 := hb1.alloc hb1.size (.cells (start.map u) 35)
  have hd1 := Blk.new w1 35 start
  have hg1 := hb1.size
  clear hsto hb1
  have hsz := hd1.lt
  generalize w1.alloc (.cells (start.map u) 35) = W1 at hB1 hd1 hsz ⊢
  generalize w1.heap.size = g1 at hd1 hg1 hsz ⊢
  have ho1 := World.ownsRow_made W1 (e := 3) (size := 1) (base := w.heap.size) #[] 0 hB1.size (by unfold maxLen; omega) rfl
  have hB2 := hB1.alloc hB1.size (.cells #[] 3)
  have hd2 := hd1.alloc (.cells #[] 3)
  go_wp2_with (fail)
  go_loopw [2, 3] (fun v i wr => ∃ k : Nat, k ≤ 8 ∧ i = .int .i64 k ∧ (∃ g cap, v = .slice (some ⟨g, 0, none⟩) k cap ∧ g ≠ g1 ∧ wr.ownsRow w.heap.size 3 1 (.slice (some ⟨g, 0, none⟩) k cap) k (((words start).take k).map (Value.int .i64))) ∧ Blk wr g1 35 start ∧ Below w.heap.size w wr) (fun _ i _ => 8 - (intOf i).toNat)
  case atStart => exact ⟨0, by omega, rfl, ⟨_, _, rfl, by omega, by simpa using ho1⟩, hd2, hB2⟩
  case round =>
    clear ho1 hB1 hd1 hB2 hd2
    obtain ⟨k, hk, rfl, ⟨g, cap, rfl, hne, hown⟩, hd, hB⟩ := hrel
    by_cases hlt : k < 8
    · have cx := hd.cell k (by rw [start_size]; omega)
      have htk := words_take start k (by rw [start_size]; omega)
      generalize start[k]! = x at cx htk
      have q : (0 : Int) ≤ (k : Int) ∧ (k : Int) < 8 := by omega
      have e1 : IntKind.i64.wrap (x.toNat : Int) = (x.toNat : Int) := IntWalk.i64_in _ (by have := x.isLt; omega)
      have hsz := hB.size
      go_wp2_with (at_builtin; refine wpList_append_own _ rfl _ _ 22 rfl w.heap.size 3 i0 (.int .i64 0) 1 8 Tryd.underlying22 hi hz0 hz1 hz2 rfl (by decide) _ _ _ rfl (hown.alloc _) ⟨wr.heap.size, 0, none⟩ 1 1 [.int .i64 (x.toNat : Int)] rfl rfl ?c1 ?c2 ?c3 ?c4 ?c5 ?_)
      case c1 =>
        intro j u hj
        match j, hj with
        | 0, hj => simp at hj; subst hj; simp [Addr.add]
      case c2 => intro u hu; simp at hu; subst hu; rfl
      case c3 => unfold maxLen; omega
      case c4 => omega
      case c5 => simp; omega
      intro v' w2 hown' hgrow _
      have hB2 : Below w.heap.size w w2 := (hB.alloc hsz _).grown hgrow (by simp; omega) (fun j hj => (hown.lt j hj).1)
      have hd2 : Blk w2 g1 35 start := by
        show w2.heap[g1]? = _
        rw [hgrow.block g1 (by have := hd.lt; simp; omega) (by simpa [Value.ownBlock] using hne.symm)]
        exact hd.alloc _
      have e5 : ((words start).take k).map (Value.int .i64) ++ [Value.int .i64 (x.toNat : Int)] = ((words start).take (k + 1)).map (Value.int .i64) := by rw [htk]; simp
      rw [← List.map_take, e5] at hown'
      obtain ⟨g', cap', rfl⟩ : ∃ g cap, v' = .slice (some ⟨g, 0, none⟩) (k + 1) cap := by
        rcases hown'.2 with ⟨_, h0⟩ | ⟨g, cap, cur, hv, _⟩
        · omega
        · exact ⟨g, cap, hv⟩
      have hne' : g' ≠ g1 := by
        rintro rfl
        rcases hown'.2 with ⟨h0, _⟩ | ⟨g2, cap2, cur2, hv2, _, hh2, _⟩
        · cases h0
        · injection hv2 with e1 e2 e3
          injection e1 with e1
          injection e1 with e1
          subst e1
          have := hd2.symm.trans hh2
          simp at this
      clear hown hB hgrow cx e5 hd
      go_wp2_with (fail)
      go_roundw
      case rel => exact ⟨k + 1, by omega, by go_num, ⟨g', cap', rfl, hne', hown'⟩, hd2, hB2⟩
      case measure => simp [intOf]; omega
    · obtain rfl : k = 8 := by omega
      have hl : (words start).length = 8 := by rw [words_length, start_size]
      rw [List.take_of_length_le (by omega)] at hown
      go_wp2_with (fail)
      go_ret
      refine ⟨_, _, rfl, ⟨by rw [hl]; exact hown, fun g' hg' => (hown.lt g' hg').2⟩, Nat.le_refl _, hB⟩

end Go.Proofs.YtnjcmknjfonjpaaDoor
