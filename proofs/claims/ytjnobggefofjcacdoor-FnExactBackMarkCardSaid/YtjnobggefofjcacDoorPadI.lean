import Derived.Test.YtjnobggefofjcacDoorPad
import Derived.Test.YtjnobggefofjcacDoorBld
import Derived.Test.YtjnobggefofjcacDoorShelf
namespace Go.Proofs.YtjnobggefofjcacDoor
open Go.RowKit

theorem byteCells_cb (l : List UInt8) : Lib.byteCells l = l.map cb := rfl
theorem strCells_cb (s : ByteArray) : Lib.strCells s = s.data.toList.map cb := by
  first | rfl | (unfold Lib.strCells; simp [cb])

set_option maxHeartbeats 1000000 in
set_option maxRecDepth 100000 in
theorem impl_pad (s : ByteArray) (w : World) (hs : s.size ≤ 2000000) :
    Calls Tryd.prog 52 #[.string s] w fun e w' => e = .returned (.string ⟨(padOf s).toArray⟩) ∧ Below w.heap.size w w' := by
  have hlt := zerosOf_lt s.size
  have t1 : (s.size : Int).tmod 64 = (s.size : Int) % 64 := Int.tmod_eq_emod_of_nonneg (by omega)
  have t2 : (119 - (s.size : Int) % 64).tmod 64 = (119 - (s.size : Int) % 64) % 64 := Int.tmod_eq_emod_of_nonneg (by omega)
  have t3 : (119 - (s.size : Int) % 64) % 64 = (zerosOf s.size : Int) := by unfold zerosOf; omega
  generalize hZ : zerosOf s.size = Z at t3 hlt
  have e1 : IntKind.i64.wrap (119 - (s.size : Int) % 64) = 119 - (s.size : Int) % 64 := IntWalk.i64_in _ (by omega)
  have hb0 : (w.alloc (.cells #[.pointer none, .slice none 0 0] 56)).heap[w.heap.size]? = some (.cells #[.pointer none, .slice none 0 0] 56 (0, 0)) := by
    show (w.heap.push _)[w.heap.size]? = _
    simp
  have c38 := Tryd.Builder_Grow_fresh w.heap.size w.heap.size (s.size + 1 + Z + 8) (w.alloc (.cells #[.pointer none, .slice none 0 0] 56)) (Nat.le_refl _) hb0 (by simp) (by omega)
  rw [show ((s.size + 1 + Z + 8 : Nat) : Int) = (s.size : Int) + 1 + (Z : Int) + 8 by omega] at c38
  have hB0 : Below w.heap.size w (w.alloc (.cells #[.pointer none, .slice none 0 0] 56)) := (Below.refl _ _).alloc (Nat.le_refl _) _
  have hsz : s.data.toList.length = s.size := by simp
  go_enter Tryd.func52, Tryd.ntmps52
  go_wp2_with (go_at_call 41; refine c38.mono ?_)
  rintro e w1 ⟨rfl, hbl1, hb1⟩
  have hB1 := hB0.trans hb1
  clear hB0 hb1 c38 hb0
  have c39 := writeString w.heap.size w.heap.size [] s w1 hbl1 (by simp; omega) hB1.size
  go_wp2_with (go_at_call 42; refine c39.mono ?_)
  rintro e w2 ⟨rfl, hbl2, hb2⟩
  have hB2 := hB1.trans hb2
  clear hB1 hb2 c39 hbl1
  rw [List.nil_append, strCells_cb] at hbl2
  have c40 := writeByte w.heap.size w.heap.size _ 128 w2 hbl2 (by simp; omega) hB2.size
  go_wp2_with (go_at_call 55; refine c40.mono ?_)
  rintro e w3 ⟨rfl, hbl3, hb3⟩
  have hB3 := hB2.trans hb3
  have hh0 : s.data.toList.map cb ++ [Value.int .u8 128] = (headPad s 0).map cb := by unfold headPad; simp [cb]
  rw [hh0] at hbl3
  clear hB2 hb3 c40 hbl2 hh0
  go_wp2_with (fail)
  go_loopw [23] (fun i wr => ∃ k : Nat, k ≤ Z ∧ i = .int .i64 k ∧ Lib.BuilderAt 56 5 w.heap.size w.heap.size (.pointer (some ⟨w.heap.size, 0, none⟩)) ((headPad s k).map cb) wr ∧ Below w.heap.size w wr) (fun i _ => Z - (intOf i).toNat)
  case atStart => exact ⟨0, by omega, rfl, hbl3, hB3⟩
  case round =>
    clear hbl3 hB3
    obtain ⟨k, hk, rfl, hbl, hB⟩ := hrel
    by_cases hlt : k < Z
    · have c40 := writeByte w.heap.size w.heap.size _ 0 wr hbl (by rw [List.length_map, headPad_length]; omega) hB.size
      have q : (k : Int) < (Z : Int) := by omega
      go_wp2_with (go_at_call 55; refine c40.mono ?_)
      rintro e w4 ⟨rfl, hbl4, hb4⟩
      have hB4 := hB.trans hb4
      have hh0 : (headPad s k).map cb ++ [Value.int .u8 0] = (headPad s (k + 1)).map cb := by rw [headPad_succ]; simp [cb]
      rw [hh0] at hbl4
      clear hbl hB hb4 c40 hh0
      go_wp2_with (fail)
      go_roundw
      case rel => exact ⟨k + 1, by omega, by go_num, hbl4, hB4⟩
      case measure => simp [intOf]; omega
    · obtain rfl : k = Z := by omega
      have e8 : IntKind.u64.wrap (s.size : Int) = (s.size : Int) := by simp [IntKind.wrap, IntKind.bits, IntKind.signed]; omega
      have e9 : IntKind.u64.wrap ((s.size : Int) * 8) = (s.size : Int) * 8 := by simp [IntKind.wrap, IntKind.bits, IntKind.signed]; omega
      have hpo : padOf s = headPad s k ++ lenBytes s.size 8 := by rw [← hZ]; rfl
      have hL := headPad_length s k
      generalize headPad s k = L at hbl hpo hL
      clear hZ t3
      go_wp2_with (fail)
      go_loopw [31] (fun i wr => ∃ j : Nat, j ≤ 8 ∧ i = .int .i64 j ∧ Lib.BuilderAt 56 5 w.heap.size w.heap.size (.pointer (some ⟨w.heap.size, 0, none⟩)) ((L ++ lenBytes s.size j).map cb) wr ∧ Below w.heap.size w wr) (fun i _ => 8 - (intOf i).toNat)
      case atStart => exact ⟨0, by omega, rfl, by simpa [lenBytes] using hbl, hB⟩
      case round =>
        clear hbl hB
        obtain ⟨j, hj, rfl, hbl, hB⟩ := hrel
        by_cases hlt8 : j < 8
        · obtain ⟨m, hm⟩ : ∃ m : Nat, m + j = 7 := ⟨7 - j, by omega⟩
          have f0 : (7 - (j : Int)) = (m : Int) := by omega
          have f1 : IntKind.i64.wrap (7 - (j : Int)) = (m : Int) := by rw [f0]; exact IntWalk.i64_in _ (by omega)
          have f2 : IntKind.i64.wrap (8 * (m : Int)) = 8 * (m : Int) := IntWalk.i64_in _ (by omega)
          have f3 : (8 * (m : Int)).toNat = 8 * m := by omega
          have f4 : min (8 * m) 64 = 8 * m := by omega
          have f5 : (0 : Int) ≤ (m : Int) := by omega
          have f6 : (s.size : Int) * 8 / 2 ^ (8 * m) % 256 = ((lenByte s.size m).toNat : Int) := by
            have : ((s.size : Int) * 8 / 2 ^ (8 * m)) = ((8 * s.size / 2 ^ (8 * m) : Nat) : Int) := by
              rw [Int.mul_comm]; norm_cast
            rw [this]
            unfold lenByte
            simp
          have f7 : IntKind.u8.wrap ((s.size : Int) * 8 / 2 ^ (8 * m)) = ((lenByte s.size m).toNat : Int) := by
            rw [← f6]; simp [IntKind.wrap, IntKind.bits, IntKind.signed]
          have hne := lenBytes_succ s.size j
          rw [show 7 - j = m by omega] at hne
          generalize lenByte s.size m = c at f6 f7 hne
          have c40 := writeByte w.heap.size w.heap.size _ (c.toNat : Int) wr hbl (by rw [List.length_map, List.length_append, hL, lenBytes_length]; omega) hB.size
          have q : (j : Int) < 8 := by omega
          go_wp2_with (go_at_call 55; refine c40.mono ?_)
          rintro e w4 ⟨rfl, hbl4, hb4⟩
          have hB4 := hB.trans hb4
          have hh0 : (L ++ lenBytes s.size j).map cb ++ [Value.int .u8 (c.toNat : Int)] = (L ++ lenBytes s.size (j + 1)).map cb := by rw [hne]; simp [cb]
          rw [hh0] at hbl4
          clear hbl hB hb4 c40 hh0 f0 f1 f2 f3 f4 f6 f7
          go_wp2_with (fail)
          go_roundw
          case rel => exact ⟨j + 1, by omega, by go_num, hbl4, hB4⟩
          case measure => simp [intOf]; omega
        · obtain rfl : j = 8 := by omega
          rw [← hpo, ← byteCells_cb] at hbl
          have c41 := Tryd.Builder_String_any w.heap.size w.heap.size (padOf s) wr (.inr hbl) hB.size
          clear hpo
          go_wp2_with (go_at_call 43; refine c41.mono ?_; rintro e w5 ⟨rfl, hb5⟩)
          go_ret
          exact ⟨rfl, hB.trans hb5⟩
end Go.Proofs.YtjnobggefofjcacDoor
