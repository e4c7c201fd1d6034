import Derived.Test.YtlkhgamhhblmgaaDoorLaneC
namespace Go.Proofs.YtlkhgamhhblmgaaDoor
open Go.RowKit

/-! Padding behind a first block of 64 bytes. -/

/-- What stands behind the first block. -/
def tailT (t : List UInt8) : List UInt8 := t ++ [128] ++ List.replicate (zerosOf (64 + t.length)) 0 ++ lenBytes (64 + t.length) 8
def stB (d : Array (BitVec 32)) : ByteArray := ⟨(stText d 8).toArray⟩

theorem tailT_length (t : List UInt8) : (tailT t).length = t.length + 1 + zerosOf (64 + t.length) + 8 := by
  simp only [tailT, List.length_append, List.length_replicate, lenBytes_length, List.length_cons, List.length_nil]
theorem tailT_short (t : List UInt8) (h : t.length ≤ 55) : (tailT t).length = 64 := by
  rw [tailT_length]; unfold zerosOf; omega
theorem tailT_long (t : List UInt8) (h : 55 < t.length) (h2 : t.length ≤ 119) : (tailT t).length = 128 := by
  rw [tailT_length]; unfold zerosOf; omega

theorem pad_tail (x : ByteArray) (hx : x.size = 64) (t : List UInt8) : padText (x ++ ⟨t.toArray⟩) = ⟨(x.data.toList ++ tailT t).toArray⟩ := by
  have hsz : (x ++ (⟨t.toArray⟩ : ByteArray)).size = 64 + t.length := by
    rw [ByteArray.size_append, hx]
    show 64 + t.toArray.size = _
    simp
  unfold padText padOf headPad tailT
  rw [hsz]
  simp [ByteArray.data_append, List.append_assoc]

theorem blk_list (l : List UInt8) (k : Nat) : blk ⟨l.toArray⟩ k = ⟨((l.drop (64 * k)).take 64).toArray⟩ := by
  unfold blk
  apply ByteArray.ext
  apply Array.toList_inj.1
  rw [Lib.extract_data]
  simp only [Nat.add_sub_cancel_left]

def tailSt (h : Array (BitVec 32)) (t : List UInt8) : Array (BitVec 32) :=
  if t.length ≤ 55 then blockOf h ⟨(tailT t).toArray⟩ else blockOf (blockOf h ⟨((tailT t).take 64).toArray⟩) ⟨((tailT t).drop 64).toArray⟩

theorem dig_tail (x : ByteArray) (hx : x.size = 64) (t : List UInt8) (ht : t.length ≤ 119) : digestOf (x ++ ⟨t.toArray⟩) = stB (tailSt (blockOf start x) t) := by
  have hxl : x.data.toList.length = 64 := by simpa using hx
  have e0 : blk ⟨(x.data.toList ++ tailT t).toArray⟩ 0 = x := by
    rw [blk_list, Nat.mul_zero, List.drop_zero, List.take_append_of_le_length (by omega), List.take_of_length_le (by omega)]
  have e1 : ∀ k, blk ⟨(x.data.toList ++ tailT t).toArray⟩ (k + 1) = ⟨(((tailT t).drop (64 * k)).take 64).toArray⟩ := fun k => by
    rw [blk_list, show 64 * (k + 1) = x.data.toList.length + 64 * k by omega, List.drop_append, List.drop_eq_nil_of_le (by omega), List.nil_append, Nat.add_sub_cancel_left]
  have hsz : (⟨(x.data.toList ++ tailT t).toArray⟩ : ByteArray).size = 64 + (tailT t).length := by
    show (x.data.toList ++ tailT t).toArray.size = _
    rw [List.size_toArray, List.length_append, hxl]
  unfold digestOf stB
  rw [pad_tail x hx, hsz]
  by_cases h : t.length ≤ 55
  · have hl := tailT_short t h
    rw [hl, show (64 + 64) / 64 = 0 + 1 + 1 by rfl, digState_succ, digState_succ, digState_zero, e0, e1 0, tailSt, if_pos h, Nat.mul_zero, List.drop_zero, List.take_of_length_le (by omega)]
  · have hl := tailT_long t (by omega) ht
    rw [hl, show (64 + 128) / 64 = 0 + 1 + 1 + 1 by rfl, digState_succ, digState_succ, digState_succ, digState_zero, e0, e1 0, e1 (0 + 1), tailSt, if_neg h, Nat.mul_zero, List.drop_zero, show 64 * (0 + 1) = 64 by rfl]
    rw [List.take_of_length_le (l := (tailT t).drop 64) (by rw [List.length_drop]; omega)]

theorem tailSt_size (h : Array (BitVec 32)) (hh : h.size = 8) (t : List UInt8) : (tailSt h t).size = 8 := by
  unfold tailSt
  split
  · exact blockOf_size _ _ hh
  · exact blockOf_size _ _ (blockOf_size _ _ hh)

theorem inst_some (l : List UInt8) (v : UInt8) : inst (l.map some) v = ⟨l.toArray⟩ := by
  unfold inst
  rw [List.map_map]
  congr 2
  conv => rhs; rw [← List.map_id l]
  rfl

/-- A text's blocks behind the first, in lanes. -/
noncomputable def tailN {R : Type} (n V : Nat) (t : List UInt8) (k : Lane.St R) : Lane.St R :=
  if t.length ≤ 55 then tb n V ((tailT t).map some) k else tb n V (((tailT t).take 64).map some) (tb n V (((tailT t).drop 64).map some) k)

theorem tailN_lanes {R : Type} (n : Nat) (v : Nat → UInt8) (t : List UInt8) (ht : t.length ≤ 119) (k : Lane.St R) (H : Nat → Array (BitVec 32)) (hH : ∀ i, (H i).size = 8) :
    atLanes n (tailN n (Lane.PN n fun i => (v i).toNat) t k) H = atLanes n k fun i => tailSt (H i) t := by
  unfold tailN tailSt
  by_cases h : t.length ≤ 55
  · simp only [if_pos h]
    rw [tb_lanes n v _ (by rw [List.length_map]; exact tailT_short t h) k H hH]
    simp only [inst_some]
  · have hl := tailT_long t (by omega) ht
    simp only [if_neg h]
    rw [tb_lanes n v _ (by rw [List.length_map, List.length_take]; omega) _ H hH]
    rw [tb_lanes n v _ (by rw [List.length_map, List.length_drop]; omega) k _ (fun i => blockOf_size _ _ (hH i))]
    simp only [inst_some]

/-! The words of a digest's bytes. -/
theorem wb_nat (x : BitVec 32) (n : Nat) : (wbyte x n).toNat = x.toNat / 2 ^ n % 256 := by
  unfold wbyte
  simp

theorem word_back (x : BitVec 32) : BitVec.ofNat 32 ((wbyte x 24).toNat * 2 ^ 24 + (wbyte x 16).toNat * 2 ^ 16 + (wbyte x 8).toNat * 2 ^ 8 + (wbyte x 0).toNat) = x := by
  have hb := x.isLt
  rw [wb_nat, wb_nat, wb_nat, wb_nat]
  rw [show x.toNat / 2 ^ 24 % 256 * 2 ^ 24 + x.toNat / 2 ^ 16 % 256 * 2 ^ 16 + x.toNat / 2 ^ 8 % 256 * 2 ^ 8 + x.toNat / 2 ^ 0 % 256 = x.toNat by omega]
  exact Lane.of_to x

theorem data_get (l : List UInt8) (i : Nat) : (⟨l.toArray⟩ : ByteArray).data[i]! = l.getD i 0 := by
  show l.toArray[i]! = _
  simp [List.getD_eq_getElem?_getD]
  rfl

theorem st_list (d : Array (BitVec 32)) : stText d 8 = [wbyte d[0]! 24, wbyte d[0]! 16, wbyte d[0]! 8, wbyte d[0]! 0, wbyte d[1]! 24, wbyte d[1]! 16, wbyte d[1]! 8, wbyte d[1]! 0, wbyte d[2]! 24, wbyte d[2]! 16, wbyte d[2]! 8, wbyte d[2]! 0, wbyte d[3]! 24, wbyte d[3]! 16, wbyte d[3]! 8, wbyte d[3]! 0, wbyte d[4]! 24, wbyte d[4]! 16, wbyte d[4]! 8, wbyte d[4]! 0, wbyte d[5]! 24, wbyte d[5]! 16, wbyte d[5]! 8, wbyte d[5]! 0, wbyte d[6]! 24, wbyte d[6]! 16, wbyte d[6]! 8, wbyte d[6]! 0, wbyte d[7]! 24, wbyte d[7]! 16, wbyte d[7]! 8, wbyte d[7]! 0] := by
  have h0 : stText d 0 = [] := by unfold stText; rfl
  simp only [stText_succ, wordBytes, h0, List.nil_append, List.cons_append]

theorem st_word (d : Array (BitVec 32)) (r : List UInt8) (j : Nat) (hj : j < 8) : wordAt ⟨(stText d 8 ++ r).toArray⟩ j = d[j]! := by
  rw [wordAt_nat, data_get, data_get, data_get, data_get, st_list]
  match j, hj with
  | 0, _ => exact word_back d[0]!
  | 1, _ => exact word_back d[1]!
  | 2, _ => exact word_back d[2]!
  | 3, _ => exact word_back d[3]!
  | 4, _ => exact word_back d[4]!
  | 5, _ => exact word_back d[5]!
  | 6, _ => exact word_back d[6]!
  | 7, _ => exact word_back d[7]!

end Go.Proofs.YtlkhgamhhblmgaaDoor
