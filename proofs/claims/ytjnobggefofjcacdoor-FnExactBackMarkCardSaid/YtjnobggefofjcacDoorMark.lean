import Derived.Test.YtjnobggefofjcacDoorSDig2
import Derived.Test.YtjnobggefofjcacDoorDig
import Derived.Lib.BufferWrite
import Derived.Laws.DeepStrings4
namespace Go.Proofs.YtjnobggefofjcacDoor
open Go.RowKit

theorem digestOf_size (s : ByteArray) : (digestOf s).size = 32 := by
  show (stText _ 8).toArray.size = 32
  rw [List.size_toArray, stText_length]

/-- A text filled up with zeros to 64 bytes. -/
def fill64 (s : ByteArray) : ByteArray := ⟨(s.data.toList ++ List.replicate (64 - s.size) 0).toArray⟩

/-- The key of a block. -/
def keyOf (s : ByteArray) : ByteArray := if 64 < s.size then fill64 (digestOf s) else fill64 s

/-- Each byte exclusive-or one. -/
def xorText (s : ByteArray) (m : UInt8) : ByteArray := ⟨(s.data.toList.map (· ^^^ m)).toArray⟩

/-- The mark of a text under a key. -/
def hmacOf (k t : ByteArray) : ByteArray := digestOf (xorText (keyOf k) 92 ++ digestOf (xorText (keyOf k) 54 ++ t))

theorem fill64_size (s : ByteArray) (h : s.size ≤ 64) : (fill64 s).size = 64 := by
  show (s.data.toList ++ List.replicate (64 - s.size) 0).toArray.size = 64
  have : s.data.toList.length = s.size := by simp
  rw [List.size_toArray, List.length_append, List.length_replicate, this]
  omega

theorem keyOf_size (s : ByteArray) : (keyOf s).size = 64 := by
  unfold keyOf
  split
  · exact fill64_size _ (by rw [digestOf_size]; omega)
  · exact fill64_size _ (by omega)

theorem xorText_size (s : ByteArray) (m : UInt8) : (xorText s m).size = s.size := by
  show (s.data.toList.map (· ^^^ m)).toArray.size = s.data.size
  simp

theorem hmacOf_size (k t : ByteArray) : (hmacOf k t).size = 32 := digestOf_size _

attribute [irreducible] fill64 keyOf xorText

/-- The first k bytes are x, the others zero. -/
def laidOf (n : Nat) (x : UInt8) (k : Nat) : Array UInt8 := (List.replicate k x ++ List.replicate (n - k) 0).toArray

theorem laidOf_size (n : Nat) (x : UInt8) (k : Nat) (h : k ≤ n) : (laidOf n x k).size = n := by
  unfold laidOf; simp; omega

theorem laidOf_succ (n : Nat) (x : UInt8) (k : Nat) (h : k < n) : laidOf n x (k + 1) = (laidOf n x k).setIfInBounds k x := by
  unfold laidOf
  apply Array.toList_inj.1
  simp only [Array.toList_setIfInBounds]
  have e : n - k = (n - (k + 1)) + 1 := by omega
  rw [e, show List.replicate (n - (k + 1) + 1) (0 : UInt8) = 0 :: List.replicate (n - (k + 1)) 0 from rfl, List.set_append_right _ _ (by simp), List.replicate_succ']
  simp

attribute [irreducible] laidOf

set_option maxHeartbeats 400000 in
theorem spec_long (n : Nat) (x : UInt8) (w : World) (hn : n ≤ 1000000) :
    Calls Tryd.prog 30 #[.int .i64 (n : Int), .int .u8 (x.toNat : Int)] w fun e w' => e = .returned (.string ⟨(List.replicate n x).toArray⟩) ∧ Below w.heap.size w w' := by
  have hmk := makeRow n hn
  have hb0 : BBlk (w.alloc (.cells ((Array.replicate n (0 : UInt8)).map cb) 5)) w.heap.size (laidOf n x 0) := by
    show (w.heap.push _)[w.heap.size]? = _
    unfold laidOf
    simp
  have hB0 : Below w.heap.size w (w.alloc (.cells ((Array.replicate n (0 : UInt8)).map cb) 5)) := (Below.refl _ _).alloc (Nat.le_refl _) _
  have hend : (laidOf n x n).toList = List.replicate n x := by unfold laidOf; simp
  generalize List.replicate n x = fin at hend
  generalize (Array.replicate n (0 : UInt8)).map cb = z at hmk hb0 hB0
  go_enter Tryd.func30, Tryd.ntmps30
  go_wp2_with (fail)
  clear hmk
  go_loopw [6] (fun i wr => ∃ k : Nat, k ≤ n ∧ i = .int .i64 k ∧ BBlk wr w.heap.size (laidOf n x k) ∧ Below w.heap.size w wr) (fun i _ => n - (intOf i).toNat)
  case atStart => exact ⟨0, by omega, rfl, hb0, hB0⟩
  case round =>
    clear hb0 hB0
    obtain ⟨k, hk, rfl, hb, hB⟩ := hrel
    by_cases hlt : k < n
    · have q : (k : Int) < (n : Int) := by omega
      have hsucc := laidOf_succ n x k hlt
      obtain ⟨v0, o0⟩ := hb.cell k (by rw [laidOf_size n x k (by omega)]; exact hlt)
      have hf := hb.frozen k
      go_wp2_with (fail)
      go_roundw
      case rel =>
        refine ⟨k + 1, by omega, by go_num, ?_, hB.setCell (Nat.le_refl _) _⟩
        rw [hsucc]
        exact hb.set k x
      case measure => simp [intOf]; omega
    · obtain rfl : k = n := by omega
      have q : ¬ ((k : Int) < (k : Int)) := by omega
      have hcv := hb.conv k (laidOf_size k x k (by omega))
      have e2 : (⟨laidOf k x k⟩ : ByteArray) = ⟨fin.toArray⟩ := by rw [← hend]
      rw [e2] at hcv
      clear hend e2
      go_wp2_with (fail)
      go_ret
      exact ⟨rfl, hB⟩

/-- One byte of a row of the call's own is stored anew. -/
theorem BRow.set {W : World} {B : Nat} {g len cap : Nat} {l : List UInt8} (h : BRow W B (.slice (some ⟨g, 0, none⟩) len cap) l) (i : Nat) (x : UInt8) :
    BRow (W.setCell ⟨g, i, none⟩ (cb x)) B (.slice (some ⟨g, 0, none⟩) len cap) (l.set i x) := by
  obtain ⟨g', cap', cur, fr, hv, hgB, hh, h1, h2, h3, h4, h5⟩ := h
  injection hv with e1 e2 e3
  injection e1 with e1
  injection e1 with e1
  subst e1
  subst e2
  subst e3
  refine ⟨g, cap, cur.setIfInBounds i (cb x), fr, by simp, hgB, ?_, by simpa using h1, h2, by simpa using h3, ?_, h5⟩
  · show (W.heap.modify g _)[g]? = _
    rw [Array.getElem?_modify, if_pos rfl, hh]
    simp
  · simp only [Array.toList_setIfInBounds, List.length_set, List.take_set, h4, List.map_set]

theorem BRow.frozen {W : World} {B : Nat} {g len cap : Nat} {l : List UInt8} (h : BRow W B (.slice (some ⟨g, 0, none⟩) len cap) l) (i : Nat) (hi : i < l.length) : W.frozen? ⟨g, i, none⟩ = false := by
  obtain ⟨g', cap', cur, fr, hv, hgB, hh, h1, h2, h3, h4, h5⟩ := h
  injection hv with e1 e2 e3
  injection e1 with e1
  injection e1 with e1
  subst e1
  simp only [World.frozen?, hh]
  rcases h5 with rfl | h5
  · simp
  · simp; omega

/-- The first k bytes exclusive-or m. -/
def xored (l : List UInt8) (m : UInt8) (k : Nat) : List UInt8 := (l.take k).map (· ^^^ m) ++ l.drop k

theorem xored_length (l : List UInt8) (m : UInt8) (k : Nat) : (xored l m k).length = l.length := by
  unfold xored
  rw [List.length_append, List.length_map, List.length_take, List.length_drop]; omega

theorem xored_get (l : List UInt8) (m : UInt8) (k : Nat) (h : k < l.length) : (xored l m k)[k]'(by rw [xored_length]; exact h) = l[k] := by
  unfold xored
  rw [List.getElem_append_right (by simp; omega)]
  simp [Nat.min_eq_left (Nat.le_of_lt h)]

theorem xored_succ (l : List UInt8) (m : UInt8) (k : Nat) (h : k < l.length) : xored l m (k + 1) = (xored l m k).set k (l[k] ^^^ m) := by
  unfold xored
  have e2 : List.drop k l = l[k] :: List.drop (k + 1) l := List.drop_eq_getElem_cons h
  rw [List.take_succ_eq_append_getElem h, List.map_append, List.set_append_right _ _ (by simp; omega)]
  simp [Nat.min_eq_left (Nat.le_of_lt h)]
  rw [e2]
  rfl

theorem bits_xor8 (a m : UInt8) : bits .xor .u8 (a.toNat : Int) (m.toNat : Int) = ((a ^^^ m).toNat : Int) := by
  rw [u8_xor_nat _ _ a.toNat_lt m.toNat_lt, UInt8.toNat_xor]

attribute [irreducible] xored
end Go.Proofs.YtjnobggefofjcacDoor
