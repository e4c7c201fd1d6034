import Derived.Test.YtjnobggefofjcacDoorBytes
import Derived.IntWalk
namespace Go.Proofs.YtjnobggefofjcacDoor
open Go.RowKit

/-- How many zero bytes a text of n bytes gets. -/
def zerosOf (n : Nat) : Nat := (119 - n % 64) % 64

/-- Byte number i, from the lowest, of the length in bits. -/
def lenByte (n i : Nat) : UInt8 := UInt8.ofNat (8 * n / 2 ^ (8 * i) % 256)

/-- The first k of the eight bytes of the length. -/
def lenBytes (n k : Nat) : List UInt8 := (List.range k).map fun j => lenByte n (7 - j)

theorem lenBytes_succ (n k : Nat) : lenBytes n (k + 1) = lenBytes n k ++ [lenByte n (7 - k)] := by
  simp [lenBytes, List.range_succ]

theorem lenBytes_length (n k : Nat) : (lenBytes n k).length = k := by simp [lenBytes]

/-- The text with its 128 and z zeros. -/
def headPad (s : ByteArray) (z : Nat) : List UInt8 := s.data.toList ++ [128] ++ List.replicate z 0

theorem headPad_succ (s : ByteArray) (z : Nat) : headPad s (z + 1) = headPad s z ++ [0] := by
  simp [headPad, List.replicate_succ', List.append_assoc]

theorem headPad_length (s : ByteArray) (z : Nat) : (headPad s z).length = s.size + 1 + z := by
  simp [headPad]; omega

/-- The padded text. -/
def padOf (s : ByteArray) : List UInt8 := headPad s (zerosOf s.size) ++ lenBytes s.size 8

def sliceLen : Value → Nat
  | .slice _ n _ => n
  | _ => 0

theorem zerosOf_lt (n : Nat) : zerosOf n < 64 := Nat.mod_lt _ (by decide)

theorem BRow.conv {W : World} {B : Nat} {v : Value} {l : List UInt8} (h : BRow W B v l) : (convert 33 9 v).run Tryd.prog W = .ok (.string ⟨l.toArray⟩) W := by
  have h' := h
  obtain ⟨g, cap, cur, fr, rfl, _⟩ := h'
  refine run_convert_bytes_back W 33 9 5 ⟨g, 0, none⟩ cap l Tryd.underlying33 Tryd.underlying5 Tryd.underlying9 fun j hj => ?_
  have hadd : (⟨g, 0, none⟩ : Addr).add j = ⟨g, j, none⟩ := by unfold Addr.add; split <;> simp_all
  rw [hadd]
  exact h.cell rfl j hj

attribute [irreducible] headPad lenBytes lenByte

set_option maxHeartbeats 1000000 in
set_option maxRecDepth 100000 in
theorem spec_pad (s : ByteArray) (w : World) (hs : s.size ≤ 2000000) :
    Calls Tryd.prog 33 #[.string s] w fun e w' => e = .returned (.string ⟨(padOf s).toArray⟩) ∧ Below w.heap.size w w' := by
  have hcv := fun W : World => run_bytes_of_string W 9 33 5 s Tryd.underlying9 Tryd.underlying33 Tryd.underlying5
  have hsz : s.data.toList.length = s.size := by simp
  go_enter Tryd.func33, Tryd.ntmps33
  go_wp2_with (at_builtin; refine wpList_append_byte (B := w.heap.size) (l := s.data.toList) _ rfl _ _ rfl 128 rfl ?hr ?hb _ _ rfl ?hc ?b1 ?b2 ?_)
  case hr => exact (BRow.of_string w s w.heap.size (Nat.le_refl _) (by unfold maxLen; omega)).alloc _
  case hb => simp; omega
  case hc => simp [cb]
  case b1 => rw [hsz]; unfold maxLen; omega
  case b2 => rw [hsz]; omega
  intro v w1 hrow hb1
  have hb : Below w.heap.size w w1 := Below.trans (((Below.refl _ _).alloc (Nat.le_refl _) _).alloc (by simp) _).drew hb1
  rw [show s.data.toList ++ [128] = headPad s 0 by unfold headPad; simp] at hrow
  clear hb1 hcv
  go_wp2_with (fail)
  go_loopw [3] (fun v wr => ∃ z : Nat, z ≤ zerosOf s.size ∧ BRow wr w.heap.size v (headPad s z) ∧ Below w.heap.size w wr) (fun v _ => s.size + 100 - sliceLen v)
  case atStart => exact ⟨0, by omega, hrow, hb⟩
  case round =>
    clear hrow hb
    obtain ⟨z, hz, hrow, hb⟩ := hrel
    have hrow' := hrow
    obtain ⟨g, cap, cur, fr, rfl, _⟩ := hrow'
    rw [headPad_length]
    have hlt := zerosOf_lt s.size
    have ht : ((s.size : Int) + 1 + (z : Int)) % 64 = (((s.size + 1 + z) % 64 : Nat) : Int) := by omega
    have hcv := hrow.conv
    rw [headPad_length] at hcv
    have hrow2 : BRow wr w.heap.size (.slice (some ⟨g, 0, none⟩) (s.size + 1 + z) cap) (headPad s z) := by rw [← headPad_length]; exact hrow
    clear hrow
    by_cases hzz : z < zerosOf s.size
    · have hne : (s.size + 1 + z) % 64 ≠ 56 := by unfold zerosOf at hzz hz; omega
      generalize (s.size + 1 + z) % 64 = q at ht hne
      have hne' : ¬ ((q : Int) = 56) := by omega
      go_wp2_with (at_builtin; refine wpList_append_byte (B := w.heap.size) (l := headPad s z) _ rfl _ _ rfl 0 rfl ?hr ?hb _ _ rfl ?hc ?b1 ?b2 ?_)
      case hr => exact hrow2.alloc _
      case hb => have := hb.size; simp; omega
      case hc => simp [cb]
      case b1 => rw [headPad_length]; unfold maxLen; omega
      case b2 => rw [headPad_length]; omega
      intro v' w2 hrow3 hb2
      have hb3 : Below w.heap.size w w2 := (hb.alloc hb.size _).trans hb2
      rw [← headPad_succ] at hrow3
      clear hb2 hrow2 hcv hb
      go_wp2_with (fail)
      go_roundw
      case rel => exact ⟨z + 1, by omega, hrow3, hb3⟩
      case measure =>
        obtain ⟨g', cap', cur', fr', rfl, _⟩ := hrow3
        rw [headPad_length]
        simp [sliceLen]; omega
    · obtain rfl : z = zerosOf s.size := by omega
      have heq : (s.size + 1 + zerosOf s.size) % 64 = 56 := by unfold zerosOf; omega
      rw [heq] at ht
      have e8 : IntKind.i64.wrap (8 * (s.size : Int)) = 8 * (s.size : Int) := IntWalk.i64_in _ (by omega)
      go_wp2_with (fail)
      clear ht hcv heq e8
      have hL : (headPad s (zerosOf s.size)).length = s.size + 1 + zerosOf s.size := headPad_length _ _
      have hpo : padOf s = headPad s (zerosOf s.size) ++ lenBytes s.size 8 := rfl
      generalize headPad s (zerosOf s.size) = L at hL hpo hrow2
      go_loopw [3, 5] (fun v i wr => ∃ k : Nat, k ≤ 8 ∧ i = .int .i64 (7 - (k : Int)) ∧ BRow wr w.heap.size v (L ++ lenBytes s.size k) ∧ Below w.heap.size w wr) (fun _ i _ => (intOf i + 1).toNat)
      case atStart => exact ⟨0, by omega, rfl, by simpa [lenBytes] using hrow2, hb⟩
      case round =>
        clear hrow2 hb
        obtain ⟨k, hk, rfl, hrow, hb⟩ := hrel
        have hrow' := hrow
        obtain ⟨g, cap, cur, fr, rfl, _⟩ := hrow'
        have hcv := hrow.conv
        have hll : (L ++ lenBytes s.size k).length = s.size + 1 + zerosOf s.size + k := by rw [List.length_append, hL, lenBytes_length]
        rw [hll] at hcv
        have hrow2 : BRow wr w.heap.size (.slice (some ⟨g, 0, none⟩) (s.size + 1 + zerosOf s.size + k) cap) (L ++ lenBytes s.size k) := by rw [← hll]; exact hrow
        clear hrow
        rw [hll]
        by_cases hlt8 : k < 8
        · obtain ⟨j, hj⟩ : ∃ j : Nat, j + k = 7 := ⟨7 - k, by omega⟩
          rw [show (7 - (k : Int)) = (j : Int) by omega]
          have e1 : IntKind.u64.wrap (j : Int) = (j : Int) := by simp [IntKind.wrap, IntKind.bits, IntKind.signed]; omega
          have e2 : IntKind.u64.wrap (8 * (j : Int)) = 8 * (j : Int) := by simp [IntKind.wrap, IntKind.bits, IntKind.signed]; omega
          have e3 : (8 * (j : Int)).toNat = 8 * j := by omega
          have e4 : min (8 * j) 64 = 8 * j := by omega
          have e5 : IntKind.u8.wrap (8 * (s.size : Int) / 2 ^ (8 * j)) = ((lenByte s.size j).toNat : Int) := by
            have : (8 * (s.size : Int) / 2 ^ (8 * j)) = ((8 * s.size / 2 ^ (8 * j) : Nat) : Int) := by norm_cast
            rw [this]
            unfold lenByte
            simp [IntKind.wrap, IntKind.bits, IntKind.signed]
          have e6 : 8 * (s.size : Int) / 2 ^ (8 * j) % 256 = ((lenByte s.size j).toNat : Int) := by
            rw [← e5]; simp [IntKind.wrap, IntKind.bits, IntKind.signed]
          have hne := lenBytes_succ s.size k
          rw [show 7 - k = j by omega] at hne
          generalize lenByte s.size j = c at e5 e6 hne
          have hj0 : (0 : Int) ≤ (j : Int) := by omega
          go_wp2_with (at_builtin; refine wpList_append_byte (B := w.heap.size) (l := L ++ lenBytes s.size k) _ rfl _ _ rfl c rfl ?hr ?hb _ _ rfl ?hc ?b1 ?b2 ?_)
          case hr => exact hrow2.alloc _
          case hb => have := hb.size; simp; omega
          case hc => simp [cb]
          case b1 => rw [hll]; unfold maxLen; omega
          case b2 => rw [hll]; omega
          intro v' w2 hrow3 hb2
          have hb3 : Below w.heap.size w w2 := (hb.alloc hb.size _).trans hb2
          rw [← hne] at hrow3
          clear hb2 hrow2 hcv hb e1 e2 e3 e4 e5 e6
          go_wp2_with (fail)
          go_roundw
          case rel =>
            have e7 : Value.int IntKind.i64 ((j : Int) - 1) = Value.int IntKind.i64 (7 - ((k + 1 : Nat) : Int)) := by rw [show ((j : Int) - 1) = 7 - ((k + 1 : Nat) : Int) by omega]
            exact ⟨k + 1, by omega, e7, hrow3, hb3⟩
          case measure => simp [intOf]
        · obtain rfl : k = 8 := by omega
          rw [← hpo] at hcv
          clear hpo
          go_wp2_with (fail)
          go_ret
          exact ⟨rfl, hb⟩
end Go.Proofs.YtjnobggefofjcacDoor
