import Derived.Test.YtkpajakangaekabNumI
import Derived.Test.YtkpajakangaekabNatI
namespace Go.Proofs.Ytkpajakangaekab
open Go.RowKit

theorem numText_yes (n w : Nat) (h1 : 1 ≤ w) (h6 : w ≤ 6) (hn : n < 256 ^ w) : numText (n : Int) (w : Int) = ⟨(numBytes n w).toArray⟩ := by
  unfold numText
  rw [if_pos ⟨by omega, by omega, by omega, by rw [Int.toNat_natCast, show ((256 : Int) ^ w) = ((256 ^ w : Nat) : Int) by rw [Int.natCast_pow]; rfl]; omega⟩]
  simp

theorem numText_size (n w : Nat) (h1 : 1 ≤ w) (h6 : w ≤ 6) (hn : n < 256 ^ w) : (numText (n : Int) (w : Int)).size = w := by
  rw [numText_yes n w h1 h6 hn]
  show (numBytes n w).toArray.size = w
  rw [List.size_toArray, numBytes_length]

theorem num4_back (n : Nat) (hn : n < 4294967296) : numOf (numText (n : Int) 4).data.toList = n := by
  have h := numText_yes n 4 (by omega) (by omega) hn
  rw [show ((4 : Nat) : Int) = (4 : Int) from rfl] at h
  rw [h]
  show numOf (numBytes n 4).toArray.toList = n
  rw [List.toList_toArray]
  unfold numOf numBytes
  simp [List.range_succ]
  omega

theorem num1_back (n : Nat) (hn : n < 256) : numOf (numText (n : Int) 1).data.toList = n := by
  have h := numText_yes n 1 (by omega) (by omega) hn
  rw [show ((1 : Nat) : Int) = (1 : Int) from rfl] at h
  rw [h]
  show numOf (numBytes n 1).toArray.toList = n
  rw [List.toList_toArray]
  unfold numOf numBytes
  simp [List.range_succ]
  omega

/-- A part of what was put together. -/
theorem extract_mid (a b c : ByteArray) : (a ++ b ++ c).extract a.size (a.size + b.size) = b := by
  apply ByteArray.ext
  apply Array.toList_inj.1
  have ha : a.data.toList.length = a.size := by rw [Array.length_toList]; rfl
  have hb : b.data.toList.length = b.size := by rw [Array.length_toList]; rfl
  simp only [ByteArray.data_extract, Array.toList_extract, ByteArray.data_append, Array.toList_append, List.extract_eq_take_drop]
  rw [List.append_assoc, List.drop_append_of_le_length (by omega), List.drop_of_length_le (by omega), List.nil_append, List.take_append_of_le_length (by omega), List.take_of_length_le (by omega)]

theorem extract_end (a b : ByteArray) : (a ++ b).extract a.size (a.size + b.size) = b := by
  have h := extract_mid a b ⟨#[]⟩
  have e : a ++ b ++ (⟨#[]⟩ : ByteArray) = a ++ b := by
    apply ByteArray.ext
    simp [ByteArray.data_append]
  rwa [e] at h

theorem nat_mid (a b c : ByteArray) (m : Nat) (hm : b.size = m) : natAt (a ++ b ++ c) (a.size : Int) (m : Int) = numOf b.data.toList ∧ Part (a ++ b ++ c) (a.size : Int) (m : Int) := by
  refine ⟨?_, by unfold Part; simp only [ByteArray.size_append]; omega⟩
  unfold natAt
  rw [show ((a.size : Int)).toNat = a.size by omega, show ((a.size : Int) + (m : Int)).toNat = a.size + b.size by omega, extract_mid]

theorem nat_end (a b : ByteArray) (m : Nat) (hm : b.size = m) : natAt (a ++ b) (a.size : Int) (m : Int) = numOf b.data.toList ∧ Part (a ++ b) (a.size : Int) (m : Int) := by
  refine ⟨?_, by unfold Part; simp only [ByteArray.size_append]; omega⟩
  unfold natAt
  rw [show ((a.size : Int)).toNat = a.size by omega, show ((a.size : Int) + (m : Int)).toNat = a.size + b.size by omega, extract_end]
end Go.Proofs.Ytkpajakangaekab
