import Derived.Test.YtdajfnonehianaaRow1
import Derived.Lib.ItoaNum
import Derived.WalkSpells
import Derived.IntWalk
import Derived.Laws.BytesArg
namespace Go.Proofs.Ytdajfnonehianaa
open Go.RowKit

/-- The digits that are still to come, none of zero. -/
def dg (v : Nat) : List UInt8 := if v = 0 then [] else Lib.decDigits v

theorem dg_step (v : Nat) (h : 0 < v) : dg v = dg (v / 10) ++ [UInt8.ofNat (48 + v % 10)] := by
  unfold dg
  rw [if_neg (by omega), Lib.decDigits]
  split
  · rename_i h10
    rw [if_pos (by omega), Nat.mod_eq_of_lt h10]; rfl
  · rw [if_neg (by omega)]

/-- A block of one byte, made a string. -/
theorem conv_single {P : Program} {w : World} {src e dst : TypeId} {n : Int} (hs : P.underlying src = some (.slice e)) (he : P.underlying e = some (.int .u8)) (hd : P.underlying dst = some .string) (t : TypeId) :
    (convert src dst (.slice (some ⟨w.heap.size, 0, none⟩) 1 1)).run P (w.alloc (.cells #[.int .u8 n] t)) = .ok (.string (strOfNums [n])) (w.alloc (.cells #[.int .u8 n] t)) := by
  refine run_convert_bytes_arg _ src e hs he w.heap.size 0 1 1 [n] rfl (fun i hi => ?_) dst hd
  obtain rfl : i = 0 := by omega
  rw [World.cell?_alloc_at _ _ _ _ rfl]; rfl

theorem dg_len (u : Nat) (h : u < 18446744073709551616) : (Lib.decDigits u).length ≤ 20 := by
  rw [Lib.decDigits_length]
  by_cases h1 : 1 ≤ u
  · have := Lib.numDigits_eq u h1 h
    split at this <;> omega
  · rw [Lib.nDigits_small (by omega)]; omega

theorem dg_size {v u : Nat} {s : ByteArray} (h : dg v ++ s.data.toList = Lib.decDigits u) (h20 : (Lib.decDigits u).length ≤ 20) : s.size ≤ 20 := by
  have := congrArg List.length h
  simp only [List.length_append, Array.length_toList] at this
  have e : s.size = s.data.size := rfl
  omega

theorem dg_next {v u : Nat} {s : ByteArray} (h0 : ¬ v = 0) (h : dg v ++ s.data.toList = Lib.decDigits u) :
    dg (v / 10) ++ (strOfNums [48 + (v : Int) % 10] ++ s).data.toList = Lib.decDigits u := by
  rw [← h, dg_step v (by omega)]
  have e : (48 + (v : Int) % 10).toNat = 48 + v % 10 := by omega
  have e1 : strOfNums [48 + (v : Int) % 10] = ⟨#[UInt8.ofNat (48 + v % 10)]⟩ := by unfold strOfNums; simp only [List.map_cons, List.map_nil, e]
  rw [e1]
  simp [ByteArray.data_append]

/-- The text of a mark. -/
def mtext (k : Nat) : ByteArray := ⟨(109 :: Lib.decDigits k).toArray⟩

theorem mtext_of {v u : Nat} {s : ByteArray} (h0 : v = 0) (h : dg v ++ s.data.toList = Lib.decDigits u) : (⟨#[109]⟩ : ByteArray) ++ s = mtext u := by
  have e : s.data.toList = Lib.decDigits u := by rw [← h, dg, if_pos h0]; rfl
  apply ByteArray.ext
  apply Array.ext'
  rw [ByteArray.data_append, Array.toList_append, e]
  rfl

end Go.Proofs.Ytdajfnonehianaa
