import Derived.Test.YtdajfnonehianaaPto
import Derived.Test.YtdajfnonehianaaMt
import Derived.Test.YtdajfnonehianaaQuiet
namespace Go.Proofs.Ytdajfnonehianaa
open Go.RowKit

/-- Marks from k on, two a piece. -/
def markP (k : Nat) : Nat → List Pc
  | 0 => []
  | n + 1 => ⟨(k : Int), mtext (k + 1)⟩ :: markP (k + 2) n
theorem markP_length (k n : Nat) : (markP k n).length = n := by
  induction n generalizing k with
  | zero => rfl
  | succ n ih => simp [markP, ih]
theorem markP_at (k n i : Nat) (h : i < n) : (markP k n)[i]'(by rw [markP_length]; exact h) = ⟨((k + i * 2 : Nat) : Int), mtext (k + i * 2 + 1)⟩ := by
  induction n generalizing k i with
  | zero => omega
  | succ n ih =>
    cases i with
    | zero => simp [markP]
    | succ i =>
      simp only [markP, List.getElem_cons_succ]
      rw [ih (k + 2) i (by omega)]
      have e : k + 2 + i * 2 = k + (i + 1) * 2 := by omega
      rw [e]
theorem markP_snoc (k n : Nat) : markP k (n + 1) = markP k n ++ [⟨((k + n * 2 : Nat) : Int), mtext (k + n * 2 + 1)⟩] := by
  induction n generalizing k with
  | zero => simp [markP]
  | succ n ih =>
    rw [markP, ih (k + 2), markP]
    simp only [List.cons_append]
    have e : k + 2 + n * 2 = k + (n + 1) * 2 := by omega
    rw [e]
/-- The first p replaced by marks. -/
def markedP (ms : List Pc) (k p : Nat) : List Pc := markP k p ++ ms.drop p
theorem markedP_zero (ms : List Pc) (k : Nat) : markedP ms k 0 = ms := by simp [markedP, markP]
theorem markedP_all (ms : List Pc) (k : Nat) : markedP ms k ms.length = markP k ms.length := by simp [markedP]
theorem markedP_length (ms : List Pc) (k p : Nat) (h : p ≤ ms.length) : (markedP ms k p).length = ms.length := by simp [markedP, markP_length]; omega
theorem markedP_succ (ms : List Pc) (k p : Nat) (h : p < ms.length) : markedP ms k (p + 1) = (markedP ms k p).set p ⟨((k + p * 2 : Nat) : Int), mtext (k + p * 2 + 1)⟩ := by
  unfold markedP
  rw [markP_snoc, List.set_append_right _ _ (by rw [markP_length]; omega), markP_length, Nat.sub_self]
  conv => rhs; rw [List.drop_eq_getElem_cons h]
  rw [List.set_cons_zero, List.append_assoc]
  rfl
attribute [irreducible] markP markedP

theorem mtext_small (k : Nat) (h : k ≤ 1099511627776) : (mtext k).size ≤ 21 := by
  have := dg_len k (by omega)
  show (109 :: Lib.decDigits k).toArray.size ≤ 21
  simp
  omega

theorem set_set_pc (l : List Pc) (j : Nat) (x : Int) (t : ByteArray) (h : j < l.length) : ((l.set j ⟨x, l[j].text⟩).set j ⟨((l.set j ⟨x, l[j].text⟩)[j]'(by simpa using h)).pos, t⟩) = l.set j ⟨x, t⟩ := by
  rw [List.getElem_set_self, List.set_set]

end Go.Proofs.Ytdajfnonehianaa
