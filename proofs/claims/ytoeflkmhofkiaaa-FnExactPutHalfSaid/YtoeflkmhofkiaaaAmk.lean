import Derived.Test.YtoeflkmhofkiaaaAto
namespace Go.Proofs.Ytoeflkmhofkiaaa
open Go.RowKit
set_option maxRecDepth 100000

/-- Marks from k on, four an address. -/
def fl3 (x : Int) : Bool := Int.tmod x 3 == 0
def avM (k : Nat) : Av := ⟨(k : Int), ((k + 1 : Nat) : Int), fl3 ((k + 2 : Nat) : Int), fl3 ((k + 3 : Nat) : Int)⟩
def markV (k : Nat) : Nat → List Av
  | 0 => []
  | n + 1 => avM k :: markV (k + 4) n
theorem markV_length (k n : Nat) : (markV k n).length = n := by
  induction n generalizing k with
  | zero => rfl
  | succ n ih => simp [markV, ih]
theorem markV_at (k n i : Nat) (h : i < n) : (markV k n)[i]'(by rw [markV_length]; exact h) = avM (k + i * 4) := by
  induction n generalizing k i with
  | zero => omega
  | succ n ih =>
    cases i with
    | zero => simp [markV]
    | succ i =>
      simp only [markV, List.getElem_cons_succ]
      rw [ih (k + 4) i (by omega)]
      congr 1
      omega
theorem markV_snoc (k n : Nat) : markV k (n + 1) = markV k n ++ [avM (k + n * 4)] := by
  induction n generalizing k with
  | zero => simp [markV]
  | succ n ih =>
    rw [markV, ih (k + 4), markV]
    simp only [List.cons_append]
    have e : k + 4 + n * 4 = k + (n + 1) * 4 := by omega
    rw [e]
/-- The first p replaced by marks. -/
def markedV (ms : List Av) (k p : Nat) : List Av := markV k p ++ ms.drop p
theorem markedV_zero (ms : List Av) (k : Nat) : markedV ms k 0 = ms := by simp [markedV, markV]
theorem markedV_all (ms : List Av) (k : Nat) : markedV ms k ms.length = markV k ms.length := by simp [markedV]
theorem markedV_length (ms : List Av) (k p : Nat) (h : p ≤ ms.length) : (markedV ms k p).length = ms.length := by simp [markedV, markV_length]; omega
theorem markedV_succ (ms : List Av) (k p : Nat) (h : p < ms.length) : markedV ms k (p + 1) = (markedV ms k p).set p (avM (k + p * 4)) := by
  unfold markedV
  rw [markV_snoc, List.set_append_right _ _ (by rw [markV_length]; omega), markV_length, Nat.sub_self]
  conv => rhs; rw [List.drop_eq_getElem_cons h]
  rw [List.set_cons_zero, List.append_assoc]
  rfl
attribute [irreducible] markV markedV
theorem av_setC (W : World) (g o : Nat) (x y : Int) (b c : Bool) : W.setCells g o (Av.cells ⟨x, y, b, c⟩) = (((W.setCell ⟨g, o, none⟩ (.int .i64 x)).setCell ⟨g, o + 1, none⟩ (.int .i64 y)).setCell ⟨g, o + 2, none⟩ (.bool b)).setCell ⟨g, o + 3, none⟩ (.bool c) := rfl

end Go.Proofs.Ytoeflkmhofkiaaa
