import Derived.Test.YtoeflkmhofkiaaaInts0
namespace Go.Proofs.Ytoeflkmhofkiaaa
open Go.RowKit
set_option maxRecDepth 100000

/-- The integers k, k + 1, .., n of them. -/
def marks (k n : Nat) : List Int := (List.range n).map fun j => ((k + j : Nat) : Int)

theorem marks_length (k n : Nat) : (marks k n).length = n := by simp [marks]
theorem marks_get (k n j : Nat) (h : j < n) : (marks k n)[j]'(by rw [marks_length]; exact h) = ((k + j : Nat) : Int) := by simp [marks]

/-- zs with its first j places marked from k on. -/
def marked (zs : List Int) (k : Nat) : Nat → List Int
  | 0 => zs
  | j + 1 => (marked zs k j).set j ((k + j : Nat) : Int)

theorem marked_length (zs : List Int) (k j : Nat) : (marked zs k j).length = zs.length := by
  induction j with
  | zero => rfl
  | succ j ih => simp [marked, ih]

theorem marked_get (zs : List Int) (k j : Nat) (i : Nat) (hi : i < j) (h : i < (marked zs k j).length) : (marked zs k j)[i] = ((k + i : Nat) : Int) := by
  induction j with
  | zero => omega
  | succ j ih =>
    simp only [marked]
    rw [List.getElem_set]
    by_cases hij : j = i
    · subst hij; simp
    · rw [if_neg hij]
      exact ih (by omega) (by rw [marked_length] at h ⊢; exact h)

theorem marked_all (zs : List Int) (k : Nat) : marked zs k zs.length = marks k zs.length := by
  apply List.ext_getElem
  · rw [marked_length, marks_length]
  · intro i h1 h2
    rw [marked_get _ _ _ _ (by rw [marked_length] at h1; exact h1), marks_get _ _ _ (by rw [marks_length] at h2; exact h2)]

theorem marked_succ (zs : List Int) (k j : Nat) : marked zs k (j + 1) = (marked zs k j).set j ((k + j : Nat) : Int) := rfl
theorem marked_zero (zs : List Int) (k : Nat) : marked zs k 0 = zs := rfl
attribute [irreducible] marked marks

end Go.Proofs.Ytoeflkmhofkiaaa
