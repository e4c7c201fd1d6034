import Derived.Test.YtgfkmnadbcbfkaaEk
import Derived.Test.YtgfkmnadbcbfkaaRcl
import Derived.Test.YtgfkmnadbcbfkaaAcv
namespace Go.Proofs.Ytgfkmnadbcbfkaa
open Go.RowKit

theorem cel3r {W : World} {g : Nat} {t : TypeId} {x y z : Value} (h : Cel W g t #[x, y, z]) : W.cell? ⟨g, 0, none⟩ = some x ∧ W.cell? ⟨g, 1, none⟩ = some y ∧ W.cell? ⟨g, 2, none⟩ = some z := ⟨h.cell 0, h.cell 1, h.cell 2⟩
/-- The first few of a row of one's own. -/
theorem OwnE.firsts {α : Type} {K : EK α} {W : World} {B C g n cap : Nat} {xs : List α} (h : OwnE K W B C (.slice (some ⟨g, 0, none⟩) n cap) xs) (m : Nat) (hm : m ≤ xs.length) :
    OwnE K W B C (.slice (some ⟨g, 0, none⟩) m cap) (xs.take m) := by
  obtain ⟨⟨h1, h2⟩, h3⟩ := h
  have hl : (xs.take m).length = m := by rw [List.length_take]; omega
  rcases h2 with ⟨h2, _⟩ | ⟨g', cap', cur, hv, hg, hh, r1, r2, r3, r4⟩
  · cases h2
  · injection hv with e1 e2 e3
    injection e1 with e1
    injection e1 with e1
    subst e1 e2 e3
    have hmul : m * K.n ≤ xs.length * K.n := Nat.mul_le_mul_right _ hm
    refine ⟨⟨by rw [eflat_length], .inr ⟨g, cap, cur, by rw [hl], hg, hh, by rw [hl]; omega, r2, r3, ?_⟩⟩, h3⟩
    rw [hl, ← eflat_take, ← r4, List.take_take, Nat.min_eq_left hmul]
end Go.Proofs.Ytgfkmnadbcbfkaa
