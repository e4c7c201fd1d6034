import Derived.Test.YtnfnggdngddpkaaDoorDec0
namespace Go.Proofs.YtnfnggdngddpkaaDoor
open Go.RowKit

theorem dec_nat (n : Nat) : Lib.itoa (n : Int) = Lib.decDigits n := by
  unfold Lib.itoa
  rw [if_neg (by omega)]
  simp

theorem dec_digits : ∀ (k u : Nat), 1 ≤ k → u < 10 ^ k → Lib.nDigits u ≤ k
  | 0, _, h, _ => by omega
  | k + 1, u, _, h => by
    by_cases h10 : u < 10
    · rw [Lib.nDigits_small h10]; omega
    · rw [Lib.nDigits_big h10]
      have hk : 1 ≤ k := by
        rcases Nat.eq_zero_or_pos k with rfl | h'
        · simp at h; omega
        · exact h'
      have := dec_digits k (u / 10) hk (by rw [Nat.pow_succ] at h; omega)
      omega

/-- A number of at most ten figures. -/
theorem dec_size (x : Nat) (h : x < 10000000000) : (⟨(Lib.itoa (x : Int)).toArray⟩ : ByteArray).size ≤ 10 := by
  show (Lib.itoa (x : Int)).toArray.size ≤ 10
  rw [dec_nat, List.size_toArray, Lib.decDigits_length]
  exact dec_digits 10 x (by omega) (by omega)
end Go.Proofs.YtnfnggdngddpkaaDoor
