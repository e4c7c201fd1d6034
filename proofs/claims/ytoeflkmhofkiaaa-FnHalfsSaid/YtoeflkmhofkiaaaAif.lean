import Derived.Test.YtoeflkmhofkiaaaAto
import Derived.Laws.StructEq
namespace Go.Proofs.Ytoeflkmhofkiaaa
open Go.RowKit
set_option maxRecDepth 100000

theorem impl_within (a b c : Int) (w : World) :
    Calls Try.prog 73 #[.int .i64 a, .int .i64 b, .int .i64 c] w fun e w' => e = .returned (.bool (decide (b ≤ a ∧ a ≤ c))) ∧ w = w' := by
  by_cases h1 : b ≤ a
  · by_cases h2 : a ≤ c
    · rw [decide_eq_true ⟨h1, h2⟩]
      go_enter Try.func73, Try.ntmps73
      go_wp2_with (fail)
      go_ret
      exact ⟨rfl, rfl⟩
    · rw [decide_eq_false (fun h => h2 h.2)]
      go_enter Try.func73, Try.ntmps73
      go_wp2_with (fail)
      go_ret
      exact ⟨rfl, rfl⟩
  · rw [decide_eq_false (fun h => h1 h.1)]
    go_enter Try.func73, Try.ntmps73
    go_wp2_with (fail)
    go_ret
    exact ⟨rfl, rfl⟩
theorem spec_in (a b c : Int) (w : World) :
    Calls Try.prog 58 #[.int .i64 a, .int .i64 b, .int .i64 c] w fun e w' => e = .returned (.bool (decide (b ≤ a ∧ a ≤ c))) ∧ w = w' := by
  by_cases h1 : b ≤ a
  · by_cases h2 : a ≤ c
    · rw [decide_eq_true ⟨h1, h2⟩]
      go_enter Try.func58, Try.ntmps58
      go_wp2_with (fail)
      go_ret
      exact ⟨rfl, rfl⟩
    · rw [decide_eq_false (fun h => h2 h.2)]
      go_enter Try.func58, Try.ntmps58
      go_wp2_with (fail)
      go_ret
      exact ⟨rfl, rfl⟩
  · rw [decide_eq_false (fun h => h1 h.1)]
    go_enter Try.func58, Try.ntmps58
    go_wp2_with (fail)
    go_ret
    exact ⟨rfl, rfl⟩

/-- The first place at which p holds. -/
def idxP (p : Av → Bool) (xs : List Av) : Int := if xs.findIdx p < xs.length then (xs.findIdx p : Int) else -1

theorem idx_at (xs : List Av) (id : Int) : idxP (fun m => decide (m.id = id)) xs = atInt xs id := by
  unfold idxP atInt
  induction xs with
  | nil => rfl
  | cons x r ih =>
    unfold atA
    rw [List.findIdx_cons]
    by_cases h : x.id = id
    · rw [decide_eq_true h, if_pos h]
      simp
    · rw [decide_eq_false h, if_neg h]
      simp only [cond_false, List.length_cons]
      cases hr : atA id r with
      | none =>
        rw [hr] at ih
        simp only [Option.map_none]
        by_cases hf : r.findIdx (fun m => decide (m.id = id)) < r.length
        · rw [if_pos hf] at ih; simp only at ih; omega
        · rw [if_neg (by omega)]
      | some i =>
        rw [hr] at ih
        simp only [Option.map_some]
        by_cases hf : r.findIdx (fun m => decide (m.id = id)) < r.length
        · rw [if_pos hf] at ih; rw [if_pos (by omega)]; simp only at ih; omega
        · rw [if_neg hf] at ih; simp only at ih; omega
theorem idx_has (xs : List Av) (a : Int) : decide (0 ≤ idxP (fun m => decide (m.addr = a)) xs) = decide (a ∈ xs.map (·.addr)) := by
  unfold idxP
  by_cases h : xs.findIdx (fun m => decide (m.addr = a)) < xs.length
  · rw [if_pos h, decide_eq_true (by omega)]
    symm
    refine decide_eq_true ?_
    rw [List.findIdx_lt_length] at h
    obtain ⟨x, hx, he⟩ := h
    exact List.mem_map.2 ⟨x, hx, by simpa using he⟩
  · rw [if_neg h, decide_eq_false (by omega)]
    symm
    refine decide_eq_false (fun hm => h ?_)
    obtain ⟨x, hx, he⟩ := List.mem_map.1 hm
    rw [List.findIdx_lt_length]
    exact ⟨x, hx, by simpa using he⟩

theorem below_int (w : World) (n : Int) : Below w.heap.size w (w.alloc (.cells #[.int .i64 n] 3)) ∧ (w.alloc (.cells #[.int .i64 n] 3)).cell? ⟨w.heap.size, 0, none⟩ = some (.int .i64 n) := ⟨below_new _ _, (Cel.new w 3 #[.int .i64 n]).cell 0⟩

end Go.Proofs.Ytoeflkmhofkiaaa
