import Derived.Test.YtjnobggefofjcaaMdf
namespace Go.Proofs.Ytjnobggefofjcaa
open Go.RowKit

theorem list_splice {α : Type} (cur ys xs : List α) (i n k : Nat) (hx : cur.take n = xs) (hn : n ≤ cur.length) (hi : i ≤ n) (hk : k = i + ys.length) :
    (cur.take i ++ ys ++ cur.drop k).take (max n k) = xs.take i ++ ys ++ xs.drop k := by
  subst hx hk
  apply List.ext_getElem?
  intro j
  simp only [List.getElem?_append, List.getElem?_take, List.getElem?_drop, List.length_append, List.length_take]
  have e1 : min i cur.length = i := by omega
  have e2 : min i (min n cur.length) = i := by omega
  rw [e1, e2]
  by_cases h1 : j < i
  · simp [h1, show j < max n (i + ys.length) by omega, show j < i + ys.length by omega, show j < n by omega]
  · by_cases h2 : j < i + ys.length
    · simp [h1, h2, show j < max n (i + ys.length) by omega]
    · by_cases h3 : j < n
      · simp [h2, show j < max n (i + ys.length) by omega, show i + ys.length + (j - (i + ys.length)) = j by omega, h3]
      · simp [h2, show ¬ j < max n (i + ys.length) by omega, show ¬ i + ys.length + (j - (i + ys.length)) < n by omega]

/-- Mappings stored into a row of one's own, from place i on, as far as its room goes. -/
theorem own_store {W : World} {B C g n cap : Nat} {ms : List Mp} (h : OwnM W B C (.slice (some ⟨g, 0, none⟩) n cap) ms) (i : Nat) (ys : List Mp) (hi : i ≤ ms.length) (hc : i + ys.length ≤ cap) :
    ∃ W', (storeCells ⟨g, i * 3, none⟩ (flat ys) 0).run Try.prog W = .ok () W' ∧ OwnM W' B C (.slice (some ⟨g, 0, none⟩) (max n (i + ys.length)) cap) (ms.take i ++ ys ++ ms.drop (i + ys.length)) ∧ W.grownBy W' (some g) ∧ W'.heap.size = W.heap.size := by
  obtain ⟨⟨h1, h2⟩, h3⟩ := h
  rcases h2 with ⟨h2, _⟩ | ⟨g', cap', cur, hv, hg, hh, r1, r2, r3, r4⟩
  · cases h2
  · injection hv with e1 e2 e3
    injection e1 with e1
    injection e1 with e1
    subst e1 e2 e3
    have hst := run_storeCells_at Try.prog g (i * 3) 26 (flat ys) 0 cur W hh (by rw [flat_length]; omega) (flat_oneCell ys)
    rw [Nat.add_zero, flat_length] at hst
    refine ⟨_, hst, ⟨⟨by rw [flat_length], .inr ⟨g, cap, _, ?_, hg, setRow_heap _ _ _ _ _ _ hh, ?_, r2, ?_, ?_⟩⟩, fun g' hg' => ?_⟩, ⟨rfl, rfl, rfl, by simp, fun k hk hne => setRow_other W g k _ (fun e => hne (by rw [e]))⟩, by simp⟩
    · simp only [List.length_append, List.length_take, List.length_drop]
      congr 1
      omega
    · simp only [List.length_append, List.length_take, List.length_drop]
      omega
    · simp only [List.size_toArray, List.length_append, List.length_take, List.length_drop, Array.length_toList, flat_length]
      omega
    · have e : (ms.take i ++ ys ++ ms.drop (i + ys.length)).length * 3 = max (ms.length * 3) (i * 3 + ys.length * 3) := by
        simp only [List.length_append, List.length_take, List.length_drop]; omega
      rw [e]
      have hl := list_splice cur.toList (flat ys) (flat ms) (i * 3) (ms.length * 3) (i * 3 + ys.length * 3) r4 (by have : cur.toList.length = cur.size := Array.length_toList; omega) (by omega) (by rw [flat_length])
      rw [hl, flat_append, flat_append, flat_take, ← flat_drop, Nat.add_mul]
    · simp [Value.ownBlock] at hg'
      subst hg'
      exact h3 g rfl

/-- A part of a row of one's own can be read. -/
theorem own_part {W : World} {B C g n cap c : Nat} {ms : List Mp} (h : OwnM W B C (.slice (some ⟨g, 0, none⟩) n cap) ms) (i m : Nat) (hm : i + m ≤ ms.length) : RdM W (.slice (some ⟨g, i * 3, none⟩) m c) ((ms.drop i).take m) := by
  have hl : ((ms.drop i).take m).length = m := by rw [List.length_take, List.length_drop]; omega
  refine ⟨_, c, by rw [hl], fun _ => ⟨g, i * 3, rfl, fun j v hv => ?_⟩⟩
  obtain ⟨⟨h1, h2⟩, h3⟩ := h
  rcases h2 with ⟨h2, _⟩ | ⟨g', cap', cur, hv', hg, hh, r1, r2, r3, r4⟩
  · cases h2
  · injection hv' with e1 e2 e3
    injection e1 with e1
    injection e1 with e1
    subst e1
    rw [← flat_take, ← flat_drop, List.getElem?_take] at hv
    split at hv
    · rw [List.getElem?_drop] at hv
      have := take_range hh r4 (i * 3 + j) v hv
      rwa [Nat.zero_add] at this
    · cases hv

theorem zeros_flat (n : Nat) : (Builtin.zeroCells (Value.agg #[.int .i64 0, .int .i64 0, .int .i64 0]).cells n).toList = flat (List.replicate n Mp.zero) := by
  have h := flat_zeros n
  have e : Builtin.zeroCells (Value.agg #[.int .i64 0, .int .i64 0, .int .i64 0]).cells n = madeCells (Value.agg #[.int .i64 0, .int .i64 0, .int .i64 0]).cells (n * 3) := rfl
  rw [e, ← h]

/-- What lies from place i on, cleared. -/
theorem run_clear_maps {W : World} {B C g n cap : Nat} {ms : List Mp} (h : OwnM W B C (.slice (some ⟨g, 0, none⟩) n cap) ms) (i c : Nat) (hi : i < ms.length) :
    ∃ W', (∀ ty, (Builtin.clear_ #[50] ty #[.slice (some ⟨g, i * 3, none⟩) (n - i) c]).run Try.prog W = .ok (.tuple #[]) W') ∧ OwnM W' B C (.slice (some ⟨g, 0, none⟩) i cap) (ms.take i) ∧ W.grownBy W' (some g) ∧ W'.heap.size = W.heap.size := by
  have hcap : ms.length ≤ cap ∧ n = ms.length := by
    rcases h.1.2 with ⟨h2, _⟩ | ⟨g', cap', cur, hv, hg, hh, r1, -⟩
    · cases h2
    · injection hv with e1 e2 e3
      omega
  obtain ⟨W', h1, h2, h3, h4⟩ := own_store h i (List.replicate (ms.length - i) Mp.zero) (by omega) (by rw [List.length_replicate]; omega)
  refine ⟨W', ?_, ?_, h3, h4⟩
  · intro ty
    rw [hcap.2]
    obtain ⟨m, hm⟩ : ∃ m, ms.length - i = m + 1 := ⟨ms.length - i - 1, by omega⟩
    rw [hm] at h1 ⊢
    simp [Builtin.clear_, run_underlying uL, zeros_flat, h1]
  · -- the first i alone
    obtain ⟨⟨k1, k2⟩, k3⟩ := h2
    rcases k2 with ⟨k2, _⟩ | ⟨g', cap', cur, hv, hg, hh, r1, r2, r3, r4⟩
    · cases k2
    · injection hv with e1 e2 e3
      injection e1 with e1
      injection e1 with e1
      subst e1 e3
      have hl : (ms.take i).length = i := by rw [List.length_take]; omega
      refine ⟨⟨by rw [flat_length], .inr ⟨g, cap, cur, by rw [hl], hg, hh, by rw [hl]; omega, r2, r3, ?_⟩⟩, fun g' hg' => ?_⟩
      · have h5 := congrArg (List.take (i * 3)) r4
        rw [List.take_take, flat_take] at h5
        rw [hl]
        have e5 : min (i * 3) ((ms.take i ++ List.replicate (ms.length - i) Mp.zero ++ ms.drop (i + (List.replicate (ms.length - i) Mp.zero).length)).length * 3) = i * 3 := by
          simp only [List.length_append, List.length_take, List.length_replicate, List.length_drop]; omega
        rw [e5] at h5
        rw [h5, List.append_assoc, List.take_append_of_le_length (by omega), List.take_of_length_le (by omega)]
      · simp [Value.ownBlock] at hg'
        subst hg'
        exact k3 g rfl
end Go.Proofs.Ytjnobggefofjcaa
