import Derived.Test.YtoeflkmhofkiaaaEk
import Derived.Test.YtoeflkmhofkiaaaLaw
import Derived.Lib.SmallJoins
import Derived.Deep.Slices
namespace Go.Proofs.Ytoeflkmhofkiaaa
open Go.Joins Go.ChangeShapes Go.WideShapes Go.RowKit Go.Deep
set_option maxRecDepth 100000

theorem ecells_got {W : World} {a : Addr} {n : Nat} {cs : List Value} (h : W.cells? 0 a n = some cs) : cs.length = n ∧ ∀ j, j < n → W.cell? (a.add j) = cs[j]? := by
  unfold World.cells? at h
  rw [if_pos (Nat.zero_le _)] at h
  have hl := mapM_some_length h
  rw [List.length_range] at hl
  refine ⟨hl, fun j hj => ?_⟩
  exact mapM_some_get h j j (by rw [List.getElem?_range hj])

/-- A slice of elements that came in: each element's cells are of the kind, with a property of its own. -/
theorem els_open {α : Type} [Inhabited α] (K : EK α) (p : α → Prop) (tE tS : TypeId) (hS : Try.prog.underlying tS = some (.slice tE)) (hc : Try.prog.cellsOf tE = K.n)
    {H : Type} {enc : TypeId × Value → H} {W : World} (he : ∀ fuel cs x, DataW.trod enc Try.prog W 0 (fun _ => true) true fuel tE cs = some x → ∃ e : α, cs = K.cs e ∧ p e)
    {n : Nat} {v : Value} {y : DataW H × List MemPlace} (h : DataW.trod enc Try.prog W 0 (fun _ => true) true n tS [v] = some y) : ∃ xs : List α, RdE K W v xs ∧ xs.length ≤ maxLen ∧ ∀ x ∈ xs, p x := by
  rcases open_slice hS h with ⟨hcs, -⟩ | ⟨a, len, cap, m, n', D, Pl, hcs, _, hl, hm, hmm, -, hel⟩
  · simp only [List.cons.injEq, and_true] at hcs
    subst hcs
    exact ⟨[], RdE.nil _ _ _, by simp, fun x hx => by cases hx⟩
  · simp only [List.cons.injEq, and_true] at hcs
    subst hcs
    simp only [if_true] at hmm
    rw [hc] at hel
    have hp := K.pos
    have hch : ∃ f : Nat → α, ∀ i, i < len → (∀ k, k < K.n → W.cell? ((a.add (i * K.n)).add k) = (K.cs (f i))[k]?) ∧ p (f i) := by
      refine choose_lt (p := fun i (m : α) => (∀ k, k < K.n → W.cell? ((a.add (i * K.n)).add k) = (K.cs m)[k]?) ∧ p m) (fun i hi => ?_)
      obtain ⟨cs', h1, h2⟩ := hel i (by omega)
      obtain ⟨m, rfl, h3⟩ := he _ _ _ h2
      exact ⟨m, (ecells_got h1).2, h3⟩
    obtain ⟨f, hf⟩ := hch
    refine ⟨(List.range len).map f, ⟨some a, cap, by simp, fun h0 => ?_⟩, by simp; omega, fun x hx => ?_⟩
    · simp at h0
      obtain ⟨b, off, spot⟩ := a
      cases spot with
      | some sp =>
        have h2 := (hf 0 h0).1 0 hp
        have hlen : 0 < (K.cs (f 0)).length := by rw [K.len]; exact hp
        rw [List.getElem?_eq_getElem hlen] at h2
        simp only [World.cell?] at h2
        unfold Addr.add at h2
        split at h2 <;> simp_all
      | none =>
        refine ⟨b, off, rfl, fun j v hv => ?_⟩
        have hj : j < len * K.n := by
          have := (List.getElem?_eq_some_iff.1 hv).1
          rw [eflat_length, List.length_map, List.length_range] at this
          exact this
        have hi : j / K.n < len := Nat.div_lt_of_lt_mul (by rw [Nat.mul_comm]; exact hj)
        have hr : j % K.n < K.n := Nat.mod_lt _ hp
        have h3 := (hf (j / K.n) hi).1 (j % K.n) hr
        have e : j / K.n * K.n + j % K.n = j := by have := Nat.div_add_mod j K.n; rw [Nat.mul_comm] at this; exact this
        rw [Addr.add_mid, Addr.add_mid, Nat.add_assoc, e] at h3
        rw [h3, ← hv]
        have hfl := eflat_at K ((List.range len).map f) (j / K.n) (by simpa using hi) (j % K.n) hr
        rw [e] at hfl
        rw [hfl]
        simp only [List.getElem_map, List.getElem_range]
    · obtain ⟨i, hi, rfl⟩ := List.mem_map.1 hx
      exact (hf i (List.mem_range.1 hi)).2

theorem ecellsInt : Try.prog.cellsOf 3 = 1 := by kernel_rfl
theorem ecellsStr : Try.prog.cellsOf 9 = 1 := by kernel_rfl
end Go.Proofs.Ytoeflkmhofkiaaa
