import Derived.Test.YtjnobggefofjcaaMpl
import Derived.Test.YtjnobggefofjcaaLaw
import Derived.Lib.SmallJoins
import Derived.Deep.Slices
namespace Go.Proofs.Ytjnobggefofjcaa
open Go.Joins Go.ChangeShapes Go.WideShapes Go.RowKit Go.Deep

instance : Inhabited Mp := ⟨Mp.zero⟩

theorem cells_got {W : World} {a : Addr} {n : Nat} {cs : List Value} (h : W.cells? 0 a n = some cs) : cs.length = n ∧ ∀ j, j < n → W.cell? (a.add j) = cs[j]? := by
  unfold World.cells? at h
  rw [if_pos (Nat.zero_le _)] at h
  have hl := mapM_some_length h
  rw [List.length_range] at hl
  refine ⟨hl, fun j hj => ?_⟩
  exact mapM_some_get h j j (by rw [List.getElem?_range hj])

theorem cellsInt : Try.prog.cellsOf 3 = 1 := by kernel_rfl
theorem cellsMap : Try.prog.cellsOf 41 = 3 := by kernel_rfl

/-- The cells of one mapping that came in. -/
theorem map_cells {H : Type} {enc : TypeId × Value → H} {W : World} {fuel : Nat} {cs : List Value} {x : DataW H × List MemPlace}
    (h : DataW.trod enc Try.prog W 0 (fun _ => true) true fuel 41 cs = some x) : ∃ m : Mp, cs = m.cells.toList := by
  obtain ⟨xs, n, _, hx, hl, hlen, hg⟩ := DataW.trod_struct Try.underlying41 h
  match cs, hl.trans cellsMap with
  | [c0, c1, c2], _ =>
    match xs, hlen with
    | [y0, y1, y2], _ =>
      have g0 : DataW.trod enc Try.prog W 0 (fun _ => true) true n 3 [c0] = some y0 := by have := hg 0 _ rfl; simpa [cellsInt] using this
      have g1 : DataW.trod enc Try.prog W 0 (fun _ => true) true n 3 [c1] = some y1 := by have := hg 1 _ rfl; simpa [cellsInt] using this
      have g2 : DataW.trod enc Try.prog W 0 (fun _ => true) true n 3 [c2] = some y2 := by have := hg 2 _ rfl; simpa [cellsInt] using this
      obtain ⟨n0, e0, -, -⟩ := DataW.trod_int Try.underlying3 g0
      obtain ⟨n1, e1, -, -⟩ := DataW.trod_int Try.underlying3 g1
      obtain ⟨n2, e2, -, -⟩ := DataW.trod_int Try.underlying3 g2
      simp only [List.cons.injEq, and_true] at e0 e1 e2
      subst e0 e1 e2
      exact ⟨⟨n0, n1, n2⟩, rfl⟩

/-- A slice of mappings that came in. -/
theorem maps_open {H : Type} {enc : TypeId × Value → H} {W : World} {n : Nat} {v : Value} {y : DataW H × List MemPlace} (h : DataW.trod enc Try.prog W 0 (fun _ => true) true n 37 [v] = some y) : ∃ ms : List Mp, RdM W v ms ∧ ms.length ≤ maxLen := by
  rcases open_slice Try.underlying37 h with ⟨hcs, -⟩ | ⟨a, len, cap, m, n', D, Pl, hcs, _, hl, hm, hmm, -, hel⟩
  · simp only [List.cons.injEq, and_true] at hcs
    subst hcs
    exact ⟨[], ⟨none, 0, rfl, fun h => by simp at h⟩, by simp⟩
  · simp only [List.cons.injEq, and_true] at hcs
    subst hcs
    simp only [if_true] at hmm
    rw [cellsMap] at hel
    have hch : ∃ f : Nat → Mp, ∀ i, i < len → ∀ k, k < 3 → W.cell? ((a.add (i * 3)).add k) = ((f i).cells).toList[k]? := by
      refine choose_lt (p := fun i (m : Mp) => ∀ k, k < 3 → W.cell? ((a.add (i * 3)).add k) = m.cells.toList[k]?) (fun i hi => ?_)
      obtain ⟨cs', h1, h2⟩ := hel i (by omega)
      obtain ⟨m, rfl⟩ := map_cells h2
      exact ⟨m, (cells_got h1).2⟩
    obtain ⟨f, hf⟩ := hch
    refine ⟨(List.range len).map f, ⟨some a, cap, by simp, fun h0 => ?_⟩, by simp; omega⟩
    simp at h0
    obtain ⟨b, off, spot⟩ := a
    cases spot with
    | some sp =>
      have h2 := hf 0 h0 0 (by omega)
      simp only [World.cell?, Mp.cells] at h2
      unfold Addr.add at h2
      split at h2 <;> simp_all
    | none =>
      refine ⟨b, off, rfl, fun j v hv => ?_⟩
      have hj : j < len * 3 := by
        have := (List.getElem?_eq_some_iff.1 hv).1
        rw [flat_length, List.length_map, List.length_range] at this
        exact this
      have hi : j / 3 < len := by omega
      have h3 := hf (j / 3) hi (j % 3) (Nat.mod_lt _ (by omega))
      rw [Addr.add_mid, Addr.add_mid, Nat.add_assoc, show j / 3 * 3 + j % 3 = j by omega] at h3
      rw [h3, ← hv]
      have hfl := flat_at ((List.range len).map f) (j / 3) (by simpa using hi)
      simp only [List.getElem_map, List.getElem_range] at hfl
      have h4 : j % 3 < 3 := Nat.mod_lt _ (by omega)
      have e : j = j / 3 * 3 + j % 3 := by omega
      generalize j / 3 = i at *
      generalize j % 3 = r at *
      subst e
      match r, h4 with
      | 0, _ => rw [Nat.add_zero, hfl.1]; rfl
      | 1, _ => rw [hfl.2.1]; rfl
      | 2, _ => rw [hfl.2.2]; rfl

theorem open_maps {H : Type} {enc : TypeId × Value → H} {W : World} {base : Nat} {v : Value} {d : DataW H} {p : List MemPlace} (hval : Value.okWide Try.prog W .any base 37 v)
    (h : DataW.Trod enc Try.prog W 0 (fun _ => true) true 37 v d p) : ∃ ms : List Mp, RdM W v ms ∧ ms.length ≤ maxLen := by
  obtain ⟨a0, len, cap, rfl⟩ := okWide_slice Try.underlying37 hval
  obtain ⟨fuel, hf⟩ := h
  exact maps_open hf

theorem open_map {H : Type} {enc : TypeId × Value → H} {W : World} {base : Nat} {v : Value} {d : DataW H} {p : List MemPlace} (hval : Value.okWide Try.prog W .any base 41 v)
    (h : DataW.Trod enc Try.prog W 0 (fun _ => true) true 41 v d p) : ∃ m : Mp, v = .agg m.cells := by
  obtain ⟨cs, rfl, hsz⟩ := okWide_struct Try.underlying41 hval
  obtain ⟨fuel, hf⟩ := h
  obtain ⟨m, hm⟩ := map_cells hf
  refine ⟨m, ?_⟩
  simp only [Value.cells] at hm
  rw [Array.toList_inj.1 hm]
end Go.Proofs.Ytjnobggefofjcaa
