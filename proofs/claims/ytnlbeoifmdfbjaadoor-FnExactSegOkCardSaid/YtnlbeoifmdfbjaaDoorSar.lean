import Derived.Test.YtnlbeoifmdfbjaaDoorOal
import Derived.Test.YtnlbeoifmdfbjaaDoorSlw
import Derived.Deep.Slices
namespace Go.Proofs.YtnlbeoifmdfbjaaDoor
open Go.Joins Go.ChangeShapes Go.WideShapes Go.RowKit Go.Deep

instance : Inhabited Ov := ⟨Ov.zero⟩

theorem cells_get {W : World} {a : Addr} {n : Nat} {cs : List Value} (h : W.cells? 0 a n = some cs) : cs.length = n ∧ ∀ j, j < n → W.cell? (a.add j) = cs[j]? := by
  unfold World.cells? at h
  rw [if_pos (Nat.zero_le _)] at h
  have hl := mapM_some_length h
  rw [List.length_range] at hl
  refine ⟨hl, fun j hj => ?_⟩
  exact mapM_some_get h j j (by rw [List.getElem?_range hj])

def fits (o : Ov) : Prop := o.key.size ≤ maxLen ∧ o.mark.size ≤ maxLen ∧ o.ids.length ≤ maxLen

theorem cellsOpt : Tryd.prog.cellsOf 48 = 14 := by kernel_rfl

set_option maxRecDepth 100000 in
/-- A slice of options that came in. -/
theorem opts_open {H : Type} {enc : TypeId × Value → H} {W : World} {n : Nat} {v : Value} {y : DataW H × List MemPlace} (h : DataW.trod enc Tryd.prog W 0 (fun _ => true) true n 22 [v] = some y) : ∃ os : List Ov, RdO W v os ∧ os.length ≤ maxLen ∧ ∀ o ∈ os, fits o := by
  rcases open_slice Tryd.underlying22 h with ⟨hcs, -⟩ | ⟨a, len, cap, m, n', D, Pl, hcs, _, hl, hm, hmm, -, hel⟩
  · simp only [List.cons.injEq, and_true] at hcs
    subst hcs
    exact ⟨[], ⟨none, 0, rfl, fun h => by simp at h⟩, by simp, fun o ho => by cases ho⟩
  · simp only [List.cons.injEq, and_true] at hcs
    subst hcs
    simp only [if_true] at hmm
    rw [cellsOpt] at hel
    have hch : ∃ f : Nat → Ov, ∀ i, i < len → ∃ u, (∀ k, k < 14 → W.cell? ((a.add (i * 14)).add k) = ((f i).cells u).toList[k]?) ∧ Rd W u (f i).ids ∧ fits (f i) := by
      refine choose_lt (p := fun i o => ∃ u, (∀ k, k < 14 → W.cell? ((a.add (i * 14)).add k) = (o.cells u).toList[k]?) ∧ Rd W u o.ids ∧ fits o) (fun i hi => ?_)
      obtain ⟨cs', h1, h2⟩ := hel i (by omega)
      obtain ⟨o, u, rfl, hr, b1, b2, b3⟩ := opt_cells h2
      exact ⟨o, u, (cells_get h1).2, hr, b1, b2, b3⟩
    obtain ⟨f, hf⟩ := hch
    refine ⟨(List.range len).map f, ⟨some a, cap, by simp, fun h0 => ?_⟩, by simp; omega, fun o ho => ?_⟩
    · simp at h0
      obtain ⟨b, off, spot⟩ := a
      cases spot with
      | some sp =>
        obtain ⟨u, h1, -⟩ := hf 0 h0
        have h2 := h1 0 (by omega)
        rw [Array.getElem?_toList, ((f 0).ats u).1] at h2
        simp only [World.cell?] at h2
        unfold Addr.add at h2
        split at h2 <;> simp_all
      | none =>
        refine ⟨b, off, rfl, fun i hi => ?_⟩
        simp only [List.length_map, List.length_range] at hi
        obtain ⟨u, h1, h2, -⟩ := hf i hi
        simp only [List.getElem_map, List.getElem_range]
        refine ⟨u, fun j v hv => ?_, h2⟩
        have hj : j < 14 := by
          have := (List.getElem?_eq_some_iff.1 hv).1
          rw [Array.length_toList, Ov.cells_size] at this
          exact this
        have h3 := h1 j hj
        rw [Addr.add_mid, Addr.add_mid] at h3
        rw [h3, hv]
    · obtain ⟨i, hi, rfl⟩ := List.mem_map.1 ho
      obtain ⟨u, -, -, h3⟩ := hf i (List.mem_range.1 hi)
      exact h3

set_option maxRecDepth 100000 in
/-- A segment that came in can be read. -/
theorem open_seg {H : Type} {enc : TypeId × Value → H} {W : World} {base : Nat} {v : Value} {d : DataW H} {p : List MemPlace} (hval : Value.okWide Tryd.prog W .any base 24 v)
    (h : DataW.Trod enc Tryd.prog W 0 (fun _ => true) true 24 v d p) : ∃ (x : Sv) (u : Value), v = .agg (x.cells u) ∧ RdO W u x.opts ∧ x.data.size ≤ maxLen ∧ x.opts.length ≤ maxLen ∧ ∀ o ∈ x.opts, fits o := by
  obtain ⟨cs, rfl, hsz⟩ := okWide_struct Tryd.underlying24 hval
  obtain ⟨fuel, hf⟩ := h
  obtain ⟨v0, v1, v2, v3, v4, v5, v6, v7, v8, y0, y1, y2, y3, y4, y5, y6, y7, y8, n, hcs, h0, h1, h2, h3, h4, h5, h6, h7, h8⟩ := open_list9 Tryd.underlying24 (by kernel_rfl) (by kernel_rfl) hf
  obtain ⟨n0, e0, -, -⟩ := DataW.trod_int Tryd.underlying3 h0
  obtain ⟨n1, e1, -, -⟩ := DataW.trod_int Tryd.underlying3 h1
  obtain ⟨n2, e2, -, -⟩ := DataW.trod_int Tryd.underlying3 h2
  obtain ⟨n3, e3, -, -⟩ := DataW.trod_int Tryd.underlying3 h3
  obtain ⟨n4, e4, -, -⟩ := DataW.trod_int Tryd.underlying3 h4
  obtain ⟨n5, e5, -, -⟩ := DataW.trod_int Tryd.underlying3 h5
  obtain ⟨n6, e6, -, -⟩ := DataW.trod_int Tryd.underlying3 h6
  obtain ⟨n8, e8, -, m8⟩ := DataW.trod_string Tryd.underlying9 h8
  simp only [List.cons.injEq, and_true] at e0 e1 e2 e3 e4 e5 e6 e8
  subst e0 e1 e2 e3 e4 e5 e6 e8
  obtain ⟨os, hr, hl, hfit⟩ := opts_open h7
  refine ⟨⟨n0, n1, n2, n3, n4, n5, n6, os, n8⟩, v7, ?_, hr, m8, hl, hfit⟩
  unfold Sv.cells
  have h2 : cs.toList = [.int .i64 n0, .int .i64 n1, .int .i64 n2, .int .i64 n3, .int .i64 n4, .int .i64 n5, .int .i64 n6, v7, .string n8] := hcs
  congr 1
  apply Array.toList_inj.1
  rw [h2]

theorem fit_of (x : Sv) (hd : x.data.size ≤ maxLen) (hl : x.opts.length ≤ maxLen) (hf : ∀ o ∈ x.opts, fits o) : Fit x := by
  unfold maxLen at hd hl
  refine ⟨by omega, by omega, fun o ho => ?_⟩
  obtain ⟨h1, h2, h3⟩ := hf o ho
  unfold maxLen at h1 h2 h3
  omega
end Go.Proofs.YtnlbeoifmdfbjaaDoor
