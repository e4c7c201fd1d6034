import Derived.Test.YtkpajakangaekaaEar
import Derived.Test.YtkpajakangaekaaPcv
namespace Go.Proofs.Ytkpajakangaekaa
open Go.Joins Go.ChangeShapes Go.WideShapes Go.RowKit Go.Deep

instance : Inhabited Pc := ⟨Pc.zero⟩
theorem cellsPcL : Try.prog.cellsOf 74 = 2 := by kernel_rfl
theorem cellsPsL : Try.prog.cellsOf 41 = 3 := by kernel_rfl
theorem cellsLst : Try.prog.cellsOf 39 = 1 := by kernel_rfl

/-- The cells of one piece that came in. -/
theorem pc_cells {H : Type} {enc : TypeId × Value → H} {W : World} {fuel : Nat} {cs : List Value} {x : DataW H × List MemPlace}
    (h : DataW.trod enc Try.prog W 0 (fun _ => true) true fuel 74 cs = some x) : ∃ m : Pc, cs = pcK.cs m ∧ m.text.size ≤ maxLen := by
  obtain ⟨xs, n, _, hx, hl, hlen, hg⟩ := DataW.trod_struct Try.underlying74 h
  match cs, hl.trans cellsPcL with
  | [c0, c1], _ =>
    match xs, hlen with
    | [y0, y1], _ =>
      have g0 : DataW.trod enc Try.prog W 0 (fun _ => true) true n 3 [c0] = some y0 := by have := hg 0 _ rfl; simpa [ecellsInt] using this
      have g1 : DataW.trod enc Try.prog W 0 (fun _ => true) true n 9 [c1] = some y1 := by have := hg 1 _ rfl; simpa [ecellsStr] using this
      obtain ⟨n0, e0, -, -⟩ := DataW.trod_int Try.underlying3 g0
      obtain ⟨n1, e1, -, m1⟩ := DataW.trod_string Try.underlying9 g1
      simp only [List.cons.injEq, and_true] at e0 e1
      subst e0 e1
      exact ⟨⟨n0, n1⟩, rfl, m1⟩

/-- A stream that came in. -/
theorem open_pieces {H : Type} {enc : TypeId × Value → H} {W : World} {base : Nat} {v : Value} {d : DataW H} {p : List MemPlace} (hval : Value.okWide Try.prog W .any base 41 v)
    (h : DataW.Trod enc Try.prog W 0 (fun _ => true) true 41 v d p) : ∃ (r : Int) (t : ByteArray) (u : Value) (ms : List Pc), v = .agg #[.int .i64 r, .string t, u] ∧ RdP W u ms ∧ t.size ≤ maxLen ∧ ms.length ≤ maxLen ∧ ∀ x ∈ ms, x.text.size ≤ maxLen := by
  obtain ⟨cs, rfl, hsz⟩ := okWide_struct Try.underlying41 hval
  obtain ⟨fuel, hf⟩ := h
  obtain ⟨xs, n, _, hx, hl, hlen, hg⟩ := DataW.trod_struct Try.underlying41 hf
  obtain ⟨l⟩ := cs
  match l, hsz.trans cellsPsL with
  | [c0, c1, c2], _ =>
    match xs, hlen with
    | [y0, y1, y2], _ =>
      have g0 : DataW.trod enc Try.prog W 0 (fun _ => true) true n 3 [c0] = some y0 := by have := hg 0 _ rfl; simpa [ecellsInt, Value.cells] using this
      have g1 : DataW.trod enc Try.prog W 0 (fun _ => true) true n 9 [c1] = some y1 := by have := hg 1 _ rfl; simpa [ecellsInt, ecellsStr, Value.cells] using this
      have g2 : DataW.trod enc Try.prog W 0 (fun _ => true) true n 39 [c2] = some y2 := by have := hg 2 _ rfl; simpa [ecellsInt, ecellsStr, cellsLst, Value.cells] using this
      obtain ⟨n0, e0, -, -⟩ := DataW.trod_int Try.underlying3 g0
      obtain ⟨n1, e1, -, m1⟩ := DataW.trod_string Try.underlying9 g1
      simp only [List.cons.injEq, and_true] at e0 e1
      subst e0 e1
      obtain ⟨ms, h1, h2, h3⟩ := els_open pcK (fun m => m.text.size ≤ maxLen) 74 39 Try.underlying39 cellsPcL (fun _ _ _ h => pc_cells h) g2
      exact ⟨n0, n1, c2, ms, rfl, h1, m1, h2, h3⟩
end Go.Proofs.Ytkpajakangaekaa
