import Derived.Test.YtdajfnonehianaaEar
import Derived.Test.YtdajfnonehianaaQo
namespace Go.Proofs.Ytdajfnonehianaa
open Go.Joins Go.ChangeShapes Go.WideShapes Go.RowKit Go.Deep

theorem cellsOutL : Try.prog.cellsOf 45 = 4 := by kernel_rfl

/-- A buffer that came in. -/
theorem open_out {H : Type} {enc : TypeId × Value → H} {W : World} {base : Nat} {v : Value} {d : DataW H} {p : List MemPlace} (hval : Value.okWide Try.prog W .any base 45 v)
    (h : DataW.Trod enc Try.prog W 0 (fun _ => true) true 45 v d p) : ∃ o : Ot, v = .agg #[.string o.text, .int .i64 o.base, .int .i64 o.sent, .int .i64 o.room] ∧ o.text.size ≤ maxLen ∧ IntKind.i64.wrap o.sent = o.sent := by
  obtain ⟨cs, rfl, hsz⟩ := okWide_struct Try.underlying45 hval
  obtain ⟨fuel, hf⟩ := h
  obtain ⟨xs, n, _, hx, hl, hlen, hg⟩ := DataW.trod_struct Try.underlying45 hf
  obtain ⟨l⟩ := cs
  match l, hsz.trans cellsOutL with
  | [c0, c1, c2, c3], _ =>
    match xs, hlen with
    | [y0, y1, y2, y3], _ =>
      have g0 : DataW.trod enc Try.prog W 0 (fun _ => true) true n 9 [c0] = some y0 := by have := hg 0 _ rfl; simpa [ecellsInt, ecellsStr, Value.cells] using this
      have g1 : DataW.trod enc Try.prog W 0 (fun _ => true) true n 3 [c1] = some y1 := by have := hg 1 _ rfl; simpa [ecellsInt, ecellsStr, Value.cells] using this
      have g2 : DataW.trod enc Try.prog W 0 (fun _ => true) true n 3 [c2] = some y2 := by have := hg 2 _ rfl; simpa [ecellsInt, ecellsStr, Value.cells] using this
      have g3 : DataW.trod enc Try.prog W 0 (fun _ => true) true n 3 [c3] = some y3 := by have := hg 3 _ rfl; simpa [ecellsInt, ecellsStr, Value.cells] using this
      obtain ⟨n0, e0, -, m0⟩ := DataW.trod_string Try.underlying9 g0
      obtain ⟨n1, e1, -, -⟩ := DataW.trod_int Try.underlying3 g1
      obtain ⟨n2, e2, -, m2⟩ := DataW.trod_int Try.underlying3 g2
      obtain ⟨n3, e3, -, -⟩ := DataW.trod_int Try.underlying3 g3
      simp only [List.cons.injEq, and_true] at e0 e1 e2 e3
      subst e0 e1 e2 e3
      have hb := bounds_i64 m2
      exact ⟨⟨n0, n1, n2, n3⟩, rfl, m0, IntWalk.i64_in _ (by simp only; omega)⟩
end Go.Proofs.Ytdajfnonehianaa
