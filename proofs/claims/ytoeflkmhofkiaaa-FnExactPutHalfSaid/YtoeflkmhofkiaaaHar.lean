import Derived.Test.YtoeflkmhofkiaaaRar
import Derived.Test.YtoeflkmhofkiaaaHcv
namespace Go.Proofs.Ytoeflkmhofkiaaa
open Go.Joins Go.ChangeShapes Go.WideShapes Go.RowKit Go.Deep
set_option maxRecDepth 100000

theorem cellsHvL : Try.prog.cellsOf 55 = 8 := by kernel_rfl

theorem hv_cells {H : Type} {enc : TypeId × Value → H} {W : World} {fuel : Nat} {cs : List Value} {x : DataW H × List MemPlace}
    (h : DataW.trod enc Try.prog W 0 (fun _ => true) true fuel 55 cs = some x) : ∃ m : Hv, cs = hvK.cs m ∧ (True) := by
  obtain ⟨xs, n, _, hx, hl, hlen, hg⟩ := DataW.trod_struct Try.underlying55 h
  match cs, hl.trans cellsHvL with
  | [c0, c1, c2, c3, c4, c5, c6, c7], _ =>
    match xs, hlen with
    | [y0, y1, y2, y3, y4, y5], _ =>
      have g0 : DataW.trod enc Try.prog W 0 (fun _ => true) true n 53 [c0, c1, c2] = some y0 := by have := hg 0 _ rfl; simpa [cellsRvL] using this
      have g1 : DataW.trod enc Try.prog W 0 (fun _ => true) true n 3 [c3] = some y1 := by have := hg 1 _ rfl; simpa [ecellsInt] using this
      have g2 : DataW.trod enc Try.prog W 0 (fun _ => true) true n 3 [c4] = some y2 := by have := hg 2 _ rfl; simpa [ecellsInt] using this
      have g3 : DataW.trod enc Try.prog W 0 (fun _ => true) true n 3 [c5] = some y3 := by have := hg 3 _ rfl; simpa [ecellsInt] using this
      have g4 : DataW.trod enc Try.prog W 0 (fun _ => true) true n 3 [c6] = some y4 := by have := hg 4 _ rfl; simpa [ecellsInt] using this
      have g5 : DataW.trod enc Try.prog W 0 (fun _ => true) true n 3 [c7] = some y5 := by have := hg 5 _ rfl; simpa [ecellsInt] using this
      obtain ⟨n0, e0, -⟩ := rv_cells g0
      simp only [rvK] at e0
      obtain ⟨n1, e1, -, -⟩ := DataW.trod_int Try.underlying3 g1
      obtain ⟨n2, e2, -, -⟩ := DataW.trod_int Try.underlying3 g2
      obtain ⟨n3, e3, -, -⟩ := DataW.trod_int Try.underlying3 g3
      obtain ⟨n4, e4, -, -⟩ := DataW.trod_int Try.underlying3 g4
      obtain ⟨n5, e5, -, -⟩ := DataW.trod_int Try.underlying3 g5
      simp only [List.cons.injEq, and_true] at e0 e1 e2 e3 e4 e5
      obtain ⟨rfl, rfl, rfl⟩ := e0
      subst e1
      subst e2
      subst e3
      subst e4
      subst e5
      exact ⟨⟨n0, n1, n2, n3, n4, n5⟩, rfl, trivial⟩

theorem open_halfs {H : Type} {enc : TypeId × Value → H} {W : World} {base : Nat} {v : Value} {d : DataW H} {p : List MemPlace} (hval : Value.okWide Try.prog W .any base 49 v)
    (h : DataW.Trod enc Try.prog W 0 (fun _ => true) true 49 v d p) : ∃ ms : List Hv, RdH W v ms ∧ ms.length ≤ maxLen := by
  obtain ⟨a0, len, cap, rfl⟩ := okWide_slice Try.underlying49 hval
  obtain ⟨fuel, hf⟩ := h
  obtain ⟨ms, h1, h2, -⟩ := els_open hvK (fun m => True) 55 49 Try.underlying49 cellsHvL (fun _ _ _ h => hv_cells h) hf
  exact ⟨ms, h1, h2⟩

theorem open_half {H : Type} {enc : TypeId × Value → H} {W : World} {base : Nat} {v : Value} {d : DataW H} {p : List MemPlace} (hval : Value.okWide Try.prog W .any base 55 v)
    (h : DataW.Trod enc Try.prog W 0 (fun _ => true) true 55 v d p) : ∃ m : Hv, v = .agg #[.int .i64 m.road.own, .int .i64 m.road.far, .int .i64 m.road.port, .int .i64 m.theirs, .int .i64 m.mine, .int .i64 m.give, .int .i64 m.take, .int .i64 m.till] := by
  obtain ⟨cs, rfl, hsz⟩ := okWide_struct Try.underlying55 hval
  obtain ⟨fuel, hf⟩ := h
  obtain ⟨m, hm, -⟩ := hv_cells hf
  refine ⟨m, ?_⟩
  simp only [Value.cells] at hm
  rw [Array.toList_inj.1 (show cs.toList = (#[.int .i64 m.road.own, .int .i64 m.road.far, .int .i64 m.road.port, .int .i64 m.theirs, .int .i64 m.mine, .int .i64 m.give, .int .i64 m.take, .int .i64 m.till] : Array Value).toList from hm)]
end Go.Proofs.Ytoeflkmhofkiaaa
