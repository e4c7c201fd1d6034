import Derived.Test.YtmokepopmfcdnaaEar
import Derived.Test.YtmokepopmfcdnaaAcv
namespace Go.Proofs.Ytmokepopmfcdnaa
open Go.Joins Go.ChangeShapes Go.WideShapes Go.RowKit Go.Deep

theorem cellsAvL : Try.prog.cellsOf 67 = 4 := by kernel_rfl
theorem ecellsBool : Try.prog.cellsOf 4 = 1 := by kernel_rfl

/-- The cells of one address that came in. -/
theorem av_cells {H : Type} {enc : TypeId × Value → H} {W : World} {fuel : Nat} {cs : List Value} {x : DataW H × List MemPlace}
    (h : DataW.trod enc Try.prog W 0 (fun _ => true) true fuel 67 cs = some x) : ∃ m : Av, cs = avK.cs m ∧ (Lit.int .i64 m.id).wf = true := by
  obtain ⟨xs, n, _, hx, hl, hlen, hg⟩ := DataW.trod_struct Try.underlying67 h
  match cs, hl.trans cellsAvL with
  | [c0, c1, c2, c3], _ =>
    match xs, hlen with
    | [y0, y1, y2, y3], _ =>
      have g0 : DataW.trod enc Try.prog W 0 (fun _ => true) true n 3 [c0] = some y0 := by have := hg 0 _ rfl; simpa [ecellsInt] using this
      have g1 : DataW.trod enc Try.prog W 0 (fun _ => true) true n 3 [c1] = some y1 := by have := hg 1 _ rfl; simpa [ecellsInt] using this
      have g2 : DataW.trod enc Try.prog W 0 (fun _ => true) true n 4 [c2] = some y2 := by have := hg 2 _ rfl; simpa [ecellsInt, ecellsBool] using this
      have g3 : DataW.trod enc Try.prog W 0 (fun _ => true) true n 4 [c3] = some y3 := by have := hg 3 _ rfl; simpa [ecellsInt, ecellsBool] using this
      obtain ⟨n0, e0, -, w0⟩ := DataW.trod_int Try.underlying3 g0
      obtain ⟨n1, e1, -, -⟩ := DataW.trod_int Try.underlying3 g1
      obtain ⟨n2, e2, -⟩ := DataW.trod_bool Try.underlying4 g2
      obtain ⟨n3, e3, -⟩ := DataW.trod_bool Try.underlying4 g3
      simp only [List.cons.injEq, and_true] at e0 e1 e2 e3
      subst e0 e1 e2 e3
      exact ⟨⟨n0, n1, n2, n3⟩, rfl, w0⟩

theorem open_addrs {H : Type} {enc : TypeId × Value → H} {W : World} {base : Nat} {v : Value} {d : DataW H} {p : List MemPlace} (hval : Value.okWide Try.prog W .any base 42 v)
    (h : DataW.Trod enc Try.prog W 0 (fun _ => true) true 42 v d p) : ∃ ms : List Av, RdV W v ms ∧ ms.length ≤ maxLen ∧ ∀ x ∈ ms, (Lit.int .i64 x.id).wf = true := by
  obtain ⟨a0, len, cap, rfl⟩ := okWide_slice Try.underlying42 hval
  obtain ⟨fuel, hf⟩ := h
  exact els_open avK (fun m => (Lit.int .i64 m.id).wf = true) 67 42 Try.underlying42 cellsAvL (fun _ _ _ h => av_cells h) hf

theorem open_addr {H : Type} {enc : TypeId × Value → H} {W : World} {base : Nat} {v : Value} {d : DataW H} {p : List MemPlace} (hval : Value.okWide Try.prog W .any base 67 v)
    (h : DataW.Trod enc Try.prog W 0 (fun _ => true) true 67 v d p) : ∃ m : Av, v = .agg #[.int .i64 m.id, .int .i64 m.addr, .bool m.spare, .bool m.told] ∧ (Lit.int .i64 m.id).wf = true := by
  obtain ⟨cs, rfl, hsz⟩ := okWide_struct Try.underlying67 hval
  obtain ⟨fuel, hf⟩ := h
  obtain ⟨m, hm, hw⟩ := av_cells hf
  refine ⟨m, ?_, hw⟩
  simp only [Value.cells] at hm
  rw [Array.toList_inj.1 (show cs.toList = (#[Value.int .i64 m.id, .int .i64 m.addr, .bool m.spare, .bool m.told] : Array Value).toList from hm)]
end Go.Proofs.Ytmokepopmfcdnaa
