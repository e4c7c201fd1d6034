import Derived.Test.YtgfkmnadbcbfkaaTar
import Derived.Test.YtgfkmnadbcbfkaaTkn
namespace Go.Proofs.Ytgfkmnadbcbfkaa
open Go.Joins Go.ChangeShapes Go.WideShapes Go.RowKit Go.Deep

theorem cellsKnL : Try.prog.cellsOf 41 = 2 := by kernel_rfl
theorem cellsKsL : Try.prog.cellsOf 24 = 1 := by kernel_rfl
theorem cellsTsL : Try.prog.cellsOf 39 = 1 := by kernel_rfl
theorem key_cells {H : Type} {enc : TypeId × Value → H} {W : World} {fuel : Nat} {cs : List Value} {x : DataW H × List MemPlace}
    (h : DataW.trod enc Try.prog W 0 (fun _ => true) true fuel 3 cs = some x) : ∃ m : Int, cs = intK.cs m ∧ IntW m := by
  obtain ⟨n0, e0, -, w0⟩ := DataW.trod_int Try.underlying3 h
  exact ⟨n0, e0, w0⟩

/-- What the attacker knows, as it came in. -/
theorem open_known {H : Type} {enc : TypeId × Value → H} {W : World} {base : Nat} {v : Value} {d : DataW H} {p : List MemPlace} (hval : Value.okWide Try.prog W .any base 41 v)
    (h : DataW.Trod enc Try.prog W 0 (fun _ => true) true 41 v d p) : ∃ (ku tu : Value) (ks : List Int) (ts : List Tv), v = .agg #[ku, tu] ∧ KnR W ku tu ks ts ∧ ks.length ≤ maxLen ∧ ts.length ≤ maxLen ∧ KnW ks ts := by
  obtain ⟨cs, rfl, hsz⟩ := okWide_struct Try.underlying41 hval
  obtain ⟨fuel, hf⟩ := h
  obtain ⟨xs, n, _, hx, hl, hlen, hg⟩ := DataW.trod_struct Try.underlying41 hf
  obtain ⟨l⟩ := cs
  match l, hsz.trans cellsKnL with
  | [c0, c1], _ =>
    match xs, hlen with
    | [y0, y1], _ =>
      have g0 : DataW.trod enc Try.prog W 0 (fun _ => true) true n 24 [c0] = some y0 := by have := hg 0 _ rfl; simpa [cellsKsL, Value.cells] using this
      have g1 : DataW.trod enc Try.prog W 0 (fun _ => true) true n 39 [c1] = some y1 := by have := hg 1 _ rfl; simpa [cellsKsL, cellsTsL, Value.cells] using this
      obtain ⟨ks, h1, h2, h5⟩ := els_open intK IntW 3 24 Try.underlying24 ecellsInt (fun _ _ _ h => key_cells h) g0
      obtain ⟨ts, h3, h4, h6⟩ := els_open tvK TvW 42 39 Try.underlying39 cellsTvL (fun _ _ _ h => tv_cells h) g1
      refine ⟨c0, c1, ks, ts, rfl, ⟨h1, h3, fun a len cap e => ?_⟩, h2, h4, h5, h6⟩
      subst e
      rcases open_slice Try.underlying39 g1 with ⟨hcs, -⟩ | ⟨a', len', cap', m, n', D, Pl, hcs, -, hl', -⟩
      · simp only [List.cons.injEq, and_true] at hcs
        injection hcs with e1 e2 e3
        omega
      · simp only [List.cons.injEq, and_true] at hcs
        injection hcs with e1 e2 e3
        omega
end Go.Proofs.Ytgfkmnadbcbfkaa
