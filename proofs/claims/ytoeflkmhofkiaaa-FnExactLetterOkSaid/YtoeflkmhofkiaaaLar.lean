import Derived.Test.YtoeflkmhofkiaaaTar
import Derived.Test.YtoeflkmhofkiaaaAar
import Derived.Test.YtoeflkmhofkiaaaLcv
namespace Go.Proofs.Ytoeflkmhofkiaaa
open Go.Joins Go.ChangeShapes Go.WideShapes Go.RowKit Go.Deep
set_option maxRecDepth 100000

theorem cellsLvL : Try.prog.cellsOf 61 = 19 := by kernel_rfl

theorem lv_cells {H : Type} {enc : TypeId × Value → H} {W : World} {fuel : Nat} {cs : List Value} {x : DataW H × List MemPlace}
    (h : DataW.trod enc Try.prog W 0 (fun _ => true) true fuel 61 cs = some x) : ∃ m : Lv, cs = lvK.cs m ∧ (m.text.size ≤ maxLen) := by
  obtain ⟨xs, n, _, hx, hl, hlen, hg⟩ := DataW.trod_struct Try.underlying61 h
  match cs, hl.trans cellsLvL with
  | [c0, c1, c2, c3, c4, c5, c6, c7, c8, c9, c10, c11, c12, c13, c14, c15, c16, c17, c18], _ =>
    match xs, hlen with
    | [y0, y1, y2, y3, y4, y5, y6, y7, y8, y9, y10, y11, y12, y13, y14], _ =>
      have g0 : DataW.trod enc Try.prog W 0 (fun _ => true) true n 3 [c0] = some y0 := by have := hg 0 _ rfl; simpa [ecellsInt] using this
      have g1 : DataW.trod enc Try.prog W 0 (fun _ => true) true n 3 [c1] = some y1 := by have := hg 1 _ rfl; simpa [ecellsInt] using this
      have g2 : DataW.trod enc Try.prog W 0 (fun _ => true) true n 3 [c2] = some y2 := by have := hg 2 _ rfl; simpa [ecellsInt] using this
      have g3 : DataW.trod enc Try.prog W 0 (fun _ => true) true n 3 [c3] = some y3 := by have := hg 3 _ rfl; simpa [ecellsInt] using this
      have g4 : DataW.trod enc Try.prog W 0 (fun _ => true) true n 3 [c4] = some y4 := by have := hg 4 _ rfl; simpa [ecellsInt] using this
      have g5 : DataW.trod enc Try.prog W 0 (fun _ => true) true n 3 [c5] = some y5 := by have := hg 5 _ rfl; simpa [ecellsInt] using this
      have g6 : DataW.trod enc Try.prog W 0 (fun _ => true) true n 3 [c6] = some y6 := by have := hg 6 _ rfl; simpa [ecellsInt] using this
      have g7 : DataW.trod enc Try.prog W 0 (fun _ => true) true n 3 [c7] = some y7 := by have := hg 7 _ rfl; simpa [ecellsInt] using this
      have g8 : DataW.trod enc Try.prog W 0 (fun _ => true) true n 3 [c8] = some y8 := by have := hg 8 _ rfl; simpa [ecellsInt] using this
      have g9 : DataW.trod enc Try.prog W 0 (fun _ => true) true n 59 [c9, c10, c11, c12, c13] = some y9 := by have := hg 9 _ rfl; simpa [cellsTvL] using this
      have g10 : DataW.trod enc Try.prog W 0 (fun _ => true) true n 3 [c14] = some y10 := by have := hg 10 _ rfl; simpa [ecellsInt] using this
      have g11 : DataW.trod enc Try.prog W 0 (fun _ => true) true n 3 [c15] = some y11 := by have := hg 11 _ rfl; simpa [ecellsInt] using this
      have g12 : DataW.trod enc Try.prog W 0 (fun _ => true) true n 4 [c16] = some y12 := by have := hg 12 _ rfl; simpa [ecellsBool] using this
      have g13 : DataW.trod enc Try.prog W 0 (fun _ => true) true n 3 [c17] = some y13 := by have := hg 13 _ rfl; simpa [ecellsInt] using this
      have g14 : DataW.trod enc Try.prog W 0 (fun _ => true) true n 9 [c18] = some y14 := by have := hg 14 _ rfl; simpa [ecellsStr] using this
      obtain ⟨n0, e0, -, -⟩ := DataW.trod_int Try.underlying3 g0
      obtain ⟨n1, e1, -, -⟩ := DataW.trod_int Try.underlying3 g1
      obtain ⟨n2, e2, -, -⟩ := DataW.trod_int Try.underlying3 g2
      obtain ⟨n3, e3, -, -⟩ := DataW.trod_int Try.underlying3 g3
      obtain ⟨n4, e4, -, -⟩ := DataW.trod_int Try.underlying3 g4
      obtain ⟨n5, e5, -, -⟩ := DataW.trod_int Try.underlying3 g5
      obtain ⟨n6, e6, -, -⟩ := DataW.trod_int Try.underlying3 g6
      obtain ⟨n7, e7, -, -⟩ := DataW.trod_int Try.underlying3 g7
      obtain ⟨n8, e8, -, -⟩ := DataW.trod_int Try.underlying3 g8
      obtain ⟨n9, e9, -⟩ := tv_cells g9
      simp only [tvK] at e9
      obtain ⟨n10, e10, -, -⟩ := DataW.trod_int Try.underlying3 g10
      obtain ⟨n11, e11, -, -⟩ := DataW.trod_int Try.underlying3 g11
      obtain ⟨n12, e12, -⟩ := DataW.trod_bool Try.underlying4 g12
      obtain ⟨n13, e13, -, -⟩ := DataW.trod_int Try.underlying3 g13
      obtain ⟨n14, e14, -, hb14⟩ := DataW.trod_string Try.underlying9 g14
      simp only [List.cons.injEq, and_true] at e0 e1 e2 e3 e4 e5 e6 e7 e8 e9 e10 e11 e12 e13 e14
      subst e0
      subst e1
      subst e2
      subst e3
      subst e4
      subst e5
      subst e6
      subst e7
      subst e8
      obtain ⟨rfl, rfl, rfl, rfl, rfl⟩ := e9
      subst e10
      subst e11
      subst e12
      subst e13
      subst e14
      exact ⟨⟨n0, n1, n2, n3, n4, n5, n6, n7, n8, n9, n10, n11, n12, n13, n14⟩, rfl, hb14⟩

theorem open_letter {H : Type} {enc : TypeId × Value → H} {W : World} {base : Nat} {v : Value} {d : DataW H} {p : List MemPlace} (hval : Value.okWide Try.prog W .any base 61 v)
    (h : DataW.Trod enc Try.prog W 0 (fun _ => true) true 61 v d p) : ∃ m : Lv, v = .agg #[.int .i64 m.kind, .int .i64 m.frm, .int .i64 m.to, .int .i64 m.port, .int .i64 m.key, .int .i64 m.token, .int .i64 m.nonce, .int .i64 m.give, .int .i64 m.sign, .int .i64 m.tag.kind, .int .i64 m.tag.one, .int .i64 m.tag.two, .int .i64 m.tag.a, .int .i64 m.tag.b, .int .i64 m.id, .int .i64 m.addr, .bool m.spare, .int .i64 m.pos, .string m.text] ∧ m.text.size ≤ maxLen := by
  obtain ⟨cs, rfl, hsz⟩ := okWide_struct Try.underlying61 hval
  obtain ⟨fuel, hf⟩ := h
  obtain ⟨m, hm, hbd⟩ := lv_cells hf
  refine ⟨m, ?_, hbd⟩
  simp only [Value.cells] at hm
  rw [Array.toList_inj.1 (show cs.toList = (#[.int .i64 m.kind, .int .i64 m.frm, .int .i64 m.to, .int .i64 m.port, .int .i64 m.key, .int .i64 m.token, .int .i64 m.nonce, .int .i64 m.give, .int .i64 m.sign, .int .i64 m.tag.kind, .int .i64 m.tag.one, .int .i64 m.tag.two, .int .i64 m.tag.a, .int .i64 m.tag.b, .int .i64 m.id, .int .i64 m.addr, .bool m.spare, .int .i64 m.pos, .string m.text] : Array Value).toList from hm)]
end Go.Proofs.Ytoeflkmhofkiaaa
