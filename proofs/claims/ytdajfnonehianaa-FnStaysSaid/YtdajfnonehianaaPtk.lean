import Derived.Test.YtdajfnonehianaaPcp
import Derived.Test.YtdajfnonehianaaPcs9
import Derived.Test.YtdajfnonehianaaPva
import Derived.Lib.MinMax
import Derived.Laws.ResultCell
namespace Go.Proofs.Ytdajfnonehianaa
open Go.RowKit

theorem cut_from (t : ByteArray) (a : Int) (h0 : 0 ≤ a) (h1 : a ≤ (t.size : Int)) (W : World) :
    (Instr.slice 9 (.string t) (some (.int .i64 a)) none none).run Try.prog W = .ok (.string (t.extract a.toNat t.size)) W := by
  have h3 : ((t.size : Nat) : Int) ≤ (t.size : Int) := Int.le_refl _
  simp [Instr.slice, run_underlying Try.underlying9, Instr.sliceBounds, Instr.sliceBound, asIntOf, h0, h1]
theorem cut_to (t : ByteArray) (a : Int) (h0 : 0 ≤ a) (h1 : a ≤ (t.size : Int)) (W : World) :
    (Instr.slice 9 (.string t) none (some (.int .i64 a)) none).run Try.prog W = .ok (.string (t.extract 0 a.toNat)) W := by
  have h3 : ((t.size : Nat) : Int) ≤ (t.size : Int) := Int.le_refl _
  simp [Instr.slice, run_underlying Try.underlying9, Instr.sliceBounds, Instr.sliceBound, asIntOf, h0, h1]
theorem cut_size (t : ByteArray) (a b : Nat) : (t.extract a b).size ≤ t.size := by
  simp only [ByteArray.size_extract]; omega

/-- A stream in a block of its own, and a second result. -/
theorem ps_result2 {W : World} {g : Nat} {r : Int} {t : ByteArray} {v : Value} (h : Cel W g 26 #[.int .i64 r, .string t, v]) {fn : Func} {p u : Tmp} (hr : fn.results = #[.cell p 26, .tmp u]) (tmps : Array Value) (hp : tmps.getD p undef = .pointer (some ⟨g, 0, none⟩)) :
    (results fn tmps).run Try.prog W = .ok (.tuple #[.agg #[.int .i64 r, .string t, v], tmps.getD u undef]) W := by
  rw [results_cell_tmp hr, hp]
  simp [asAddr, run_loadVar_row W g 26 26 _ (0, 0) _ h Try.underlying26 rfl (show _ = some 3 by kernel_rfl), Result.andThen]

structure Tk4 (w W : World) (r : Int) (t : ByteArray) (v : Value) : Prop where
  box : Cel W w.heap.size 26 #[.int .i64 r, .string t, v]
  res : ∃ x0 x1 x2, Cel W (w.heap.size + 1) 26 #[x0, x1, x2]
  below : Below w.heap.size w W
structure Tk5 (w W : World) (g7 : Nat) (r : Int) (t : ByteArray) (r1 : Int) (t1 : ByteArray) (v : Value) : Prop extends Tk4 w W r t v where
  new : Cel W g7 26 #[.int .i64 r1, .string t1, v]
  ne : w.heap.size + 2 ≤ g7
theorem Tk4.kept {w W W' : World} {r : Int} {t : ByteArray} {v : Value} (h : Tk4 w W r t v) (hb : Below W.heap.size W W') : Tk4 w W' r t v := by
  obtain ⟨x0, x1, x2, hz⟩ := h.res
  exact ⟨h.box.kept hb, ⟨x0, x1, x2, hz.kept hb⟩, Below.then_ h.below hb⟩
theorem Tk5.kept {w W W' : World} {g7 : Nat} {r r1 : Int} {t t1 : ByteArray} {v : Value} (h : Tk5 w W g7 r t r1 t1 v) (hb : Below W.heap.size W W') : Tk5 w W' g7 r t r1 t1 v := ⟨h.toTk4.kept hb, h.new.kept hb, h.ne⟩
theorem Tk4.drew {w W : World} {r : Int} {t : ByteArray} {v : Value} (h : Tk4 w W r t v) : Tk4 w W.drew r t v := ⟨h.box, h.res, h.below.drew⟩
theorem Tk5.drew {w W : World} {g7 : Nat} {r r1 : Int} {t t1 : ByteArray} {v : Value} (h : Tk5 w W g7 r t r1 t1 v) : Tk5 w W.drew g7 r t r1 t1 v := ⟨h.toTk4.drew, h.new, h.ne⟩
theorem tk4_all {w W : World} {r : Int} {t : ByteArray} {v : Value} (h : Tk4 w W r t v) : W.cell? ⟨w.heap.size, 0, none⟩ = some (.int .i64 r) ∧ W.cell? ⟨w.heap.size, 1, none⟩ = some (.string t) ∧ W.cell? ⟨w.heap.size, 2, none⟩ = some v ∧ Tk4 w W r t v := by
  obtain ⟨a0, a1, a2⟩ := cel3' h.box
  exact ⟨a0, a1, a2, h⟩
theorem tk5_all {w W : World} {g7 : Nat} {r r1 : Int} {t t1 : ByteArray} {v : Value} (h : Tk5 w W g7 r t r1 t1 v) : W.cell? ⟨w.heap.size, 1, none⟩ = some (.string t) ∧ W.cell? ⟨g7, 0, none⟩ = some (.int .i64 r1) ∧ W.cell? ⟨g7, 1, none⟩ = some (.string t1) ∧ W.cell? ⟨g7, 2, none⟩ = some v ∧ Tk5 w W g7 r t r1 t1 v := by
  obtain ⟨a0, a1, a2⟩ := cel3' h.box
  obtain ⟨b0, b1, b2⟩ := cel3' h.new
  exact ⟨a1, b0, b1, b2, h⟩
theorem tk4_far {w W : World} {r : Int} {t : ByteArray} {v : Value} (h : Tk4 w W r t v) : w.heap.size + 2 ≤ W.heap.size := by
  obtain ⟨x0, x1, x2, hz⟩ := h.res
  have := hz.lt
  omega
theorem tk5_far {w W : World} {g7 : Nat} {r r1 : Int} {t t1 : ByteArray} {v : Value} (h : Tk5 w W g7 r t r1 t1 v) : w.heap.size + 1 < W.heap.size := by
  obtain ⟨x0, x1, x2, hz⟩ := h.res
  exact hz.lt
theorem tk4_new {w W : World} {g : Nat} {r r1 : Int} {t t1 : ByteArray} {v x0 x1 x2 : Value} (h : Tk4 w W r t v) (hz : Cel W g 26 #[x0, x1, x2]) (hg : w.heap.size + 2 ≤ g) :
    Tk4 w (((W.setCell ⟨g, 0, none⟩ (.int .i64 r1)).setCell ⟨g, 1, none⟩ (.string t1)).setCell ⟨g, 2, none⟩ v) r t v ∧ Cel (((W.setCell ⟨g, 0, none⟩ (.int .i64 r1)).setCell ⟨g, 1, none⟩ (.string t1)).setCell ⟨g, 2, none⟩ v) g 26 #[.int .i64 r1, .string t1, v] := by
  obtain ⟨y0, y1, y2, hy⟩ := h.res
  refine ⟨⟨((h.box.other _ _ (by simp; omega)).other _ _ (by simp; omega)).other _ _ (by simp; omega), ⟨_, _, _, ((hy.other _ _ (by simp; omega)).other _ _ (by simp; omega)).other _ _ (by simp; omega)⟩, ((h.below.setCell (p := ⟨g, 0, none⟩) (by simp; omega) _).setCell (p := ⟨g, 1, none⟩) (by simp; omega) _).setCell (p := ⟨g, 2, none⟩) (by simp; omega) _⟩, ?_⟩
  have := ((hz.set 0 (.int .i64 r1)).set 1 (.string t1)).set 2 v
  simpa using this
theorem tk5_fin {w W : World} {g7 : Nat} {r r1 r2 : Int} {t t1 t2 : ByteArray} {v u : Value} (h : Tk5 w W g7 r t r1 t1 v)
    (h1 : Cel (((W.setCell ⟨w.heap.size + 1, 0, none⟩ (.int .i64 r2)).setCell ⟨w.heap.size + 1, 1, none⟩ (.string t2)).setCell ⟨w.heap.size + 1, 2, none⟩ u) (w.heap.size + 1) 26 #[.int .i64 r2, .string t2, u]) (h2 : Below w.heap.size w (((W.setCell ⟨w.heap.size + 1, 0, none⟩ (.int .i64 r2)).setCell ⟨w.heap.size + 1, 1, none⟩ (.string t2)).setCell ⟨w.heap.size + 1, 2, none⟩ u)) :
    (((W.setCell ⟨w.heap.size + 1, 0, none⟩ (.int .i64 r2)).setCell ⟨w.heap.size + 1, 1, none⟩ (.string t2)).setCell ⟨w.heap.size + 1, 2, none⟩ u).cell? ⟨w.heap.size, 1, none⟩ = some (.string t) ∧ (((W.setCell ⟨w.heap.size + 1, 0, none⟩ (.int .i64 r2)).setCell ⟨w.heap.size + 1, 1, none⟩ (.string t2)).setCell ⟨w.heap.size + 1, 2, none⟩ u).cell? ⟨g7, 0, none⟩ = some (.int .i64 r1) ∧ (((W.setCell ⟨w.heap.size + 1, 0, none⟩ (.int .i64 r2)).setCell ⟨w.heap.size + 1, 1, none⟩ (.string t2)).setCell ⟨w.heap.size + 1, 2, none⟩ u).cell? ⟨g7, 1, none⟩ = some (.string t1) ∧ (((W.setCell ⟨w.heap.size + 1, 0, none⟩ (.int .i64 r2)).setCell ⟨w.heap.size + 1, 1, none⟩ (.string t2)).setCell ⟨w.heap.size + 1, 2, none⟩ u).cell? ⟨g7, 2, none⟩ = some v ∧ Tk5 w (((W.setCell ⟨w.heap.size + 1, 0, none⟩ (.int .i64 r2)).setCell ⟨w.heap.size + 1, 1, none⟩ (.string t2)).setCell ⟨w.heap.size + 1, 2, none⟩ u) g7 r t r1 t1 v :=
  have hne := h.ne
  tk5_all ⟨⟨((h.box.other _ _ (by simp)).other _ _ (by simp)).other _ _ (by simp), ⟨_, _, _, h1⟩, h2⟩, ((h.new.other _ _ (by simp; omega)).other _ _ (by simp; omega)).other _ _ (by simp; omega), h.ne⟩

theorem tk_start (w : World) (r : Int) (t : ByteArray) (v : Value) : Tk4 w ((w.alloc (.cells #[.int .i64 r, .string t, v] 26)).alloc (.cells #[.int .i64 0, .string ⟨#[]⟩, .slice none 0 0] 26)) r t v := by
  refine ⟨(Cel.new w _ _).alloc _, ⟨.int .i64 0, .string ⟨#[]⟩, .slice none 0 0, ?_⟩, ((Below.refl _ _).alloc (Nat.le_refl _) _).alloc (by simp) _⟩
  have := Cel.new (w.alloc (.cells #[.int .i64 r, .string t, v] 26)) 26 #[.int .i64 0, .string ⟨#[]⟩, .slice none 0 0]
  rw [World.size_alloc] at this
  exact this

end Go.Proofs.Ytdajfnonehianaa
