import Derived.Test.YtdajfnonehianaaPtk
namespace Go.Proofs.Ytdajfnonehianaa
open Go.RowKit

structure Tk6 (w W : World) (g6 : Nat) (r : Int) (t : ByteArray) (r1 : Int) (t1 : ByteArray) (v u : Value) (ms : List Pc) : Prop extends Tk4 w W r t v where
  new : Cel W g6 26 #[.int .i64 r1, .string t1, u]
  ne : w.heap.size + 2 ≤ g6
  own : OwnP W (w.heap.size + 2) g6 u ms
section
variable {w W W' : World} {g6 : Nat} {r r1 : Int} {t t1 : ByteArray} {v u : Value} {ms : List Pc}
theorem Tk6.kept (h : Tk6 w W g6 r t r1 t1 v u ms) (hb : Below W.heap.size W W') : Tk6 w W' g6 r t r1 t1 v u ms := ⟨h.toTk4.kept hb, h.new.kept hb, h.ne, h.own.keep hb (Nat.le_of_lt h.new.lt)⟩
theorem Tk6.drew (h : Tk6 w W g6 r t r1 t1 v u ms) : Tk6 w W.drew g6 r t r1 t1 v u ms := ⟨h.toTk4.drew, h.new, h.ne, h.own⟩
theorem tk6_all (h : Tk6 w W g6 r t r1 t1 v u ms) : W.cell? ⟨w.heap.size, 1, none⟩ = some (.string t) ∧ W.cell? ⟨g6, 0, none⟩ = some (.int .i64 r1) ∧ W.cell? ⟨g6, 1, none⟩ = some (.string t1) ∧ W.cell? ⟨g6, 2, none⟩ = some (u) ∧ Tk6 w W g6 r t r1 t1 v u ms := by
  obtain ⟨a0, a1, a2⟩ := cel3' h.box
  obtain ⟨b0, b1, b2⟩ := cel3' h.new
  exact ⟨a1, b0, b1, b2, h⟩
theorem tk6_start (h : Tk4 w W r t v) {B : Nat} (hO : OwnP W B W.heap.size u ms) (hB : w.heap.size + 2 ≤ B) : Tk6 w (W.alloc (.cells #[.int .i64 r, .string t, u] 26)) W.heap.size r t r t v u ms :=
  have hb := below_new W (.cells #[.int .i64 r, .string t, u] 26)
  ⟨h.kept hb, Cel.new _ _ _, tk4_far h, (hO.keep hb (Nat.le_refl _)).mono hB (Nat.le_refl _)⟩
theorem Tk6.other (h : Tk6 w W g6 r t r1 t1 v u ms) (i : Nat) (x : Value) : Tk4 w (W.setCell ⟨g6, i, none⟩ x) r t v ∧ OwnP (W.setCell ⟨g6, i, none⟩ x) (w.heap.size + 2) g6 u ms := by
  obtain ⟨y0, y1, y2, hy⟩ := h.res
  have hne := h.ne
  refine ⟨⟨h.box.other _ _ (by simp; omega), ⟨_, _, _, hy.other _ _ (by simp; omega)⟩, h.below.setCell (p := ⟨g6, i, none⟩) (by simp; omega) _⟩, h.own.keepAt fun k hk => Below.heap_setCell _ _ _ _ ?_⟩
  have := (OwnE.block h.own k hk).2
  show k ≠ g6
  omega
theorem Tk6.put0 (h : Tk6 w W g6 r t r1 t1 v u ms) (r2 : Int) : Tk6 w (W.setCell ⟨g6, 0, none⟩ (.int .i64 r2)) g6 r t r2 t1 v u ms := ⟨(h.other 0 _).1, by have := h.new.set 0 (.int .i64 r2); simpa using this, h.ne, (h.other 0 _).2⟩
theorem Tk6.put1 (h : Tk6 w W g6 r t r1 t1 v u ms) (t2 : ByteArray) : Tk6 w (W.setCell ⟨g6, 1, none⟩ (.string t2)) g6 r t r1 t2 v u ms := ⟨(h.other 1 _).1, by have := h.new.set 1 (.string t2); simpa using this, h.ne, (h.other 1 _).2⟩
/-- The answer stored. -/
theorem Tk6.done (h : Tk6 w W g6 r t r1 t1 v u ms) : Tk6 w (((W.setCell ⟨w.heap.size + 1, 0, none⟩ (.int .i64 r1)).setCell ⟨w.heap.size + 1, 1, none⟩ (.string t1)).setCell ⟨w.heap.size + 1, 2, none⟩ u) g6 r t r1 t1 v u ms ∧ Cel (((W.setCell ⟨w.heap.size + 1, 0, none⟩ (.int .i64 r1)).setCell ⟨w.heap.size + 1, 1, none⟩ (.string t1)).setCell ⟨w.heap.size + 1, 2, none⟩ u) (w.heap.size + 1) 26 #[.int .i64 r1, .string t1, u] ∧ Below w.heap.size w (((W.setCell ⟨w.heap.size + 1, 0, none⟩ (.int .i64 r1)).setCell ⟨w.heap.size + 1, 1, none⟩ (.string t1)).setCell ⟨w.heap.size + 1, 2, none⟩ u) ∧ OwnP (((W.setCell ⟨w.heap.size + 1, 0, none⟩ (.int .i64 r1)).setCell ⟨w.heap.size + 1, 1, none⟩ (.string t1)).setCell ⟨w.heap.size + 1, 2, none⟩ u) w.heap.size (((W.setCell ⟨w.heap.size + 1, 0, none⟩ (.int .i64 r1)).setCell ⟨w.heap.size + 1, 1, none⟩ (.string t1)).setCell ⟨w.heap.size + 1, 2, none⟩ u).heap.size u ms := by
  obtain ⟨y0, y1, y2, hy⟩ := h.res
  have hne := h.ne
  obtain ⟨p1, p2, p3⟩ := ps_fin (r := r1) (t := t1) hy h.below (Nat.le_succ _) (h.own.mono (Nat.le_refl _) (Nat.le_of_lt h.new.lt)) (Nat.lt_succ_self _)
  refine ⟨⟨⟨((h.box.other _ _ (by simp)).other _ _ (by simp)).other _ _ (by simp), ⟨_, _, _, p1⟩, p2⟩, ((h.new.other _ _ (by simp; omega)).other _ _ (by simp; omega)).other _ _ (by simp; omega), h.ne, h.own.keepAt fun k hk => ?_⟩, p1, p2, p3.mono (by omega) (Nat.le_refl _)⟩
  have hn : k ≠ w.heap.size + 1 := by have := (OwnE.block h.own k hk).1; omega
  rw [Below.heap_setCell _ _ _ _ hn, Below.heap_setCell _ _ _ _ hn, Below.heap_setCell _ _ _ _ hn]
theorem Tk6.doneD (h : Tk6 w W g6 r t r1 t1 v u ms) : Tk6 w ((((W.setCell ⟨w.heap.size + 1, 0, none⟩ (.int .i64 r1)).setCell ⟨w.heap.size + 1, 1, none⟩ (.string t1)).setCell ⟨w.heap.size + 1, 2, none⟩ u)).drew g6 r t r1 t1 v u ms ∧ Cel ((((W.setCell ⟨w.heap.size + 1, 0, none⟩ (.int .i64 r1)).setCell ⟨w.heap.size + 1, 1, none⟩ (.string t1)).setCell ⟨w.heap.size + 1, 2, none⟩ u)).drew (w.heap.size + 1) 26 #[.int .i64 r1, .string t1, u] ∧ Below w.heap.size w ((((W.setCell ⟨w.heap.size + 1, 0, none⟩ (.int .i64 r1)).setCell ⟨w.heap.size + 1, 1, none⟩ (.string t1)).setCell ⟨w.heap.size + 1, 2, none⟩ u)).drew ∧ OwnP ((((W.setCell ⟨w.heap.size + 1, 0, none⟩ (.int .i64 r1)).setCell ⟨w.heap.size + 1, 1, none⟩ (.string t1)).setCell ⟨w.heap.size + 1, 2, none⟩ u)).drew w.heap.size ((((W.setCell ⟨w.heap.size + 1, 0, none⟩ (.int .i64 r1)).setCell ⟨w.heap.size + 1, 1, none⟩ (.string t1)).setCell ⟨w.heap.size + 1, 2, none⟩ u)).drew.heap.size u ms := ⟨h.done.1.drew, h.done.2.1, h.done.2.2.1.drew, h.done.2.2.2⟩
end

end Go.Proofs.Ytdajfnonehianaa
