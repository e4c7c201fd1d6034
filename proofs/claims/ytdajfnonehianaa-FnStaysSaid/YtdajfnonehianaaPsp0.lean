import Derived.Test.YtdajfnonehianaaPtks
import Derived.Test.YtdajfnonehianaaPsj
import Derived.Test.YtdajfnonehianaaEk2
namespace Go.Proofs.Ytdajfnonehianaa
open Go.RowKit

/-- While the model puts a piece: the copy; the piece that is still to come; the new stream and its list. -/
structure Pp (w W : World) (g7 g8 g10 : Nat) (r : Int) (t t1 : ByteArray) (v u : Value) (ms : List Pc) (x : Pc) (ov : Value) (ol : List Pc) : Prop where
  h6 : Tk6 w W g7 r t r t v u ms
  x : Cel W g8 41 #[.int .i64 x.pos, .string x.text]
  out : Cel W g10 26 #[.int .i64 r, .string t1, ov]
  ol : OwnP W (g8 + 1) W.heap.size ov ol
  nb : ov.ownBlock ≠ some g10
  n8 : g7 < g8
  n10 : g8 < g10
section
variable {w W W' : World} {g7 g8 g10 : Nat} {r : Int} {t t1 : ByteArray} {v u ov : Value} {ms ol : List Pc} {x : Pc}
theorem Pp.kept (h : Pp w W g7 g8 g10 r t t1 v u ms x ov ol) (hb : Below W.heap.size W W') : Pp w W' g7 g8 g10 r t t1 v u ms x ov ol := ⟨h.h6.kept hb, h.x.kept hb, h.out.kept hb, h.ol.full hb, h.nb, h.n8, h.n10⟩
theorem Pp.drew (h : Pp w W g7 g8 g10 r t t1 v u ms x ov ol) : Pp w W.drew g7 g8 g10 r t t1 v u ms x ov ol := ⟨h.h6.drew, h.x, h.out, h.ol, h.nb, h.n8, h.n10⟩
theorem Tk6.far (h : Tk6 w W g7 r t r t v u ms) {g : Nat} (hg : g7 < g) (i : Nat) (y : Value) : Tk6 w (W.setCell ⟨g, i, none⟩ y) g7 r t r t v u ms := by
  obtain ⟨y0, y1, y2, hy⟩ := h.res
  have hne := h.ne
  refine ⟨⟨h.box.other _ _ (by simp; omega), ⟨_, _, _, hy.other _ _ (by simp; omega)⟩, h.below.setCell (p := ⟨g, i, none⟩) (by simp; omega) _⟩, h.new.other _ _ (by simp; omega), h.ne, h.own.keepAt fun k hk => Below.heap_setCell _ _ _ _ ?_⟩
  have := (OwnE.block h.own k hk).2
  show k ≠ g
  omega
/-- The list has grown, and is stored. -/
theorem Pp.appended (h : Pp w W g7 g8 g10 r t t1 v u ms x ov ol) {v' : Value} {ol2 : List Pc} (hown : OwnP W' (g8 + 1) W'.heap.size v' ol2) (hg : W.grownBy W' ov.ownBlock) (hc : v'.ownBlock = ov.ownBlock ∨ v'.ownBlock = some W.heap.size) : Pp w (W'.setCell ⟨g10, 2, none⟩ v') g7 g8 g10 r t t1 v u ms x v' ol2 := by
  have hlt := h.out.lt
  have hrow : ∀ k, ov.ownBlock = some k → g8 + 1 ≤ k := fun k hk => (OwnE.block h.ol k hk).1
  have h8 := h.n8
  have h10 := h.n10
  have hne := h.h6.ne
  have hob : ∀ k, k < g8 + 1 → some k ≠ ov.ownBlock := fun k hk e => by have := hrow k e.symm; omega
  have hk6 : Tk6 w W' g7 r t r t v u ms := by
    obtain ⟨y0, y1, y2, hy⟩ := h.h6.res
    exact ⟨⟨h.h6.box.grown hg (hob _ (by omega)), ⟨_, _, _, hy.grown hg (hob _ (by omega))⟩, h.h6.below.grown hg h.h6.below.size (fun g e => by have := hrow g e; omega)⟩, h.h6.new.grown hg (hob _ (by omega)), h.h6.ne, h.h6.own.grown hg (Nat.le_of_lt h.h6.new.lt) (fun k hk => hob k (by have := (OwnE.block h.h6.own k hk).2; omega))⟩
  have hnb : v'.ownBlock ≠ some g10 := fun e => by
    rcases hc with hc | hc
    · exact h.nb (by rw [← hc]; exact e)
    · rw [hc] at e
      injection e with e
      omega
  refine ⟨hk6.far (by omega) 2 v', (h.x.grown hg (hob _ (by omega))).other _ _ (by simp; omega), ?_, (hown.keepAt fun k hk => Below.heap_setCell _ _ _ _ (fun e => hnb (by rw [hk]; exact congrArg some e))).mono (Nat.le_refl _) (by simp), hnb, h8, h10⟩
  have := (h.out.grown hg (fun e => h.nb e.symm)).set 2 v'
  simpa using this
/-- The piece that is still to come, stored anew. -/
theorem Pp.setX (h : Pp w W g7 g8 g10 r t t1 v u ms x ov ol) (x2 : Pc) : Pp w ((W.setCell ⟨g8, 0, none⟩ (.int .i64 x2.pos)).setCell ⟨g8, 1, none⟩ (.string x2.text)) g7 g8 g10 r t t1 v u ms x2 ov ol := by
  have h8 := h.n8
  have h10 := h.n10
  refine ⟨(h.h6.far h8 0 _).far h8 1 _, ?_, (h.out.other _ _ (by simp; omega)).other _ _ (by simp; omega), ((h.ol.keepAt fun k hk => Below.heap_setCell _ _ _ _ ?_).keepAt fun k hk => Below.heap_setCell _ _ _ _ ?_).mono (Nat.le_refl _) (by simp), h.nb, h8, h10⟩
  · have := (h.x.set 0 (.int .i64 x2.pos)).set 1 (.string x2.text)
    simpa using this
  · have := (OwnE.block h.ol k hk).1
    show k ≠ g8
    omega
  · have := (OwnE.block h.ol k hk).1
    show k ≠ g8
    omega
theorem Pp.setT (h : Pp w W g7 g8 g10 r t t1 v u ms x ov ol) (t2 : ByteArray) : Pp w (W.setCell ⟨g10, 1, none⟩ (.string t2)) g7 g8 g10 r t t2 v u ms x ov ol := by
  have h8 := h.n8
  have h10 := h.n10
  refine ⟨h.h6.far (by omega) 1 _, h.x.other _ _ (by simp; omega), ?_, (h.ol.keepAt fun k hk => Below.heap_setCell _ _ _ _ (fun e => h.nb (by rw [hk]; exact congrArg some e))).mono (Nat.le_refl _) (by simp), h.nb, h8, h10⟩
  have := h.out.set 1 (.string t2)
  simpa using this
theorem Pp.start (h : Tk6 w W g7 r t r t v u ms) (hx : Cel W g8 41 #[.int .i64 x.pos, .string x.text]) (h8 : g7 < g8) :
    Pp w ((W.alloc (.cells #[] 41)).alloc (.cells #[.int .i64 r, .string t, .slice (some ⟨W.heap.size, 0, none⟩) 0 0] 26)) g7 g8 (W.heap.size + 1) r t t v u ms x (.slice (some ⟨W.heap.size, 0, none⟩) 0 0) [] := by
  have hb : Below W.heap.size W ((W.alloc (.cells #[] 41)).alloc (.cells #[.int .i64 r, .string t, .slice (some ⟨W.heap.size, 0, none⟩) 0 0] 26)) := ((Below.refl _ _).alloc (Nat.le_refl _) _).alloc (by simp) _
  have hxl := hx.lt
  refine ⟨h.kept hb, hx.kept hb, ?_, ?_, by simp [Value.ownBlock], h8, by omega⟩
  · have := Cel.new (W.alloc (.cells #[] 41)) 26 #[.int .i64 r, .string t, .slice (some ⟨W.heap.size, 0, none⟩) 0 0]
    rw [World.size_alloc] at this
    exact this
  · exact (eown_alloc (eown_empty pcK W) _).mono (by omega) (Nat.le_refl _)
/-- The new stream or the copy, stored as the answer. -/
theorem Pp.done {ov2 : Value} {ol2 : List Pc} (h : Pp w W g7 g8 g10 r t t1 v u ms x ov ol) (hl : LieE pcK W (g8 + 1) W.heap.size ov2 ol2) : Cel (((W.setCell ⟨w.heap.size + 1, 0, none⟩ (.int .i64 r)).setCell ⟨w.heap.size + 1, 1, none⟩ (.string t1)).setCell ⟨w.heap.size + 1, 2, none⟩ ov2) (w.heap.size + 1) 26 #[.int .i64 r, .string t1, ov2] ∧ Below w.heap.size w (((W.setCell ⟨w.heap.size + 1, 0, none⟩ (.int .i64 r)).setCell ⟨w.heap.size + 1, 1, none⟩ (.string t1)).setCell ⟨w.heap.size + 1, 2, none⟩ ov2) ∧ LieE pcK (((W.setCell ⟨w.heap.size + 1, 0, none⟩ (.int .i64 r)).setCell ⟨w.heap.size + 1, 1, none⟩ (.string t1)).setCell ⟨w.heap.size + 1, 2, none⟩ ov2) w.heap.size (((W.setCell ⟨w.heap.size + 1, 0, none⟩ (.int .i64 r)).setCell ⟨w.heap.size + 1, 1, none⟩ (.string t1)).setCell ⟨w.heap.size + 1, 2, none⟩ ov2).heap.size ov2 ol2 := by
  obtain ⟨y0, y1, y2, hy⟩ := h.h6.res
  have hne := h.h6.ne
  have h8 := h.n8
  refine ⟨?_, ((h.h6.below.setCell (p := ⟨w.heap.size + 1, 0, none⟩) (by simp) _).setCell (p := ⟨w.heap.size + 1, 1, none⟩) (by simp) _).setCell (p := ⟨w.heap.size + 1, 2, none⟩) (by simp) _, ?_⟩
  · have := ((hy.set 0 (.int .i64 r)).set 1 (.string t1)).set 2 ov2
    simpa using this
  · refine (hl.keepAt fun b hb _ => ?_).mono (by omega) (by simp)
    have hn : b ≠ w.heap.size + 1 := by omega
    rw [Below.heap_setCell _ _ _ _ hn, Below.heap_setCell _ _ _ _ hn, Below.heap_setCell _ _ _ _ hn]
theorem OwnE.lie1 {α : Type} {K : EK α} {W : World} {B C g n c : Nat} {xs : List α} (h : OwnE K W B C (.slice (some ⟨g, 0, none⟩) n c) xs) : LieE K W g (g + 1) (.slice (some ⟨g, 0, none⟩) n c) xs := by
  obtain ⟨⟨h1, h2⟩, h3⟩ := h
  rcases h2 with ⟨h2, _⟩ | ⟨g', cap, cur, he, hg, hh, r1, r2, r3, r4⟩
  · cases h2
  · injection he with e1 e2 e3
    injection e1 with e1
    injection e1 with e1
    subst e1 e2 e3
    exact ⟨_, _, rfl, r1, (fun h => by cases h), fun _ => ⟨g, 0, rfl, ⟨Nat.le_refl _, Nat.lt_succ_self _⟩, ⟨cur, hh, by omega⟩, etake_range hh r4⟩⟩
/-- The list stored by hand. -/
theorem Pp.setL {gl n tc : Nat} {sv : Value} {r2 : List Pc} (h : Pp w W g7 g8 g10 r t t1 v u ms x (.slice (some ⟨gl, 0, none⟩) n tc) ol) (hl : LieE pcK W gl (gl + 1) sv r2) :
    Tk6 w (W.setCell ⟨g10, 2, none⟩ sv) g7 r t r t v u ms ∧ Cel (W.setCell ⟨g10, 2, none⟩ sv) g10 26 #[.int .i64 r, .string t1, sv] ∧ LieE pcK (W.setCell ⟨g10, 2, none⟩ sv) (g8 + 1) (W.setCell ⟨g10, 2, none⟩ sv).heap.size sv r2 := by
  have h8 := h.n8
  have h10 := h.n10
  have hgl := OwnE.block h.ol gl rfl
  have hne : gl ≠ g10 := fun e => h.nb (by rw [e]; rfl)
  refine ⟨h.h6.far (by omega) 2 _, ?_, (hl.keepAt fun b hb1 hb2 => Below.heap_setCell _ _ _ _ ?_).mono (by omega) (by simp; omega)⟩
  · have := h.out.set 2 sv
    simpa using this
  · show b ≠ g10
    omega
/-- The new stream stored as the answer. -/
theorem tk6_fin {r1 : Int} {t1 : ByteArray} {B : Nat} {ov2 : Value} {ol2 : List Pc} (h : Tk6 w W g7 r t r t v u ms) (hl : LieE pcK W B W.heap.size ov2 ol2) (hB : w.heap.size + 2 ≤ B) : Cel (((W.setCell ⟨w.heap.size + 1, 0, none⟩ (.int .i64 r1)).setCell ⟨w.heap.size + 1, 1, none⟩ (.string t1)).setCell ⟨w.heap.size + 1, 2, none⟩ ov2) (w.heap.size + 1) 26 #[.int .i64 r1, .string t1, ov2] ∧ Below w.heap.size w (((W.setCell ⟨w.heap.size + 1, 0, none⟩ (.int .i64 r1)).setCell ⟨w.heap.size + 1, 1, none⟩ (.string t1)).setCell ⟨w.heap.size + 1, 2, none⟩ ov2) ∧ LieE pcK (((W.setCell ⟨w.heap.size + 1, 0, none⟩ (.int .i64 r1)).setCell ⟨w.heap.size + 1, 1, none⟩ (.string t1)).setCell ⟨w.heap.size + 1, 2, none⟩ ov2) w.heap.size (((W.setCell ⟨w.heap.size + 1, 0, none⟩ (.int .i64 r1)).setCell ⟨w.heap.size + 1, 1, none⟩ (.string t1)).setCell ⟨w.heap.size + 1, 2, none⟩ ov2).heap.size ov2 ol2 := by
  obtain ⟨y0, y1, y2, hy⟩ := h.res
  refine ⟨?_, ((h.below.setCell (p := ⟨w.heap.size + 1, 0, none⟩) (by simp) _).setCell (p := ⟨w.heap.size + 1, 1, none⟩) (by simp) _).setCell (p := ⟨w.heap.size + 1, 2, none⟩) (by simp) _, ?_⟩
  · have := ((hy.set 0 (.int .i64 r1)).set 1 (.string t1)).set 2 ov2
    simpa using this
  · refine (hl.keepAt fun b hb _ => ?_).mono (by omega) (by simp)
    have hn : b ≠ w.heap.size + 1 := by omega
    rw [Below.heap_setCell _ _ _ _ hn, Below.heap_setCell _ _ _ _ hn, Below.heap_setCell _ _ _ _ hn]
theorem pp_all {gl tc : Nat} {F fr : List Pc} {f : Pc} (h : Pp w W g7 g8 g10 r t t1 v u ms x (.slice (some ⟨gl, 0, none⟩) F.length tc) F) (hF : F = f :: fr) : W.cell? ⟨g10, 0, none⟩ = some (.int .i64 r) ∧ W.cell? ⟨g10, 1, none⟩ = some (.string t1) ∧ W.cell? ⟨g10, 2, none⟩ = some (.slice (some ⟨gl, 0, none⟩) F.length tc) ∧ W.cell? ⟨gl, 0, none⟩ = some (.int .i64 f.pos) ∧ W.cell? ⟨gl, 1, none⟩ = some (.string f.text) ∧ Pp w W g7 g8 g10 r t t1 v u ms x (.slice (some ⟨gl, 0, none⟩) F.length tc) F := by
  obtain ⟨o0, o1, o2⟩ := cel3' h.out
  have hlt : 0 < F.length := by rw [hF]; simp
  obtain ⟨c0, c1, -, -, -⟩ := pc_own h.ol 0 hlt
  have hf : F[0] = f := by subst hF; rfl
  rw [hf] at c0 c1
  exact ⟨o0, o1, o2, c0, c1, h⟩
end
end Go.Proofs.Ytdajfnonehianaa
