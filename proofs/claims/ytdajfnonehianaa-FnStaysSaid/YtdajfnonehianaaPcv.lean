import Derived.Test.YtdajfnonehianaaEk
import Derived.Test.YtdajfnonehianaaPcl
namespace Go.Proofs.Ytdajfnonehianaa
open Go.RowKit

def Pc.cells (p : Pc) : List Value := [.int .i64 p.pos, .string p.text]
/-- Pieces as elements of a row. -/
def pcK : EK Pc where
  t := 41
  n := 2
  cs := Pc.cells
  len := fun _ => rfl
  pos := by decide
  one := fun p u hu => by
    simp only [Pc.cells, List.mem_cons, List.not_mem_nil, or_false] at hu
    rcases hu with rfl | rfl <;> rfl
  zero := Pc.zero
  zv := .agg #[.int .i64 0, .string ⟨#[]⟩]
  zcs := rfl
  bytes := 24
  bnd := by decide
  wid := by decide
  info := by kernel_rfl

abbrev RdP := RdE pcK
abbrev OwnP := OwnE pcK

theorem sizePc (p : Pc) : (Try.prog.info? 41).map (·.size) = some (#[Value.int .i64 p.pos, .string p.text]).size := by show _ = some 2; kernel_rfl
/-- The cells of the i-th piece, and the whole of it. -/
theorem pc_at {W : World} {P : Program} {a : Option Addr} {n c : Nat} {xs : List Pc} (h : RdP W (.slice a n c) xs) (i : Nat) (hi : i < xs.length) :
    ∃ b off, a = some ⟨b, off, none⟩ ∧ b < W.heap.size ∧ W.cell? ⟨b, off + i * 2, none⟩ = some (.int .i64 xs[i].pos) ∧ W.cell? ⟨b, off + i * 2 + 1, none⟩ = some (.string xs[i].text) ∧
      (loadCells ⟨b, off + i * 2, none⟩ 2).run P W = .ok #[.int .i64 xs[i].pos, .string xs[i].text] W := by
  obtain ⟨b, off, h1, h2, h3, h4⟩ := RdE.at (P := P) h i hi
  exact ⟨b, off, h1, h2, h3 0 (by decide), h3 1 (by decide), h4⟩

theorem pc_own {W : World} {B C : Nat} {g n cap : Nat} {xs : List Pc} (h : OwnP W B C (.slice (some ⟨g, 0, none⟩) n cap) xs) (i : Nat) (hi : i < xs.length) :
    W.cell? ⟨g, i * 2, none⟩ = some (.int .i64 xs[i].pos) ∧ W.cell? ⟨g, i * 2 + 1, none⟩ = some (.string xs[i].text) ∧ (∀ j, W.frozen? ⟨g, j, none⟩ = false) ∧ g < W.heap.size ∧ W.there g (i * 2) 2 := by
  obtain ⟨h1, h2, h3, h4⟩ := OwnE.at h i hi
  exact ⟨h1 0 (by decide), h1 1 (by decide), h2, h3, h4⟩

theorem pc_put {W : World} {B C : Nat} {g n cap : Nat} {xs : List Pc} (h : OwnP W B C (.slice (some ⟨g, 0, none⟩) n cap) xs) (i : Nat) (hi : i < xs.length) (x : Pc) :
    OwnP ((W.setCell ⟨g, i * 2, none⟩ (.int .i64 x.pos)).setCell ⟨g, i * 2 + 1, none⟩ (.string x.text)) B C (.slice (some ⟨g, 0, none⟩) n cap) (xs.set i x) := OwnE.put h i hi x
theorem pc_putC {W : World} {B C : Nat} {g n cap : Nat} {xs : List Pc} (h : OwnP W B C (.slice (some ⟨g, 0, none⟩) n cap) xs) (i : Nat) (hi : i < xs.length) (x : Pc) :
    OwnP (W.setCells g (i * 2) [.int .i64 x.pos, .string x.text]) B C (.slice (some ⟨g, 0, none⟩) n cap) (xs.set i x) := OwnE.put h i hi x
theorem pc_put0 {W : World} {B C : Nat} {g n cap : Nat} {xs : List Pc} (h : OwnP W B C (.slice (some ⟨g, 0, none⟩) n cap) xs) (i : Nat) (hi : i < xs.length) (z : Int) :
    OwnP (W.setCell ⟨g, i * 2, none⟩ (.int .i64 z)) B C (.slice (some ⟨g, 0, none⟩) n cap) (xs.set i ⟨z, xs[i].text⟩) := OwnE.put1 h i hi 0 (by decide) ⟨z, xs[i].text⟩ (.int .i64 z) rfl
theorem pc_put1 {W : World} {B C : Nat} {g n cap : Nat} {xs : List Pc} (h : OwnP W B C (.slice (some ⟨g, 0, none⟩) n cap) xs) (i : Nat) (hi : i < xs.length) (t : ByteArray) :
    OwnP (W.setCell ⟨g, i * 2 + 1, none⟩ (.string t)) B C (.slice (some ⟨g, 0, none⟩) n cap) (xs.set i ⟨xs[i].pos, t⟩) := OwnE.put1 h i hi 1 (by decide) ⟨xs[i].pos, t⟩ (.string t) rfl
theorem pc_setC (W : World) (g o : Nat) (x : Pc) : W.setCells g o x.cells = (W.setCell ⟨g, o, none⟩ (.int .i64 x.pos)).setCell ⟨g, o + 1, none⟩ (.string x.text) := rfl

theorem cel2 {W : World} {g : Nat} {t : TypeId} {x y : Value} (h : Cel W g t #[x, y]) : W.cell? ⟨g, 0, none⟩ = some x ∧ W.cell? ⟨g, 1, none⟩ = some y := ⟨h.cell 0, h.cell 1⟩
theorem cel3' {W : World} {g : Nat} {t : TypeId} {x y z : Value} (h : Cel W g t #[x, y, z]) : W.cell? ⟨g, 0, none⟩ = some x ∧ W.cell? ⟨g, 1, none⟩ = some y ∧ W.cell? ⟨g, 2, none⟩ = some z := ⟨h.cell 0, h.cell 1, h.cell 2⟩

theorem uPc : Try.prog.underlying 24 = some (.slice 41) := Try.underlying24
theorem below_pc (w : World) (p : Pc) : Below w.heap.size w (w.alloc (.cells #[.int .i64 p.pos, .string p.text] 41)) := below_new _ _

/-- The sizes of all texts, each below a limit. -/
theorem sumP_take (l : List Pc) (k : Nat) (h : k < l.length) : sumP (l.take (k + 1)) = sumP (l.take k) + l[k].text.size := by
  induction l generalizing k with
  | nil => simp at h
  | cons x r ih =>
    cases k with
    | zero => simp [sumP]
    | succ k =>
      simp only [List.take_succ_cons, sumP, List.getElem_cons_succ]
      rw [ih k (by simpa using h)]
      omega
theorem sumP_le (l : List Pc) (k : Nat) : sumP (l.take k) ≤ sumP l := by
  induction l generalizing k with
  | nil => simp [sumP]
  | cons x r ih =>
    cases k with
    | zero => simp [sumP]
    | succ k => simp only [List.take_succ_cons, sumP]; have := ih k; omega
theorem sumP_mem {l : List Pc} {x : Pc} (h : x ∈ l) : x.text.size ≤ sumP l := by
  induction l with
  | nil => cases h
  | cons y r ih =>
    simp only [sumP]
    rcases List.mem_cons.1 h with rfl | h
    · omega
    · have := ih h; omega
theorem sumP_append (a b : List Pc) : sumP (a ++ b) = sumP a + sumP b := by
  induction a with
  | nil => simp [sumP]
  | cons x r ih => simp only [List.cons_append, sumP, ih]; omega
end Go.Proofs.Ytdajfnonehianaa
