import Derived.Test.YtdajfnonehianaaPxd
import Derived.Test.YtdajfnonehianaaPxs
import Derived.Test.YtdajfnonehianaaPpu
import Derived.Test.YtdajfnonehianaaPva
import Derived.Test.YtdajfnonehianaaSame
import Derived.Test.YtdajfnonehianaaBig
namespace Go.Proofs.Ytdajfnonehianaa
open Go.RowKit

/-- Block g begins with these bytes, which may be written. -/
def BB (W : World) (g : Nat) (l : List UInt8) : Prop := ∃ cur fr, W.heap[g]? = some (.cells cur 5 fr) ∧ l.length ≤ cur.size ∧ cur.toList.take l.length = l.map cb ∧ (fr = (0, 0) ∨ l.length ≤ fr.1)
theorem BB.of_row {W : World} {B g cap : Nat} {l : List UInt8} (h : BRow W B (.slice (some ⟨g, 0, none⟩) l.length cap) l) : BB W g l := by
  obtain ⟨g', cap', cur, fr, hv, hg, hh, h1, h2, h3, h4, h5⟩ := h
  injection hv with e1 e2 e3
  injection e1 with e1
  injection e1 with e1
  subst e1
  refine ⟨cur, fr, hh, by omega, h4, ?_⟩
  rcases h5 with h5 | h5
  · exact .inl h5
  · exact .inr (by omega)
theorem BB.cell {W : World} {g : Nat} {l : List UInt8} (h : BB W g l) (j : Nat) (hj : j < l.length) : W.cell? ⟨g, j, none⟩ = some (.int .u8 ((l[j]).toNat : Int)) ∧ W.frozen? ⟨g, j, none⟩ = false := by
  obtain ⟨cur, fr, hh, h1, h2, h3⟩ := h
  refine ⟨?_, ?_⟩
  · rw [Go.cell_of_row _ _ _ _ _ _ hh]
    have := congrArg (fun x => x[j]?) h2
    simp only [List.getElem?_take, hj, ↓reduceIte, List.getElem?_map] at this
    rw [List.getElem?_eq_getElem hj] at this
    simpa [cb] using this
  · simp only [World.frozen?, hh]
    rcases h3 with rfl | h3
    · simp
    · simp; omega
theorem BB.set {W : World} {g : Nat} {l : List UInt8} (h : BB W g l) (i : Nat) (c : UInt8) : BB (W.setCell ⟨g, i, none⟩ (.int .u8 (c.toNat : Int))) g (l.set i c) := by
  obtain ⟨cur, fr, hh, h1, h2, h3⟩ := h
  refine ⟨cur.setIfInBounds i (.int .u8 (c.toNat : Int)), fr, ?_, by simpa using h1, ?_, by simpa using h3⟩
  · show (W.heap.modify g _)[g]? = _
    rw [Array.getElem?_modify, if_pos rfl, hh]
    rfl
  · rw [List.length_set, Array.toList_setIfInBounds, List.take_set, h2, List.map_set]
    rfl
theorem BB.conv {W : World} {g cap n : Nat} {l : List UInt8} (h : BB W g l) (hn : l.length = n) : (convert 22 9 (.slice (some ⟨g, 0, none⟩) n cap)).run Try.prog W = .ok (.string ⟨l.toArray⟩) W := by
  subst hn
  exact run_convert_bytes_back W 22 9 5 ⟨g, 0, none⟩ cap l Try.underlying22 Try.underlying5 Try.underlying9 fun j hj => by
    have hc := (h.cell j hj).1
    rw [Addr.add_mid, Nat.zero_add]
    exact hc

/-- A stream in block g, its list somewhere. -/
structure P1 (W : World) (g : Nat) (r : Int) (t : ByteArray) (u : Value) (ms : List Pc) : Prop where
  c : Cel W g 26 #[.int .i64 r, .string t, u]
  l : ∃ B C, LieE pcK W B C u ms
theorem P1.kept {W W' : World} {g : Nat} {r : Int} {t : ByteArray} {u : Value} {ms : List Pc} (h : P1 W g r t u ms) (hb : Below W.heap.size W W') : P1 W' g r t u ms := by
  obtain ⟨B, C, hl⟩ := h.l
  exact ⟨h.c.kept hb, B, C, hl.below hb⟩
theorem P1.rd {W : World} {g : Nat} {r : Int} {t : ByteArray} {u : Value} {ms : List Pc} (h : P1 W g r t u ms) : RdP W u ms := by
  obtain ⟨B, C, hl⟩ := h.l
  exact hl.rd
theorem P1.new {W : World} {B C : Nat} {r : Int} {t : ByteArray} {u : Value} {ms : List Pc} (h : LieE pcK W B C u ms) : P1 (W.alloc (.cells #[.int .i64 r, .string t, u] 26)) W.heap.size r t u ms :=
  ⟨Cel.new _ _ _, B, C, h.below (below_new _ _)⟩
theorem mid_put {p : Ps} (a : Int) (t : ByteArray) (h : MidP p) : MidP (putPiece p a t) := by
  unfold putPiece
  split
  · rename_i hq
    have h2 := hq.2
    unfold piecesOk heldP at h2
    split at h2
    · rename_i h3
      exact ⟨by omega, by omega⟩
    · cases h2
  · exact h
theorem app_front (a b : ByteArray) : (a ++ b).extract 0 a.size = a := by
  apply ByteArray.ext
  simp only [ByteArray.data_extract, ByteArray.data_append, ByteArray.size]
  rw [Array.extract_append_left]
  exact Array.extract_size
end Go.Proofs.Ytdajfnonehianaa
