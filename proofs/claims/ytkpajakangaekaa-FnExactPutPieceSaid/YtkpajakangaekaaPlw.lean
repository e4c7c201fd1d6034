import Derived.Test.YtkpajakangaekaaPst
import Derived.Test.YtkpajakangaekaaPok
import Derived.Deep.RegionHeld3
import Derived.Deep.Cut
namespace Go.Proofs.Ytkpajakangaekaa
open Go.RowKit

/-- What the sizes leave of a limit. -/
theorem ps_fit (t : ByteArray) (ms : List Pc) : ∃ z : Int, (if (1048576 : Int) - (t.size : Int) < 0 then -1 else szL ((1048576 : Int) - (t.size : Int)) ms.length (sumP ms)) = z ∧ (0 ≤ z → t.size + sumP ms ≤ 1048576 ∧ ms.length ≤ 1048576) := by
  refine ⟨_, rfl, fun h => ?_⟩
  unfold szL at h
  split at h
  · omega
  · split at h <;> omega

/-- A stream that came in, as it lies in its block. -/
structure Ag (W : World) (g0 : Nat) (r : Int) (t : ByteArray) (v : Value) (ms : List Pc) : Prop where
  c : Cel W g0 41 #[.int .i64 r, .string t, v]
  rd : RdP W v ms
/-- One that the law has made. -/
structure Ax (W : World) (g0 : Nat) (r : Int) (t : ByteArray) (v : Value) (ms : List Pc) : Prop where
  c : Cel W g0 28 #[.int .i64 r, .string t, v]
  rd : RdP W v ms
theorem Ag.kept {W W' : World} {g0 : Nat} {r : Int} {t : ByteArray} {v : Value} {ms : List Pc} (h : Ag W g0 r t v ms) (hb : Below W.heap.size W W') : Ag W' g0 r t v ms := ⟨h.c.kept hb, h.rd.below hb⟩
theorem Ax.kept {W W' : World} {g0 : Nat} {r : Int} {t : ByteArray} {v : Value} {ms : List Pc} (h : Ax W g0 r t v ms) (hb : Below W.heap.size W W') : Ax W' g0 r t v ms := ⟨h.c.kept hb, h.rd.below hb⟩
theorem Ax.new {W : World} {r : Int} {t : ByteArray} {v : Value} {ms : List Pc} (h : RdP W v ms) : Ax (W.alloc (.cells #[.int .i64 r, .string t, v] 28)) W.heap.size r t v ms := ⟨Cel.new _ _ _, h.below (below_new _ _)⟩

theorem six_all {w W : World} {r : Int} {t : ByteArray} {ms : List Pc} {v u : Value} {g0 h0 : Nat} (h : Ag W g0 r t v ms) (hb : Below w.heap.size w W) (hx : Ax W h0 r t u ms) :
    Ag W g0 r t (v) ms ∧ W.cell? ⟨g0, 0, none⟩ = some (.int .i64 r) ∧ W.cell? ⟨g0, 1, none⟩ = some (.string t) ∧ W.cell? ⟨g0, 2, none⟩ = some (v) ∧ Below w.heap.size w W ∧ Ax W h0 r t (u) ms ∧ W.cell? ⟨h0, 0, none⟩ = some (.int .i64 r) ∧ W.cell? ⟨h0, 1, none⟩ = some (.string t) ∧ W.cell? ⟨h0, 2, none⟩ = some (u) := by
  obtain ⟨a0, a1, a2⟩ := cel3' h.c
  obtain ⟨b0, b1, b2⟩ := cel3' hx.c
  exact ⟨h, a0, a1, a2, hb, hx, b0, b1, b2⟩
theorem six_keep {w W W' : World} {r : Int} {t : ByteArray} {ms : List Pc} {v u : Value} {g0 h0 : Nat} (h : Ag W g0 r t (v) ms ∧ W.cell? ⟨g0, 0, none⟩ = some (.int .i64 r) ∧ W.cell? ⟨g0, 1, none⟩ = some (.string t) ∧ W.cell? ⟨g0, 2, none⟩ = some (v) ∧ Below w.heap.size w W ∧ Ax W h0 r t (u) ms ∧ W.cell? ⟨h0, 0, none⟩ = some (.int .i64 r) ∧ W.cell? ⟨h0, 1, none⟩ = some (.string t) ∧ W.cell? ⟨h0, 2, none⟩ = some (u)) (hb : Below W.heap.size W W') :
    Ag W' g0 r t (v) ms ∧ W'.cell? ⟨g0, 0, none⟩ = some (.int .i64 r) ∧ W'.cell? ⟨g0, 1, none⟩ = some (.string t) ∧ W'.cell? ⟨g0, 2, none⟩ = some (v) ∧ Below w.heap.size w W' ∧ Ax W' h0 r t (u) ms ∧ W'.cell? ⟨h0, 0, none⟩ = some (.int .i64 r) ∧ W'.cell? ⟨h0, 1, none⟩ = some (.string t) ∧ W'.cell? ⟨h0, 2, none⟩ = some (u) :=
  six_all (h.1.kept hb) (Below.then_ h.2.2.2.2.1 hb) (h.2.2.2.2.2.1.kept hb)
theorem six_drew {w W : World} {r : Int} {t : ByteArray} {ms : List Pc} {v u : Value} {g0 h0 : Nat} (h : Ag W g0 r t v ms) (hb : Below w.heap.size w W) (hx : Ax W h0 r t u ms) :
    Ag W.drew g0 r t (v) ms ∧ W.drew.cell? ⟨g0, 0, none⟩ = some (.int .i64 r) ∧ W.drew.cell? ⟨g0, 1, none⟩ = some (.string t) ∧ W.drew.cell? ⟨g0, 2, none⟩ = some (v) ∧ Below w.heap.size w W.drew ∧ Ax W.drew h0 r t (u) ms ∧ W.drew.cell? ⟨h0, 0, none⟩ = some (.int .i64 r) ∧ W.drew.cell? ⟨h0, 1, none⟩ = some (.string t) ∧ W.drew.cell? ⟨h0, 2, none⟩ = some (u) := six_all ⟨h.c, h.rd⟩ hb.drew ⟨hx.c, hx.rd⟩
end Go.Proofs.Ytkpajakangaekaa
