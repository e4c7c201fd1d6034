import Derived.Test.YtihogaabojnbpaaCel
import Derived.Test.YtihogaabojnbpaaGtp
import Derived.Laws.ResultCell
namespace Go.Proofs.Ytihogaabojnbpaa
open Go.RowKit

theorem cel3b {W : World} {g : Nat} {t : TypeId} {x y z : Value} (h : Cel W g t #[x, y, z]) : W.cell? ⟨g, 0, none⟩ = some x ∧ W.cell? ⟨g, 1, none⟩ = some y ∧ W.cell? ⟨g, 2, none⟩ = some z := ⟨h.cell 0, h.cell 1, h.cell 2⟩
theorem below_bt (w : World) (b : Bt) : Below w.heap.size w (w.alloc (.cells #[.int .i64 b.rate, .int .i64 b.burst, .int .i64 b.hav] 25)) := below_new _ _
/-- A bucket in a block of its own, handed back whole; with a second result. -/
theorem bt_result {W : World} {g : Nat} {x y z : Value} (h : Cel W g 25 #[x, y, z]) {fn : Func} {p : Tmp} (hr : fn.results = #[.cell p 25]) (tmps : Array Value) (hp : tmps.getD p undef = .pointer (some ⟨g, 0, none⟩)) :
    (results fn tmps).run Try.prog W = .ok (.agg #[x, y, z]) W :=
  Cel.result h hr tmps hp Try.underlying25 rfl (by show _ = some 3; kernel_rfl)
theorem bt_result2 {W : World} {g : Nat} {x y z : Value} (h : Cel W g 25 #[x, y, z]) {fn : Func} {p u : Tmp} (hr : fn.results = #[.cell p 25, .tmp u]) (tmps : Array Value) (hp : tmps.getD p undef = .pointer (some ⟨g, 0, none⟩)) :
    (results fn tmps).run Try.prog W = .ok (.tuple #[.agg #[x, y, z], tmps.getD u undef]) W := by
  rw [results_cell_tmp hr, hp]
  simp [asAddr, run_loadVar_row W g 25 25 _ (0, 0) _ h Try.underlying25 rfl (show _ = some 3 by kernel_rfl), Result.andThen]

/-- The box of a call's own bucket, and the block of its result. -/
structure B3 (w W : World) (x y z : Value) : Prop where
  box : Cel W w.heap.size 25 #[x, y, z]
  res : ∃ r0 r1 r2, Cel W (w.heap.size + 1) 25 #[r0, r1, r2]
  below : Below w.heap.size w W
theorem B3.new (w : World) (x y z : Value) : B3 w ((w.alloc (.cells #[x, y, z] 25)).alloc (.cells #[.int .i64 0, .int .i64 0, .int .i64 0] 25)) x y z := by
  refine ⟨(Cel.new w 25 #[x, y, z]).alloc _, ⟨.int .i64 0, .int .i64 0, .int .i64 0, ?_⟩, ((Below.refl _ _).alloc (Nat.le_refl _) _).alloc (by simp) _⟩
  have := Cel.new (w.alloc (.cells #[x, y, z] 25)) 25 #[.int .i64 0, .int .i64 0, .int .i64 0]
  rw [World.size_alloc] at this
  exact this
theorem B3.kept {w W W' : World} {x y z : Value} (h : B3 w W x y z) (hb : Below W.heap.size W W') : B3 w W' x y z := by
  obtain ⟨r0, r1, r2, hz⟩ := h.res
  exact ⟨h.box.kept hb, ⟨r0, r1, r2, hz.kept hb⟩, Below.then_ h.below hb⟩
theorem B3.drew {w W : World} {x y z : Value} (h : B3 w W x y z) : B3 w W.drew x y z := ⟨h.box, h.res, h.below.drew⟩
theorem B3.set {w W : World} {x y z : Value} (h : B3 w W x y z) (i : Nat) (v : Value) : B3 w (W.setCell ⟨w.heap.size, i, none⟩ v) (if i = 0 then v else x) (if i = 1 then v else y) (if i = 2 then v else z) := by
  obtain ⟨r0, r1, r2, hz⟩ := h.res
  refine ⟨?_, ⟨r0, r1, r2, hz.other _ _ (by simp)⟩, h.below.setCell (p := ⟨w.heap.size, i, none⟩) (by simp) v⟩
  have := h.box.set i v
  match i with
  | 0 => simpa using this
  | 1 => simpa using this
  | 2 => simpa using this
  | n + 3 => simpa using this
theorem B3.give {w W : World} {x y z : Value} (h : B3 w W x y z) (a b c : Value) : Cel (((W.setCell ⟨w.heap.size + 1, 0, none⟩ a).setCell ⟨w.heap.size + 1, 1, none⟩ b).setCell ⟨w.heap.size + 1, 2, none⟩ c) (w.heap.size + 1) 25 #[a, b, c] ∧ Below w.heap.size w (((W.setCell ⟨w.heap.size + 1, 0, none⟩ a).setCell ⟨w.heap.size + 1, 1, none⟩ b).setCell ⟨w.heap.size + 1, 2, none⟩ c) := by
  obtain ⟨r0, r1, r2, hz⟩ := h.res
  refine ⟨?_, ((h.below.setCell (p := ⟨w.heap.size + 1, 0, none⟩) (by simp) a).setCell (p := ⟨w.heap.size + 1, 1, none⟩) (by simp) b).setCell (p := ⟨w.heap.size + 1, 2, none⟩) (by simp) c⟩
  have := ((hz.set 0 a).set 1 b).set 2 c
  simpa using this
theorem B3.all {w W : World} {x y z : Value} (h : B3 w W x y z) : W.cell? ⟨w.heap.size, 0, none⟩ = some x ∧ W.cell? ⟨w.heap.size, 1, none⟩ = some y ∧ W.cell? ⟨w.heap.size, 2, none⟩ = some z := cel3b h.box
theorem B3.fr {w W : World} {x y z : Value} (h : B3 w W x y z) (i : Nat) : W.frozen? ⟨w.heap.size, i, none⟩ = false ∧ W.frozen? ⟨w.heap.size + 1, i, none⟩ = false := by
  obtain ⟨r0, r1, r2, hz⟩ := h.res
  exact ⟨h.box.frozen i, hz.frozen i⟩
theorem B3.rs {w W : World} {x y z : Value} (h : B3 w W x y z) : ∃ r0 r1 r2, W.cell? ⟨w.heap.size + 1, 0, none⟩ = some r0 ∧ W.cell? ⟨w.heap.size + 1, 1, none⟩ = some r1 ∧ W.cell? ⟨w.heap.size + 1, 2, none⟩ = some r2 ∧ W.frozen? ⟨w.heap.size + 1, 0, none⟩ = false ∧ W.frozen? ⟨w.heap.size + 1, 1, none⟩ = false ∧ W.frozen? ⟨w.heap.size + 1, 2, none⟩ = false := by
  obtain ⟨r0, r1, r2, hz⟩ := h.res
  obtain ⟨h0, h1, h2⟩ := cel3b hz
  exact ⟨r0, r1, r2, h0, h1, h2, hz.frozen 0, hz.frozen 1, hz.frozen 2⟩
end Go.Proofs.Ytihogaabojnbpaa
