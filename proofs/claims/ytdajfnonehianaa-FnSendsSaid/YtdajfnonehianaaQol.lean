import Derived.Test.YtdajfnonehianaaQo
import Derived.Test.YtdajfnonehianaaTyn
import Derived.Test.YtdajfnonehianaaPtk
import Derived.Laws.ResultCell
import Derived.Deep.RegionHeld3
import Derived.Deep.Cut
namespace Go.Proofs.Ytdajfnonehianaa
open Go.RowKit

/-- The first m bytes, or all. -/
def firstOf (t : ByteArray) (m : Int) : ByteArray := t.extract 0 (min m (t.size : Int)).toNat
theorem firstOf_size (t : ByteArray) (m : Int) (h : 0 ≤ m) : ((firstOf t m).size : Int) = min m (t.size : Int) := by
  unfold firstOf
  simp only [ByteArray.size_extract]
  omega
theorem extract_all (t : ByteArray) : t.extract 0 t.size = t := by
  apply ByteArray.ext
  simp only [ByteArray.data_extract, ByteArray.size]
  exact Array.extract_size
theorem firstOf_all (t : ByteArray) (m : Int) (h : (t.size : Int) ≤ m) : firstOf t m = t := by
  unfold firstOf
  rw [Int.min_eq_right h, Int.toNat_natCast]
  exact extract_all t

theorem impl_first (t : ByteArray) (m : Int) (w : World) (h0 : 0 ≤ m) (hs : t.size ≤ 9223372036854775807) :
    Calls Try.prog 56 #[.string t, .int .i64 m] w fun e w' => e = .returned (.string (firstOf t m)) ∧ w = w' := by
  have hsl := cut_to t (min m (t.size : Int)) (by omega) (by omega)
  unfold firstOf
  generalize t.extract 0 (min m (t.size : Int)).toNat = r at hsl
  go_enter Try.func56, Try.ntmps56
  go_wp2_with (fail)
  go_ret
  exact ⟨rfl, rfl⟩

/-- Each field in its range. -/
def Ot.lim (o : Ot) : Ot :=
  ⟨firstOf o.text (max 1 (min o.room 200)), max 0 (min o.base 1000000000), max (max 0 (min o.base 1000000000)) (min o.sent (max 0 (min o.base 1000000000) + ((firstOf o.text (max 1 (min o.room 200))).size : Int))), max 1 (min o.room 200)⟩

theorem lim_ok (o : Ot) : o = o.lim ↔ o.Ok := by
  obtain ⟨t, b, s, r⟩ := o
  have hz := firstOf_size t (max 1 (min r 200)) (by omega)
  unfold Ot.lim Ot.Ok
  simp only [Ot.mk.injEq]
  constructor
  · rintro ⟨h1, h2, h3, h4⟩
    rw [← h1] at hz h3
    omega
  · rintro ⟨h1, h2, h3, h4, h5, h6, h7⟩
    have e1 : firstOf t (max 1 (min r 200)) = t := firstOf_all _ _ (by omega)
    rw [e1]
    exact ⟨rfl, by omega, by omega, by omega⟩

/-- A buffer in a block of its own, handed back whole. -/
theorem out_result {W : World} {g : Nat} {x y z u : Value} (h : Cel W g 33 #[x, y, z, u]) {fn : Func} {p : Tmp} (hr : fn.results = #[.cell p 33]) (tmps : Array Value) (hp : tmps.getD p undef = .pointer (some ⟨g, 0, none⟩)) :
    (results fn tmps).run Try.prog W = .ok (.agg #[x, y, z, u]) W :=
  Cel.result h hr tmps hp Try.underlying33 rfl (by show _ = some 4; kernel_rfl)
/-- .. and a second result. -/
theorem out_result2 {W : World} {g : Nat} {x y z v : Value} (h : Cel W g 33 #[x, y, z, v]) {fn : Func} {p u : Tmp} (hr : fn.results = #[.cell p 33, .tmp u]) (tmps : Array Value) (hp : tmps.getD p undef = .pointer (some ⟨g, 0, none⟩)) :
    (results fn tmps).run Try.prog W = .ok (.tuple #[.agg #[x, y, z, v], tmps.getD u undef]) W := by
  rw [results_cell_tmp hr, hp]
  simp [asAddr, run_loadVar_row W g 33 33 _ (0, 0) _ h Try.underlying33 rfl (show _ = some 4 by kernel_rfl), Result.andThen]

/-- The box of a call's own buffer, and the block of its result. -/
structure Bx (w W : World) (x y z u : Value) : Prop where
  box : Cel W w.heap.size 33 #[x, y, z, u]
  res : ∃ r0 r1 r2 r3, Cel W (w.heap.size + 1) 33 #[r0, r1, r2, r3]
  below : Below w.heap.size w W
theorem Bx.new (w : World) (x y z u : Value) : Bx w ((w.alloc (.cells #[x, y, z, u] 33)).alloc (.cells #[.string ⟨#[]⟩, .int .i64 0, .int .i64 0, .int .i64 0] 33)) x y z u := by
  refine ⟨(Cel.new w 33 #[x, y, z, u]).alloc _, ⟨.string ⟨#[]⟩, .int .i64 0, .int .i64 0, .int .i64 0, ?_⟩, ((Below.refl _ _).alloc (Nat.le_refl _) _).alloc (by simp) _⟩
  · have := Cel.new (w.alloc (.cells #[x, y, z, u] 33)) 33 #[.string ⟨#[]⟩, .int .i64 0, .int .i64 0, .int .i64 0]
    rw [World.size_alloc] at this
    exact this
theorem Bx.kept {w W W' : World} {x y z u : Value} (h : Bx w W x y z u) (hb : Below W.heap.size W W') : Bx w W' x y z u := by
  obtain ⟨r0, r1, r2, r3, hz⟩ := h.res
  exact ⟨h.box.kept hb, ⟨r0, r1, r2, r3, hz.kept hb⟩, Below.then_ h.below hb⟩
theorem Bx.drew {w W : World} {x y z u : Value} (h : Bx w W x y z u) : Bx w W.drew x y z u := ⟨h.box, h.res, h.below.drew⟩
theorem Bx.set {w W : World} {x y z u : Value} (h : Bx w W x y z u) (i : Nat) (v : Value) : Bx w (W.setCell ⟨w.heap.size, i, none⟩ v) (if i = 0 then v else x) (if i = 1 then v else y) (if i = 2 then v else z) (if i = 3 then v else u) := by
  obtain ⟨r0, r1, r2, r3, hz⟩ := h.res
  refine ⟨?_, ⟨r0, r1, r2, r3, hz.other _ _ (by simp)⟩, h.below.setCell (p := ⟨w.heap.size, i, none⟩) (by simp) v⟩
  have := h.box.set i v
  match i with
  | 0 => simpa using this
  | 1 => simpa using this
  | 2 => simpa using this
  | 3 => simpa using this
  | n + 4 => simpa using this
theorem Bx.give {w W : World} {x y z u : Value} (h : Bx w W x y z u) (a b c d : Value) : Cel ((((W.setCell ⟨w.heap.size + 1, 0, none⟩ a).setCell ⟨w.heap.size + 1, 1, none⟩ b).setCell ⟨w.heap.size + 1, 2, none⟩ c).setCell ⟨w.heap.size + 1, 3, none⟩ d) (w.heap.size + 1) 33 #[a, b, c, d] ∧ Below w.heap.size w ((((W.setCell ⟨w.heap.size + 1, 0, none⟩ a).setCell ⟨w.heap.size + 1, 1, none⟩ b).setCell ⟨w.heap.size + 1, 2, none⟩ c).setCell ⟨w.heap.size + 1, 3, none⟩ d) := by
  obtain ⟨r0, r1, r2, r3, hz⟩ := h.res
  refine ⟨?_, (((h.below.setCell (p := ⟨w.heap.size + 1, 0, none⟩) (by simp) a).setCell (p := ⟨w.heap.size + 1, 1, none⟩) (by simp) b).setCell (p := ⟨w.heap.size + 1, 2, none⟩) (by simp) c).setCell (p := ⟨w.heap.size + 1, 3, none⟩) (by simp) d⟩
  have := (((hz.set 0 a).set 1 b).set 2 c).set 3 d
  simpa using this
theorem Bx.all {w W : World} {x y z u : Value} (h : Bx w W x y z u) : W.cell? ⟨w.heap.size, 0, none⟩ = some x ∧ W.cell? ⟨w.heap.size, 1, none⟩ = some y ∧ W.cell? ⟨w.heap.size, 2, none⟩ = some z ∧ W.cell? ⟨w.heap.size, 3, none⟩ = some u := cel4 h.box
theorem Bx.fr {w W : World} {x y z u : Value} (h : Bx w W x y z u) (i : Nat) : W.frozen? ⟨w.heap.size, i, none⟩ = false ∧ W.frozen? ⟨w.heap.size + 1, i, none⟩ = false := by
  obtain ⟨r0, r1, r2, r3, hz⟩ := h.res
  exact ⟨h.box.frozen i, hz.frozen i⟩
theorem Bx.rs {w W : World} {x y z u : Value} (h : Bx w W x y z u) : ∃ r0 r1 r2 r3, W.cell? ⟨w.heap.size + 1, 0, none⟩ = some r0 ∧ W.cell? ⟨w.heap.size + 1, 1, none⟩ = some r1 ∧ W.cell? ⟨w.heap.size + 1, 2, none⟩ = some r2 ∧ W.cell? ⟨w.heap.size + 1, 3, none⟩ = some r3 := by
  obtain ⟨r0, r1, r2, r3, hz⟩ := h.res
  exact ⟨r0, r1, r2, r3, cel4 hz⟩

set_option maxRecDepth 100000 in
theorem copy_out (o : Ot) (w : World) (hs : o.text.size ≤ 281474976710656) :
    Calls Try.prog 55 #[.agg #[.string o.text, .int .i64 o.base, .int .i64 o.sent, .int .i64 o.room]] w fun e w' => e = .returned (.agg #[.string o.text, .int .i64 o.base, .int .i64 o.sent, .int .i64 o.room]) ∧ Below w.heap.size w w' := by
  obtain ⟨t, b, s, r⟩ := o
  simp only at hs ⊢
  have c1 := fun W => clone_call t W hs
  have HX := Lib.hid (Bx.new w (.string t) (.int .i64 b) (.int .i64 s) (.int .i64 r))
  clear hs
  go_enter Try.func55, Try.ntmps55
  go_wp2_with (fail)
  with_reducible refine (c1 _).mono ?_
  rintro e w1 ⟨rfl, hb1⟩
  have h1 := HX.out.kept hb1
  clear HX hb1 c1
  obtain ⟨a0, a1, a2, a3⟩ := h1.all
  obtain ⟨f0, -⟩ := h1.fr 0
  have h2 := h1.set 0 (.string t)
  simp only [if_true, if_false, Nat.reduceEqDiff] at h2
  have H2 := Lib.hid h2
  clear h1 h2
  go_upto_region 2 with (fail)
  clear a0 a1 a2 a3 f0
  generalize w1.setCell ⟨w.heap.size, 0, none⟩ (.string t) = w2 at *
  obtain ⟨a0, a1, a2, a3⟩ := H2.out.all
  obtain ⟨r0, r1, r2, r3, b0, b1, b2, b3⟩ := H2.out.rs
  have f0 := (H2.out.fr 0).2
  have f1 := (H2.out.fr 1).2
  have f2 := (H2.out.fr 2).2
  have f3 := (H2.out.fr 3).2
  have H3 := Lib.hid (H2.out.give (.string t) (.int .i64 b) (.int .i64 s) (.int .i64 r))
  clear H2
  go_wp2_with (fail)
  exact bodyPost_ret (out_result H3.out.1 rfl _ rfl) rfl ⟨rfl, H3.out.2⟩
end Go.Proofs.Ytdajfnonehianaa
