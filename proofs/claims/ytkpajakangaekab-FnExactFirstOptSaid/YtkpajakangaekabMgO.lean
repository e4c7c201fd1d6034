import Derived.Test.YtkpajakangaekabOv
import Derived.Test.YtkpajakangaekabRw
import Derived.Lib.Hide
import Derived.Deep.RegionHeld3
import Derived.Deep.Cut
namespace Go.Proofs.Ytkpajakangaekab
open Go.RowKit

theorem sz_ints (v : Value) (zs : List Int) (left : Int) (w : World) (hv : Rd w v zs) (h0 : 0 ≤ left) (h1 : left ≤ 1048576) (hn : zs.length ≤ 9223372036854775807) :
    Calls Try.prog 76 #[v, .int .i64 left] w fun e w' => e = .returned (.int .i64 (if (zs.length : Int) ≤ left then left - zs.length else -1)) ∧ w = w' := by
  obtain ⟨a, c, rfl, -⟩ := hv
  by_cases h : (zs.length : Int) ≤ left
  · rw [if_pos h]
    have q : ¬ (left - (zs.length : Int) < 0) := by omega
    go_enter Try.func76, Try.ntmps76
    go_wp2_with (fail)
    go_ret
    exact ⟨rfl, rfl⟩
  · rw [if_neg h]
    have q : (left - (zs.length : Int) < 0) := by omega
    go_enter Try.func76, Try.ntmps76
    go_wp2_with (fail)
    go_ret
    exact ⟨rfl, rfl⟩

/-- What is left of a bound behind an option. -/
def szOv (o : Ov) (left : Int) : Int := if (o.key.size : Int) + o.mark.size + o.ids.length ≤ left then left - o.key.size - o.mark.size - o.ids.length else -1

set_option maxHeartbeats 400000 in
theorem sz_opt (o : Ov) (v : Value) (left : Int) (w : World) (hv : Rd w v o.ids) (h0 : 0 ≤ left) (h1 : left ≤ 1048576) (hk : o.key.size ≤ 9223372036854775807) (hm : o.mark.size ≤ 9223372036854775807) (hn : o.ids.length ≤ 9223372036854775807) :
    Calls Try.prog 70 #[.agg (o.cells v), .int .i64 left] w fun e w' => e = .returned (.int .i64 (szOv o left)) ∧ Below w.heap.size w w' := by
  have hB : Below w.heap.size w (w.alloc (.cells (o.cells v) 115)) := (Below.refl _ _).alloc (Nat.le_refl _) _
  have c1 := fun l h0 h1 => sz_ints v o.ids l _ (hv.below hB) h0 h1 (by omega)
  obtain ⟨va, vc, rfl, -⟩ := hv
  obtain ⟨a0, a1, a2, a3, a4, a5, a6, a7, a8, a9, a10, a11, a12, a13⟩ := o.ats (.slice va o.ids.length vc)
  clear a0 a1 a2 a3 a4 a5 a6 a7 a8 a9 a10
  generalize hr : szOv o left = r
  have HR := Lib.hid hr
  clear hr
  have q0 : (0 : Int) ≤ o.key.size := by omega
  have q1 : (0 : Int) ≤ o.mark.size := by omega
  by_cases hk1 : (o.key.size : Int) ≤ left
  · have k1 : ¬ (left - (o.key.size : Int) < 0) := by omega
    by_cases hm1 : (o.mark.size : Int) ≤ left - o.key.size
    · have k2 : ¬ (left - (o.key.size : Int) - (o.mark.size : Int) < 0) := by omega
      have c2 := c1 (left - o.key.size - o.mark.size) (by omega) (by omega)
      by_cases hi1 : (o.ids.length : Int) ≤ left - o.key.size - o.mark.size
      · rw [if_pos hi1] at c2
        have k3 : ¬ (left - (o.key.size : Int) - (o.mark.size : Int) - (o.ids.length : Int) < 0) := by omega
        clear c1
        go_enter Try.func70, Try.ntmps70
        go_wp2_with (fail)
        with_reducible refine c2.mono ?_
        rintro e w1 ⟨rfl, rfl⟩
        go_wp2_with (fail)
        go_ret
        exact ⟨by rw [← HR.out]; unfold szOv; rw [if_pos (by omega)]; rfl, hB⟩
      · rw [if_neg hi1] at c2
        clear c1
        go_enter Try.func70, Try.ntmps70
        go_wp2_with (fail)
        with_reducible refine c2.mono ?_
        rintro e w1 ⟨rfl, rfl⟩
        go_wp2_with (fail)
        go_ret
        exact ⟨by rw [← HR.out]; unfold szOv; rw [if_neg (by omega)]; rfl, hB⟩
    · have k2 : (left - (o.key.size : Int) - (o.mark.size : Int) < 0) := by omega
      clear c1
      go_enter Try.func70, Try.ntmps70
      go_wp2_with (fail)
      go_ret
      exact ⟨by rw [← HR.out]; unfold szOv; rw [if_neg (by omega)]; rfl, hB⟩
  · have k1 : (left - (o.key.size : Int) < 0) := by omega
    clear c1
    go_enter Try.func70, Try.ntmps70
    go_wp2_with (fail)
    go_ret
    exact ⟨by rw [← HR.out]; unfold szOv; rw [if_neg (by omega)]; rfl, hB⟩

set_option maxRecDepth 100000 in
set_option maxHeartbeats 1000000 in
theorem to_opt (o : Ov) (v : Value) (w : World) (hv : Rd w v o.ids) (hn : o.ids.length ≤ 1048576) :
    Calls Try.prog 71 #[.agg (o.cells v)] w fun e w' => ∃ v', e = .returned (.agg (o.cells v')) ∧ IRow w' w.heap.size w'.heap.size v' o.ids ∧ Below w.heap.size w w' := by
  obtain ⟨va, vc, rfl⟩ : ∃ a c, v = .slice a o.ids.length c := by obtain ⟨a, c, h, -⟩ := hv; exact ⟨a, c, h⟩
  have hB0 : Below w.heap.size w (((w.alloc (.cells (o.cells (.slice va o.ids.length vc)) 115)).alloc (.cells (Ov.zero.cells (.slice none 0 0)) 26)).alloc (.cells (o.cells (.slice none 0 0)) 26)) := (((Below.refl _ _).alloc (Nat.le_refl _) _).alloc (by simp) _).alloc (by simp; omega) _
  have hC0 := Cel.new ((w.alloc (.cells (o.cells (.slice va o.ids.length vc)) 115)).alloc (.cells (Ov.zero.cells (.slice none 0 0)) 26)) 26 (o.cells (.slice none 0 0))
  have hD0 := (Cel.new (w.alloc (.cells (o.cells (.slice va o.ids.length vc)) 115)) 26 (Ov.zero.cells (.slice none 0 0))).alloc (.cells (o.cells (.slice none 0 0)) 26)
  have hS0 : (((w.alloc (.cells (o.cells (.slice va o.ids.length vc)) 115)).alloc (.cells (Ov.zero.cells (.slice none 0 0)) 26)).alloc (.cells (o.cells (.slice none 0 0)) 26)).heap.size = w.heap.size + 3 := by simp
  rw [World.size_alloc, World.size_alloc] at hC0
  rw [World.size_alloc] at hD0
  have c1 := to_ints (.slice va o.ids.length vc) o.ids (((w.alloc (.cells (o.cells (.slice va o.ids.length vc)) 115)).alloc (.cells (Ov.zero.cells (.slice none 0 0)) 26)).alloc (.cells (o.cells (.slice none 0 0)) 26)) (hv.below hB0) hn
  have hF := Lib.hid (And.intro hB0 (And.intro hC0 (And.intro hD0 hS0)))
  clear hB0 hC0 hD0 hS0
  obtain ⟨a0, a1, a2, a3, a4, a5, a6, a7, a8, a9, a10, a11, a12, a13⟩ := o.ats (.slice va o.ids.length vc)
  have hz : o.cells (.slice none 0 0) = #[.int .i64 o.kind, .int .i64 o.id, .int .i64 o.addr, .int .i64 o.port, .int .i64 o.token, .int .i64 o.nonce, .int .i64 o.seq, .int .i64 o.sub, .int .i64 o.len, .int .i64 o.ack, .bool o.flag, .string o.key, .string o.mark, .slice none 0 0] := by unfold Ov.cells; rfl
  have hz0 : Ov.zero.cells (.slice none 0 0) = #[.int .i64 0, .int .i64 0, .int .i64 0, .int .i64 0, .int .i64 0, .int .i64 0, .int .i64 0, .int .i64 0, .int .i64 0, .int .i64 0, .bool false, .string ⟨#[]⟩, .string ⟨#[]⟩, .slice none 0 0] := by unfold Ov.cells; rfl
  have HZ := Lib.hid hz
  have HZ0 := Lib.hid hz0
  clear hz hz0
  go_enter Try.func71, Try.ntmps71
  go_wp2_with (fail)
  clear a0 a1 a2 a3 a4 a5 a6 a7 a8 a9 a10 a11 a12 a13
  rw [← HZ.out, ← HZ0.out]
  with_reducible refine c1.mono ?_
  rintro e w1 ⟨v', rfl, hi, hb1⟩
  obtain ⟨hB0, hC0, hD0, hS0⟩ := hF.out
  clear hF HZ HZ0
  have hsz := hb1.size
  rw [hS0] at hsz hi
  have hC := hC0.kept hb1
  have hD := hD0.kept hb1
  have hB := hB0.trans (hb1.mono (by rw [hS0]; omega))
  clear hC0 hD0 hB0 hS0
  clear hb1 c1
  obtain ⟨ia, ic, rfl⟩ : ∃ a c, v' = .slice a o.ids.length c := by obtain ⟨a, c, h, -⟩ := hi.rd; exact ⟨a, c, h⟩
  have hc13 := hC.cell 13
  have hf13 := hC.frozen 13
  rw [(o.ats (.slice none 0 0)).2.2.2.2.2.2.2.2.2.2.2.2.2] at hc13
  have hC2 := hC.set 13 (.slice ia o.ids.length ic)
  rw [Ov.cells_set] at hC2
  have hD2 := hD.other ⟨w.heap.size + 2, 13, none⟩ (.slice ia o.ids.length ic) (by simp)
  have hD3 := hD2.row (o.cells (.slice ia o.ids.length ic))
  have hB2 := hB.setCell (p := ⟨w.heap.size + 2, 13, none⟩) (by simp) (.slice ia o.ids.length ic)
  have hB3 : Below w.heap.size w ((w1.setCell ⟨w.heap.size + 2, 13, none⟩ (.slice ia o.ids.length ic)).setRow (w.heap.size + 1) (o.cells (.slice ia o.ids.length ic))) :=
    ⟨hB2.os, hB2.tape, hB2.output, by rw [show ∀ (W : World) g cs, (W.setRow g cs).heap.size = W.heap.size from fun W g cs => by simp [World.setRow]]; exact hB2.size, fun k hk => by
      show ((World.heap _).modify _ _)[k]? = _
      rw [Array.getElem?_modify, if_neg (by omega)]
      exact hB2.block k hk⟩
  have hi3 : IRow ((w1.setCell ⟨w.heap.size + 2, 13, none⟩ (.slice ia o.ids.length ic)).setRow (w.heap.size + 1) (o.cells (.slice ia o.ids.length ic))) (w.heap.size + 3) (w.heap.size + 3 + 1) (.slice ia o.ids.length ic) o.ids :=
    hi.keepAt fun g hg => by
      have := (hi.block g hg).1
      show ((World.heap _).modify _ _)[g]? = _
      rw [Array.getElem?_modify, if_neg (by omega)]
      exact Below.heap_setCell _ _ _ _ (by simp; omega)
  have hC3 : (w1.setCell ⟨w.heap.size + 2, 13, none⟩ (.slice ia o.ids.length ic)).heap[w.heap.size + 2]? = some (.cells (o.cells (.slice ia o.ids.length ic)) 26 (0, 0)) := hC2
  have hD4 : (w1.setCell ⟨w.heap.size + 2, 13, none⟩ (.slice ia o.ids.length ic)).heap[w.heap.size + 1]? = some (.cells (Ov.zero.cells (.slice none 0 0)) 26 (0, 0)) := hD2
  have HF := Lib.hid (And.intro hD3 (And.intro hi3 hB3))
  clear hC hD hi hB hv hD2 hD3 hi3 hB3 hB2 hC2
  have one := o.cells_one ia o.ids.length ic
  have hss : (Ov.zero.cells (.slice none 0 0)).size = (o.cells (.slice ia o.ids.length ic)).size := by rw [Ov.cells_size, Ov.cells_size]
  go_wp2_with (first | (with_reducible refine wpList_load_row rfl 26 _ rfl _ rfl 26 _ (0, 0) _ hC3 Try.underlying26 rfl (sizeOpt' _ _) ?_) | (with_reducible refine wpList_store_row rfl 26 _ _ rfl _ rfl _ rfl 26 _ hD4 (sizeOpt' _ _) hss one ?_))
  obtain ⟨hD3, hi3, hB3⟩ := HF.out
  refine bodyPost_ret (Cel.result hD3 rfl _ rfl Try.underlying26 rfl (sizeOpt' _ _)) rfl ⟨_, rfl, hi3.inside.wider (by omega) (Nat.le_refl _), hB3⟩
end Go.Proofs.Ytkpajakangaekab

namespace Go.Proofs.Ytkpajakangaekab
open Go.RowKit

set_option maxRecDepth 100000 in
set_option maxHeartbeats 1000000 in
theorem eq_opt (o : Ov) (v u : Value) (w : World) (hv : Rd w v o.ids) (hu : Rd w u o.ids) (hn : o.ids.length ≤ 1048576) :
    Calls Try.prog 23 #[.agg (o.cells v), .agg (o.cells u)] w fun e w' => e = .returned (.bool true) ∧ Below w.heap.size w w' := by
  have hB : Below w.heap.size w ((w.alloc (.cells (o.cells v) 26)).alloc (.cells (o.cells u) 26)) := ((Below.refl _ _).alloc (Nat.le_refl _) _).alloc (by simp) _
  have c1 := eq_ints v u o.ids _ (hv.below hB) (hu.below hB) hn
  obtain ⟨va, vc, rfl, -⟩ := hv
  obtain ⟨ua, uc, rfl, -⟩ := hu
  obtain ⟨a0, a1, a2, a3, a4, a5, a6, a7, a8, a9, a10, a11, a12, a13⟩ := o.ats (.slice va o.ids.length vc)
  obtain ⟨b0, b1, b2, b3, b4, b5, b6, b7, b8, b9, b10, b11, b12, b13⟩ := o.ats (.slice ua o.ids.length uc)
  go_enter Try.func23, Try.ntmps23
  go_wp2_with (fail)
  with_reducible refine c1.mono ?_
  rintro e w1 ⟨rfl, m, rfl⟩
  go_wp2_with (fail)
  go_ret
  exact ⟨rfl, ⟨hB.os, hB.tape, hB.output, hB.size, hB.block⟩⟩
end Go.Proofs.Ytkpajakangaekab

namespace Go.Proofs.Ytkpajakangaekab
open Go.RowKit

theorem Cel.loadRow {W : World} {g : Nat} {t : TypeId} {cs : Array Value} (h : Cel W g t cs) {P : Program} (n : Nat) (hn : cs.size = n) :
    (loadCells ⟨g, 0, none⟩ n).run P W = .ok cs W := by
  subst hn
  have := run_loadCells_list (P := P) W ⟨g, 0, none⟩ cs.toList (fun j v hv => by
    have hadd : (⟨g, 0, none⟩ : Addr).add j = ⟨g, j, none⟩ := by unfold Addr.add; split <;> simp_all
    rw [hadd, cell_of_row _ _ j cs t (0, 0) h]
    simpa using hv)
  rw [Array.toArray_toList] at this
  simpa only [Array.length_toList] using this

attribute [-go_sem] loadCells loadCellsFrom

theorem szOv_in (o : Ov) (l : Int) (h : ¬ szOv o l < 0) : 0 ≤ szOv o l ∧ szOv o l ≤ l ∧ (o.ids.length : Int) ≤ l ∧ (o.key.size : Int) ≤ l ∧ (o.mark.size : Int) ≤ l := by
  unfold szOv at *
  split at h
  · rename_i hx
    rw [if_pos hx]
    omega
  · omega

/-- A new variable, and what is stored in it. -/
theorem new_row (W : World) (t : TypeId) (old cs : Array Value) : Cel ((W.alloc (.cells old t)).setRow W.heap.size cs) W.heap.size t cs ∧ Below W.heap.size W ((W.alloc (.cells old t)).setRow W.heap.size cs) := by
  refine ⟨(Cel.new W t old).row cs, ?_⟩
  have hB := (Below.refl W.heap.size W).alloc (Nat.le_refl _) (.cells old t)
  exact ⟨hB.os, hB.tape, hB.output, by rw [show ∀ (W : World) g cs, (W.setRow g cs).heap.size = W.heap.size from fun W g cs => by simp [World.setRow]]; exact hB.size, fun k hk => by
    show ((World.heap _).modify _ _)[k]? = _
    rw [Array.getElem?_modify, if_neg (by omega)]
    exact hB.block k hk⟩

theorem zeroOpt (W : World) : (W.alloc (.cells #[.int .i64 0, .int .i64 0, .int .i64 0, .int .i64 0, .int .i64 0, .int .i64 0, .int .i64 0, .int .i64 0, .int .i64 0, .int .i64 0, .bool false, .string ⟨#[]⟩, .string ⟨#[]⟩, .slice none 0 0] 26)).heap[W.heap.size]? = some (.cells #[.int .i64 0, .int .i64 0, .int .i64 0, .int .i64 0, .int .i64 0, .int .i64 0, .int .i64 0, .int .i64 0, .int .i64 0, .int .i64 0, .bool false, .string ⟨#[]⟩, .string ⟨#[]⟩, .slice none 0 0] 26 (0, 0)) := Cel.new _ _ _

theorem sizeArg (o : Ov) (v : Value) : (Try.prog.info? 115).map (·.size) = some (o.cells v).size := by rw [Ov.cells_size]; kernel_rfl

/-- What stays while a law goes on: the options that came in, as they lie in their blocks. -/
structure Two (W : World) (g0 g1 : Nat) (a b : Ov) (v u : Value) : Prop where
  c0 : W.heap[g0]? = some (.cells (a.cells v) 115 (0, 0))
  c1 : W.heap[g1]? = some (.cells (b.cells u) 115 (0, 0))
  r0 : Rd W v a.ids
  r1 : Rd W u b.ids

theorem Two.kept {W W' : World} {g0 g1 : Nat} {a b : Ov} {v u : Value} (h : Two W g0 g1 a b v u) (hb : Below W.heap.size W W') : Two W' g0 g1 a b v u :=
  ⟨Cel.kept (show Cel W g0 _ _ from h.c0) hb, Cel.kept (show Cel W g1 _ _ from h.c1) hb, h.r0.below hb, h.r1.below hb⟩

theorem to_one (o : Ov) (v : Value) (w : World) (hv : Rd w v o.ids) (hn : o.ids.length ≤ 1048576) :
    Calls Try.prog 71 #[.agg (o.cells v)] w fun e w' => ∃ (a : Option Addr) (c : Nat), e = .returned (.agg (o.cells (.slice a o.ids.length c))) ∧ IRow w' w.heap.size w'.heap.size (.slice a o.ids.length c) o.ids ∧ Below w.heap.size w w' :=
  (to_opt o v w hv hn).mono fun e w' ⟨v', he, hi, hb⟩ => by
    obtain ⟨a, c, rfl, -⟩ := hi.rd
    exact ⟨a, c, he, hi, hb⟩

theorem two_all {w W : World} {g0 g1 : Nat} {a b : Ov} {v u : Value} (h : Two W g0 g1 a b v u) (hb : Below w.heap.size w W) :
    Two W g0 g1 a b v u ∧ (loadCells ⟨g0, 0, none⟩ 14).run Try.prog W = .ok (a.cells v) W ∧ (loadCells ⟨g1, 0, none⟩ 14).run Try.prog W = .ok (b.cells u) W ∧ Below w.heap.size w W :=
  ⟨h, Cel.loadRow (show Cel W g0 _ _ from h.c0) 14 (Ov.cells_size _ _), Cel.loadRow (show Cel W g1 _ _ from h.c1) 14 (Ov.cells_size _ _), hb⟩

theorem two_keep3 {w W : World} {g0 g1 : Nat} {a b : Ov} {v u : Value} (h : Two W g0 g1 a b v u ∧ Below w.heap.size w W) :
    Two W.drew g0 g1 a b v u ∧ (loadCells ⟨g0, 0, none⟩ 14).run Try.prog W.drew = .ok (a.cells v) W.drew ∧ (loadCells ⟨g1, 0, none⟩ 14).run Try.prog W.drew = .ok (b.cells u) W.drew ∧ Below w.heap.size w W.drew :=
  two_all ⟨h.1.c0, h.1.c1, h.1.r0, h.1.r1⟩ h.2.drew

theorem two_keep {w W W' : World} {g0 g1 : Nat} {a b : Ov} {v u : Value} (h : Two W g0 g1 a b v u ∧ (loadCells ⟨g0, 0, none⟩ 14).run Try.prog W = .ok (a.cells v) W ∧ (loadCells ⟨g1, 0, none⟩ 14).run Try.prog W = .ok (b.cells u) W ∧ Below w.heap.size w W) (hb : Below W.heap.size W W') :
    Two W' g0 g1 a b v u ∧ (loadCells ⟨g0, 0, none⟩ 14).run Try.prog W' = .ok (a.cells v) W' ∧ (loadCells ⟨g1, 0, none⟩ 14).run Try.prog W' = .ok (b.cells u) W' ∧ Below w.heap.size w W' :=
  two_all (h.1.kept hb) (Below.then_ h.2.2.2 hb)

/-- An option of the call's own. -/
structure Own (W : World) (g : Nat) (o : Ov) (x : Value) : Prop where
  c : W.heap[g]? = some (.cells (o.cells x) 26 (0, 0))
  r : Rd W x o.ids

theorem Own.kept {W W' : World} {g : Nat} {o : Ov} {x : Value} (h : Own W g o x) (hb : Below W.heap.size W W') : Own W' g o x :=
  ⟨Cel.kept (show Cel W g _ _ from h.c) hb, h.r.below hb⟩

theorem own_new {W w : World} {o : Ov} {x : Value} {old : Array Value} (hx : IRow W w.heap.size W.heap.size x o.ids) : Own ((W.alloc (.cells old 26)).setRow W.heap.size (o.cells x)) W.heap.size o x :=
  ⟨(new_row W _ old _).1, (hx.keep (new_row W 26 old (o.cells x)).2 (Nat.le_refl _)).rd⟩

theorem eight_all {w W : World} {g0 g1 g2 g3 : Nat} {a b : Ov} {v u x y : Value} (h : Two W g0 g1 a b v u) (hb : Below w.heap.size w W) (hx : Own W g2 a x) (hy : Own W g3 b y) :
    Two W g0 g1 a b v u ∧ (loadCells ⟨g0, 0, none⟩ 14).run Try.prog W = .ok (a.cells v) W ∧ (loadCells ⟨g1, 0, none⟩ 14).run Try.prog W = .ok (b.cells u) W ∧ Below w.heap.size w W ∧ Own W g2 a x ∧ Own W g3 b y ∧
      (loadCells ⟨g2, 0, none⟩ 14).run Try.prog W = .ok (a.cells x) W ∧ (loadCells ⟨g3, 0, none⟩ 14).run Try.prog W = .ok (b.cells y) W :=
  ⟨h, Cel.loadRow (show Cel W g0 _ _ from h.c0) 14 (Ov.cells_size _ _), Cel.loadRow (show Cel W g1 _ _ from h.c1) 14 (Ov.cells_size _ _), hb, hx, hy, Cel.loadRow (show Cel W g2 _ _ from hx.c) 14 (Ov.cells_size _ _), Cel.loadRow (show Cel W g3 _ _ from hy.c) 14 (Ov.cells_size _ _)⟩

theorem eight_keep {w W W' : World} {g0 g1 g2 g3 : Nat} {a b : Ov} {v u x y : Value}
    (h : Two W g0 g1 a b v u ∧ (loadCells ⟨g0, 0, none⟩ 14).run Try.prog W = .ok (a.cells v) W ∧ (loadCells ⟨g1, 0, none⟩ 14).run Try.prog W = .ok (b.cells u) W ∧ Below w.heap.size w W ∧ Own W g2 a x ∧ Own W g3 b y ∧
      (loadCells ⟨g2, 0, none⟩ 14).run Try.prog W = .ok (a.cells x) W ∧ (loadCells ⟨g3, 0, none⟩ 14).run Try.prog W = .ok (b.cells y) W) (hb : Below W.heap.size W W') :
    Two W' g0 g1 a b v u ∧ (loadCells ⟨g0, 0, none⟩ 14).run Try.prog W' = .ok (a.cells v) W' ∧ (loadCells ⟨g1, 0, none⟩ 14).run Try.prog W' = .ok (b.cells u) W' ∧ Below w.heap.size w W' ∧ Own W' g2 a x ∧ Own W' g3 b y ∧
      (loadCells ⟨g2, 0, none⟩ 14).run Try.prog W' = .ok (a.cells x) W' ∧ (loadCells ⟨g3, 0, none⟩ 14).run Try.prog W' = .ok (b.cells y) W' :=
  eight_all (h.1.kept hb) (Below.then_ h.2.2.2.1 hb) (h.2.2.2.2.1.kept hb) (h.2.2.2.2.2.1.kept hb)

theorem eight_drew {w W : World} {g0 g1 g2 g3 : Nat} {a b : Ov} {v u x y : Value}
    (h : Two W g0 g1 a b v u ∧ (loadCells ⟨g0, 0, none⟩ 14).run Try.prog W = .ok (a.cells v) W ∧ (loadCells ⟨g1, 0, none⟩ 14).run Try.prog W = .ok (b.cells u) W ∧ Below w.heap.size w W ∧ Own W g2 a x ∧ Own W g3 b y ∧
      (loadCells ⟨g2, 0, none⟩ 14).run Try.prog W = .ok (a.cells x) W ∧ (loadCells ⟨g3, 0, none⟩ 14).run Try.prog W = .ok (b.cells y) W) :
    Two W.drew g0 g1 a b v u ∧ (loadCells ⟨g0, 0, none⟩ 14).run Try.prog W.drew = .ok (a.cells v) W.drew ∧ (loadCells ⟨g1, 0, none⟩ 14).run Try.prog W.drew = .ok (b.cells u) W.drew ∧ Below w.heap.size w W.drew ∧ Own W.drew g2 a x ∧ Own W.drew g3 b y ∧
      (loadCells ⟨g2, 0, none⟩ 14).run Try.prog W.drew = .ok (a.cells x) W.drew ∧ (loadCells ⟨g3, 0, none⟩ 14).run Try.prog W.drew = .ok (b.cells y) W.drew :=
  eight_all ⟨h.1.c0, h.1.c1, h.1.r0, h.1.r1⟩ h.2.2.2.1.drew ⟨h.2.2.2.2.1.c, h.2.2.2.2.1.r⟩ ⟨h.2.2.2.2.2.1.c, h.2.2.2.2.2.1.r⟩
end Go.Proofs.Ytkpajakangaekab

