import Derived.Test.YtnlbeoifmdfbjaaDoorOv
import Derived.Test.YtnlbeoifmdfbjaaDoorRw
import Derived.Lib.Hide
namespace Go.Proofs.YtnlbeoifmdfbjaaDoor
open Go.RowKit

theorem sz_ints (v : Value) (zs : List Int) (left : Int) (w : World) (hv : Rd w v zs) (h0 : 0 ≤ left) (h1 : left ≤ 1048576) (hn : zs.length ≤ 9223372036854775807) :
    Calls Tryd.prog 29 #[v, .int .i64 left] w fun e w' => e = .returned (.int .i64 (if (zs.length : Int) ≤ left then left - zs.length else -1)) ∧ w = w' := by
  obtain ⟨a, c, rfl, -⟩ := hv
  by_cases h : (zs.length : Int) ≤ left
  · rw [if_pos h]
    have q : ¬ (left - (zs.length : Int) < 0) := by omega
    go_enter Tryd.func29, Tryd.ntmps29
    go_wp2_with (fail)
    go_ret
    exact ⟨rfl, rfl⟩
  · rw [if_neg h]
    have q : (left - (zs.length : Int) < 0) := by omega
    go_enter Tryd.func29, Tryd.ntmps29
    go_wp2_with (fail)
    go_ret
    exact ⟨rfl, rfl⟩

/-- What is left of a bound behind an option. -/
def szOv (o : Ov) (left : Int) : Int := if (o.key.size : Int) + o.mark.size + o.ids.length ≤ left then left - o.key.size - o.mark.size - o.ids.length else -1

set_option maxHeartbeats 400000 in
theorem sz_opt (o : Ov) (v : Value) (left : Int) (w : World) (hv : Rd w v o.ids) (h0 : 0 ≤ left) (h1 : left ≤ 1048576) (hk : o.key.size ≤ 9223372036854775807) (hm : o.mark.size ≤ 9223372036854775807) (hn : o.ids.length ≤ 9223372036854775807) :
    Calls Tryd.prog 17 #[.agg (o.cells v), .int .i64 left] w fun e w' => e = .returned (.int .i64 (szOv o left)) ∧ Below w.heap.size w w' := by
  have hB : Below w.heap.size w (w.alloc (.cells (o.cells v) 48)) := (Below.refl _ _).alloc (Nat.le_refl _) _
  have c1 := fun l h0 h1 => sz_ints v o.ids l _ (hv.below hB) h0 h1 (by omega)
  obtain ⟨va, vc, rfl, -⟩ := hv
  obtain ⟨a0, a1, a2, a3, a4, a5, a6, a7, a8, a9, a10, a11, a12, a13⟩ := o.ats (.slice va o.ids.length vc)
  clear a0 a1 a2 a3 a4 a5 a6 a7 a8 a9 a10
  generalize hr : szOv o left = r
  have HR := Lib.hid hr
  clear hr
  have q0 : (0 : Int) ≤ o.key.size := by omega
  have q1 : (0 : Int) ≤ o.mark.size := by omega
  by_cases hk1 : (o.key.size : Int) ≤ left
  · have k1 : ¬ (left - (o.key.size : Int) < 0) := by omega
    by_cases hm1 : (o.mark.size : Int) ≤ left - o.key.size
    · have k2 : ¬ (left - (o.key.size : Int) - (o.mark.size : Int) < 0) := by omega
      have c2 := c1 (left - o.key.size - o.mark.size) (by omega) (by omega)
      by_cases hi1 : (o.ids.length : Int) ≤ left - o.key.size - o.mark.size
      · rw [if_pos hi1] at c2
        have k3 : ¬ (left - (o.key.size : Int) - (o.mark.size : Int) - (o.ids.length : Int) < 0) := by omega
        clear c1
        go_enter Tryd.func17, Tryd.ntmps17
        go_wp2_with (fail)
        with_reducible refine c2.mono ?_
        rintro e w1 ⟨rfl, rfl⟩
        go_wp2_with (fail)
        go_ret
        exact ⟨by rw [← HR.out]; unfold szOv; rw [if_pos (by omega)]; rfl, hB⟩
      · rw [if_neg hi1] at c2
        clear c1
        go_enter Tryd.func17, Tryd.ntmps17
        go_wp2_with (fail)
        with_reducible refine c2.mono ?_
        rintro e w1 ⟨rfl, rfl⟩
        go_wp2_with (fail)
        go_ret
        exact ⟨by rw [← HR.out]; unfold szOv; rw [if_neg (by omega)]; rfl, hB⟩
    · have k2 : (left - (o.key.size : Int) - (o.mark.size : Int) < 0) := by omega
      clear c1
      go_enter Tryd.func17, Tryd.ntmps17
      go_wp2_with (fail)
      go_ret
      exact ⟨by rw [← HR.out]; unfold szOv; rw [if_neg (by omega)]; rfl, hB⟩
  · have k1 : (left - (o.key.size : Int) < 0) := by omega
    clear c1
    go_enter Tryd.func17, Tryd.ntmps17
    go_wp2_with (fail)
    go_ret
    exact ⟨by rw [← HR.out]; unfold szOv; rw [if_neg (by omega)]; rfl, hB⟩

set_option maxRecDepth 100000 in
set_option maxHeartbeats 1000000 in
theorem to_opt (o : Ov) (v : Value) (w : World) (hv : Rd w v o.ids) (hn : o.ids.length ≤ 1048576) :
    Calls Tryd.prog 23 #[.agg (o.cells v)] w fun e w' => ∃ v', e = .returned (.agg (o.cells v')) ∧ IRow w' w.heap.size w'.heap.size v' o.ids ∧ Below w.heap.size w w' := by
  obtain ⟨va, vc, rfl⟩ : ∃ a c, v = .slice a o.ids.length c := by obtain ⟨a, c, h, -⟩ := hv; exact ⟨a, c, h⟩
  have hB0 : Below w.heap.size w (((w.alloc (.cells (o.cells (.slice va o.ids.length vc)) 48)).alloc (.cells (Ov.zero.cells (.slice none 0 0)) 39)).alloc (.cells (o.cells (.slice none 0 0)) 39)) := (((Below.refl _ _).alloc (Nat.le_refl _) _).alloc (by simp) _).alloc (by simp; omega) _
  have hC0 := Cel.new ((w.alloc (.cells (o.cells (.slice va o.ids.length vc)) 48)).alloc (.cells (Ov.zero.cells (.slice none 0 0)) 39)) 39 (o.cells (.slice none 0 0))
  have hD0 := (Cel.new (w.alloc (.cells (o.cells (.slice va o.ids.length vc)) 48)) 39 (Ov.zero.cells (.slice none 0 0))).alloc (.cells (o.cells (.slice none 0 0)) 39)
  have hS0 : (((w.alloc (.cells (o.cells (.slice va o.ids.length vc)) 48)).alloc (.cells (Ov.zero.cells (.slice none 0 0)) 39)).alloc (.cells (o.cells (.slice none 0 0)) 39)).heap.size = w.heap.size + 3 := by simp
  rw [World.size_alloc, World.size_alloc] at hC0
  rw [World.size_alloc] at hD0
  have c1 := to_ints (.slice va o.ids.length vc) o.ids (((w.alloc (.cells (o.cells (.slice va o.ids.length vc)) 48)).alloc (.cells (Ov.zero.cells (.slice none 0 0)) 39)).alloc (.cells (o.cells (.slice none 0 0)) 39)) (hv.below hB0) hn
  have hF := Lib.hid (And.intro hB0 (And.intro hC0 (And.intro hD0 hS0)))
  clear hB0 hC0 hD0 hS0
  obtain ⟨a0, a1, a2, a3, a4, a5, a6, a7, a8, a9, a10, a11, a12, a13⟩ := o.ats (.slice va o.ids.length vc)
  have hz : o.cells (.slice none 0 0) = #[.int .i64 o.kind, .int .i64 o.id, .int .i64 o.addr, .int .i64 o.port, .int .i64 o.token, .int .i64 o.nonce, .int .i64 o.seq, .int .i64 o.sub, .int .i64 o.len, .int .i64 o.ack, .bool o.flag, .string o.key, .string o.mark, .slice none 0 0] := by unfold Ov.cells; rfl
  have hz0 : Ov.zero.cells (.slice none 0 0) = #[.int .i64 0, .int .i64 0, .int .i64 0, .int .i64 0, .int .i64 0, .int .i64 0, .int .i64 0, .int .i64 0, .int .i64 0, .int .i64 0, .bool false, .string ⟨#[]⟩, .string ⟨#[]⟩, .slice none 0 0] := by unfold Ov.cells; rfl
  have HZ := Lib.hid hz
  have HZ0 := Lib.hid hz0
  clear hz hz0
  go_enter Tryd.func23, Tryd.ntmps23
  go_wp2_with (fail)
  clear a0 a1 a2 a3 a4 a5 a6 a7 a8 a9 a10 a11 a12 a13
  rw [← HZ.out, ← HZ0.out]
  with_reducible refine c1.mono ?_
  rintro e w1 ⟨v', rfl, hi, hb1⟩
  obtain ⟨hB0, hC0, hD0, hS0⟩ := hF.out
  clear hF HZ HZ0
  have hsz := hb1.size
  rw [hS0] at hsz hi
  have hC := hC0.kept hb1
  have hD := hD0.kept hb1
  have hB := hB0.trans (hb1.mono (by rw [hS0]; omega))
  clear hC0 hD0 hB0 hS0
  clear hb1 c1
  obtain ⟨ia, ic, rfl⟩ : ∃ a c, v' = .slice a o.ids.length c := by obtain ⟨a, c, h, -⟩ := hi.rd; exact ⟨a, c, h⟩
  have hc13 := hC.cell 13
  have hf13 := hC.frozen 13
  rw [(o.ats (.slice none 0 0)).2.2.2.2.2.2.2.2.2.2.2.2.2] at hc13
  have hC2 := hC.set 13 (.slice ia o.ids.length ic)
  rw [Ov.cells_set] at hC2
  have hD2 := hD.other ⟨w.heap.size + 2, 13, none⟩ (.slice ia o.ids.length ic) (by simp)
  have hD3 := hD2.row (o.cells (.slice ia o.ids.length ic))
  have hB2 := hB.setCell (p := ⟨w.heap.size + 2, 13, none⟩) (by simp) (.slice ia o.ids.length ic)
  have hB3 : Below w.heap.size w ((w1.setCell ⟨w.heap.size + 2, 13, none⟩ (.slice ia o.ids.length ic)).setRow (w.heap.size + 1) (o.cells (.slice ia o.ids.length ic))) :=
    ⟨hB2.os, hB2.tape, hB2.output, by rw [show ∀ (W : World) g cs, (W.setRow g cs).heap.size = W.heap.size from fun W g cs => by simp [World.setRow]]; exact hB2.size, fun k hk => by
      show ((World.heap _).modify _ _)[k]? = _
      rw [Array.getElem?_modify, if_neg (by omega)]
      exact hB2.block k hk⟩
  have hi3 : IRow ((w1.setCell ⟨w.heap.size + 2, 13, none⟩ (.slice ia o.ids.length ic)).setRow (w.heap.size + 1) (o.cells (.slice ia o.ids.length ic))) (w.heap.size + 3) (w.heap.size + 3 + 1) (.slice ia o.ids.length ic) o.ids :=
    hi.keepAt fun g hg => by
      have := (hi.block g hg).1
      show ((World.heap _).modify _ _)[g]? = _
      rw [Array.getElem?_modify, if_neg (by omega)]
      exact Below.heap_setCell _ _ _ _ (by simp; omega)
  have hC3 : (w1.setCell ⟨w.heap.size + 2, 13, none⟩ (.slice ia o.ids.length ic)).heap[w.heap.size + 2]? = some (.cells (o.cells (.slice ia o.ids.length ic)) 39 (0, 0)) := hC2
  have hD4 : (w1.setCell ⟨w.heap.size + 2, 13, none⟩ (.slice ia o.ids.length ic)).heap[w.heap.size + 1]? = some (.cells (Ov.zero.cells (.slice none 0 0)) 39 (0, 0)) := hD2
  have HF := Lib.hid (And.intro hD3 (And.intro hi3 hB3))
  clear hC hD hi hB hv hD2 hD3 hi3 hB3 hB2 hC2
  have one := o.cells_one ia o.ids.length ic
  have hss : (Ov.zero.cells (.slice none 0 0)).size = (o.cells (.slice ia o.ids.length ic)).size := by rw [Ov.cells_size, Ov.cells_size]
  go_wp2_with (first | (with_reducible refine wpList_load_row rfl 39 _ rfl _ rfl 39 _ (0, 0) _ hC3 Tryd.underlying39 rfl (sizeOpt' _ _) ?_) | (with_reducible refine wpList_store_row rfl 39 _ _ rfl _ rfl _ rfl 39 _ hD4 (sizeOpt' _ _) hss one ?_))
  obtain ⟨hD3, hi3, hB3⟩ := HF.out
  refine bodyPost_ret (Cel.result hD3 rfl _ rfl Tryd.underlying39 rfl (sizeOpt' _ _)) rfl ⟨_, rfl, hi3.inside.wider (by omega) (Nat.le_refl _), hB3⟩
end Go.Proofs.YtnlbeoifmdfbjaaDoor
