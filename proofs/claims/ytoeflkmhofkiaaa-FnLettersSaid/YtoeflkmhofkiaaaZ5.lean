import Derived.Test.YtoeflkmhofkiaaaLdrz
import Derived.Test.YtoeflkmhofkiaaaZ1
import Derived.Test.YtoeflkmhofkiaaaZ3
namespace Go.Proofs.Ytoeflkmhofkiaaa
open Go.RowKit
set_option maxRecDepth 100000

set_option linter.unusedSimpArgs false in
set_option maxRecDepth 100000 in
set_option maxHeartbeats 8000000 in
theorem any_letter_dr (g : Nat) (v : Value) (n : Nat) (w : World) (hd : Dr w g v n) :
    Calls Try.prog 54 #[.pointer (some ⟨g, 0, none⟩)] w fun e w' => ∃ m : Lv, e = .returned (.agg (lvC m)) ∧ m.text.size ≤ 64 ∧ Dr w' g v n ∧ Grew g w w' := by
  have hg := hd.blk
  have hb0 := below_new w (.cells #[.int .i64 0, .int .i64 0, .int .i64 0, .int .i64 0, .int .i64 0, .int .i64 0, .int .i64 0, .int .i64 0, .int .i64 0, .int .i64 0, .int .i64 0, .int .i64 0, .int .i64 0, .int .i64 0, .int .i64 0, .int .i64 0, .bool false, .int .i64 0, .string ⟨#[]⟩] 41)
  have cl := letter_dr g v n _ (hd.kept hb0)
  have HE0 := Lib.hid (And.intro (Cel.new w 41 #[.int .i64 0, .int .i64 0, .int .i64 0, .int .i64 0, .int .i64 0, .int .i64 0, .int .i64 0, .int .i64 0, .int .i64 0, .int .i64 0, .int .i64 0, .int .i64 0, .int .i64 0, .int .i64 0, .int .i64 0, .int .i64 0, .bool false, .int .i64 0, .string ⟨#[]⟩]) (Grew.then (Grew.refl g w) hb0))
  clear hb0 hd
  go_enter Try.func54, Try.ntmps54
  go_wp2_with (fail)
  with_reducible refine cl.mono ?_
  rintro e w1 ⟨m, rfl, hs, hd1, g1⟩
  have HL := Lib.hid (And.intro (LB.make m (HE0.out.1.grew g1 (by omega)) hd1 (HE0.out.2.trans g1) hg) hs)
  have hst := lv_store m (Cel.new w1 41 #[.int .i64 0, .int .i64 0, .int .i64 0, .int .i64 0, .int .i64 0, .int .i64 0, .int .i64 0, .int .i64 0, .int .i64 0, .int .i64 0, .int .i64 0, .int .i64 0, .int .i64 0, .int .i64 0, .int .i64 0, .int .i64 0, .bool false, .int .i64 0, .string ⟨#[]⟩]) rfl
  have hn9 := lvC_size m
  clear HE0 hd1 g1 hs cl
  go_upto_region 2 with (fail)
  clear hst hn9
  generalize (w1.alloc (.cells #[.int .i64 0, .int .i64 0, .int .i64 0, .int .i64 0, .int .i64 0, .int .i64 0, .int .i64 0, .int .i64 0, .int .i64 0, .int .i64 0, .int .i64 0, .int .i64 0, .int .i64 0, .int .i64 0, .int .i64 0, .int .i64 0, .bool false, .int .i64 0, .string ⟨#[]⟩] 41)).setRow w1.heap.size (lvC m) = y0 at *
  generalize w1.heap.size = b3 at *
  have co := bel_dr g v n 12 12 rfl _ HL.out.1.d (by omega) (by omega)
  go_wp2_with (fail)
  with_reducible refine co.mono ?_
  rintro e w2 ⟨r, hr, rfl, d2, o2⟩
  have H2 := Lib.hid (And.intro (HL.out.1.grew o2.grew d2) HL.out.2)
  clear HL co d2 o2 hr
  by_cases h0 : (r : Int) = 0
  · obtain rfl : r = 0 := by omega
    clear h0
    have cp := pick_dr g v n w2 H2.out.1.d 3 #[.int .i64 0, .int .i64 14, .int .i64 13] [0, 14, 13] rfl rfl (by omega) (by omega)
    go_wp2_with (fail)
    with_reducible refine cp.mono ?_
    rintro e w3 ⟨z, hz, rfl, d3, g3⟩
    have H3 := Lib.hid (And.intro (H2.out.1.grew g3 d3) H2.out.2)
    clear H2 cp d3 g3
    have hL5 := H3.out.1
    have q0 : w3.cell? ⟨b3, 0, none⟩ = some (.int .i64 m.kind) := (hL5.c3.cell 0).trans (by rw [lvC_eq]; rfl)
    have f0 := hL5.c3.frozen 0
    have H6 := Lib.hid (show LB w (w3.setCell ⟨b3, 0, none⟩ (.int .i64 z)) g v n b3 (lvC { m with kind := z }) ∧ ({ m with kind := z } : Lv).text.size ≤ 64 from ⟨(hL5.set 0 (.int .i64 z)).of (lvC_kind m z), H3.out.2⟩)
    clear H3 hL5
    go_upto_region 11 with (fail)
    clear q0 f0
    generalize w3.setCell ⟨b3, 0, none⟩ (.int .i64 z) = y6 at *
    replace H6 := Lib.hid (show LB w y6 g v n b3 (lvC { m with kind := z }) ∧ ({ m with kind := z } : Lv).text.size ≤ 64 from H6.out)
    generalize ({ m with kind := z } : Lv) = m6 at *
    have hC3 : y6.heap[b3]? = some (.cells (lvC m6) 41 (0, 0)) := H6.out.1.c3
    have hst := lv_store m6 H6.out.1.c0 rfl
    have hsz := lvC_info m6
    have hn9 := lvC_size m6
    have HF := Lib.hid (And.intro H6.out.1.give H6.out.2)
    clear H6
    go_wp2_with (first | (with_reducible refine wpList_load_row rfl 41 _ rfl _ rfl 41 _ (0, 0) _ hC3 Try.underlying41 rfl hsz ?_))
    exact bodyPost_ret (Cel.result (t := 41) HF.out.1.1 rfl _ rfl Try.underlying41 rfl hsz) rfl ⟨_, rfl, HF.out.2, HF.out.1.2.1, HF.out.1.2.2⟩
  · have q0 : ¬ (r : Int) = 0 := h0
    clear h0
    by_cases h1 : (r : Int) = 1
    · obtain rfl : r = 1 := by omega
      clear h1 q0
      have cp := pick_dr g v n w2 H2.out.1.d 2 #[.int .i64 20, .int .i64 21] [20, 21] rfl rfl (by omega) (by omega)
      go_wp2_with (fail)
      with_reducible refine cp.mono ?_
      rintro e w3 ⟨z, hz, rfl, d3, g3⟩
      have H3 := Lib.hid (And.intro (H2.out.1.grew g3 d3) H2.out.2)
      clear H2 cp d3 g3
      simp only [List.mem_cons, List.not_mem_nil, or_false] at hz
      have ct := spec_long z.toNat 97 w3 (by omega)
      rw [show ((z.toNat : Nat) : Int) = z from Int.toNat_of_nonneg (by omega)] at ct
      have htl : (⟨(List.replicate z.toNat (97 : UInt8)).toArray⟩ : ByteArray).size ≤ 64 := by show (List.replicate z.toNat (97 : UInt8)).toArray.size ≤ 64; simp; omega
      generalize (⟨(List.replicate z.toNat (97 : UInt8)).toArray⟩ : ByteArray) = tx at *
      clear hz
      rw [show (((97 : UInt8).toNat : Nat) : Int) = 97 from rfl] at ct
      go_wp2_with (fail)
      with_reducible refine ct.mono ?_
      rintro e w4 ⟨rfl, b4⟩
      have H4 := Lib.hid (And.intro (H3.out.1.kept b4) H3.out.2)
      clear H3 ct b4
      have hL5 := H4.out.1
      have q18 : w4.cell? ⟨b3, 18, none⟩ = some (.string m.text) := (hL5.c3.cell 18).trans (by rw [lvC_eq]; rfl)
      have f18 := hL5.c3.frozen 18
      have H6 := Lib.hid (show LB w (w4.setCell ⟨b3, 18, none⟩ (.string tx)) g v n b3 (lvC { m with text := tx }) ∧ ({ m with text := tx } : Lv).text.size ≤ 64 from ⟨(hL5.set 18 (.string tx)).of (lvC_text m tx), htl⟩)
      clear H4 hL5
      go_upto_region 11 with (fail)
      clear q18 f18
      generalize w4.setCell ⟨b3, 18, none⟩ (.string tx) = y6 at *
      replace H6 := Lib.hid (show LB w y6 g v n b3 (lvC { m with text := tx }) ∧ ({ m with text := tx } : Lv).text.size ≤ 64 from H6.out)
      generalize ({ m with text := tx } : Lv) = m6 at *
      have hC3 : y6.heap[b3]? = some (.cells (lvC m6) 41 (0, 0)) := H6.out.1.c3
      have hst := lv_store m6 H6.out.1.c0 rfl
      have hsz := lvC_info m6
      have hn9 := lvC_size m6
      have HF := Lib.hid (And.intro H6.out.1.give H6.out.2)
      clear H6
      go_wp2_with (first | (with_reducible refine wpList_load_row rfl 41 _ rfl _ rfl 41 _ (0, 0) _ hC3 Try.underlying41 rfl hsz ?_))
      exact bodyPost_ret (Cel.result (t := 41) HF.out.1.1 rfl _ rfl Try.underlying41 rfl hsz) rfl ⟨_, rfl, HF.out.2, HF.out.1.2.1, HF.out.1.2.2⟩
    · have q1 : ¬ (r : Int) = 1 := h1
      clear h1
      by_cases h2 : (r : Int) = 2
      · obtain rfl : r = 2 := by omega
        clear h2 q0 q1
        have cp := pick_dr g v n w2 H2.out.1.d 2 #[.int .i64 (-1), .int .i64 1000000001] [-1, 1000000001] rfl rfl (by omega) (by omega)
        go_wp2_with (fail)
        with_reducible refine cp.mono ?_
        rintro e w3 ⟨z, hz, rfl, d3, g3⟩
        have H3 := Lib.hid (And.intro (H2.out.1.grew g3 d3) H2.out.2)
        clear H2 cp d3 g3
        have hL5 := H3.out.1
        have q8 : w3.cell? ⟨b3, 8, none⟩ = some (.int .i64 m.sign) := (hL5.c3.cell 8).trans (by rw [lvC_eq]; rfl)
        have f8 := hL5.c3.frozen 8
        have H6 := Lib.hid (show LB w (w3.setCell ⟨b3, 8, none⟩ (.int .i64 z)) g v n b3 (lvC { m with sign := z }) ∧ ({ m with sign := z } : Lv).text.size ≤ 64 from ⟨(hL5.set 8 (.int .i64 z)).of (lvC_sign m z), H3.out.2⟩)
        clear H3 hL5
        go_upto_region 11 with (fail)
        clear q8 f8
        generalize w3.setCell ⟨b3, 8, none⟩ (.int .i64 z) = y6 at *
        replace H6 := Lib.hid (show LB w y6 g v n b3 (lvC { m with sign := z }) ∧ ({ m with sign := z } : Lv).text.size ≤ 64 from H6.out)
        generalize ({ m with sign := z } : Lv) = m6 at *
        have hC3 : y6.heap[b3]? = some (.cells (lvC m6) 41 (0, 0)) := H6.out.1.c3
        have hst := lv_store m6 H6.out.1.c0 rfl
        have hsz := lvC_info m6
        have hn9 := lvC_size m6
        have HF := Lib.hid (And.intro H6.out.1.give H6.out.2)
        clear H6
        go_wp2_with (first | (with_reducible refine wpList_load_row rfl 41 _ rfl _ rfl 41 _ (0, 0) _ hC3 Try.underlying41 rfl hsz ?_))
        exact bodyPost_ret (Cel.result (t := 41) HF.out.1.1 rfl _ rfl Try.underlying41 rfl hsz) rfl ⟨_, rfl, HF.out.2, HF.out.1.2.1, HF.out.1.2.2⟩
      · have q2 : ¬ (r : Int) = 2 := h2
        clear h2
        by_cases h3 : (r : Int) = 3
        · obtain rfl : r = 3 := by omega
          clear h3 q0 q1 q2
          have hL5 := H2.out.1
          have q12 : w2.cell? ⟨b3, 12, none⟩ = some (.int .i64 m.tag.a) := (hL5.c3.cell 12).trans (by rw [lvC_eq]; rfl)
          have f12 := hL5.c3.frozen 12
          have H6 := Lib.hid (show LB w (w2.setCell ⟨b3, 12, none⟩ (.int .i64 (-1))) g v n b3 (lvC { m with tag := { m.tag with a := -1 } }) ∧ ({ m with tag := { m.tag with a := -1 } } : Lv).text.size ≤ 64 from ⟨(hL5.set 12 (.int .i64 (-1))).of (lvC_taga m (-1)), H2.out.2⟩)
          clear H2 hL5
          go_upto_region 11 with (fail)
          clear q12 f12
          generalize w2.setCell ⟨b3, 12, none⟩ (.int .i64 (-1)) = y6 at *
          replace H6 := Lib.hid (show LB w y6 g v n b3 (lvC { m with tag := { m.tag with a := -1 } }) ∧ ({ m with tag := { m.tag with a := -1 } } : Lv).text.size ≤ 64 from H6.out)
          generalize ({ m with tag := { m.tag with a := -1 } } : Lv) = m6 at *
          have hC3 : y6.heap[b3]? = some (.cells (lvC m6) 41 (0, 0)) := H6.out.1.c3
          have hst := lv_store m6 H6.out.1.c0 rfl
          have hsz := lvC_info m6
          have hn9 := lvC_size m6
          have HF := Lib.hid (And.intro H6.out.1.give H6.out.2)
          clear H6
          go_wp2_with (first | (with_reducible refine wpList_load_row rfl 41 _ rfl _ rfl 41 _ (0, 0) _ hC3 Try.underlying41 rfl hsz ?_))
          exact bodyPost_ret (Cel.result (t := 41) HF.out.1.1 rfl _ rfl Try.underlying41 rfl hsz) rfl ⟨_, rfl, HF.out.2, HF.out.1.2.1, HF.out.1.2.2⟩
        · have q3 : ¬ (r : Int) = 3 := h3
          clear h3
          go_upto_region 11 with (fail)
          clear q0 q1 q2 q3
          have hC3 : w2.heap[b3]? = some (.cells (lvC m) 41 (0, 0)) := H2.out.1.c3
          have hst := lv_store m H2.out.1.c0 rfl
          have hsz := lvC_info m
          have hn9 := lvC_size m
          have HF := Lib.hid (And.intro H2.out.1.give H2.out.2)
          clear H2
          go_wp2_with (first | (with_reducible refine wpList_load_row rfl 41 _ rfl _ rfl 41 _ (0, 0) _ hC3 Try.underlying41 rfl hsz ?_))
          exact bodyPost_ret (Cel.result (t := 41) HF.out.1.1 rfl _ rfl Try.underlying41 rfl hsz) rfl ⟨_, rfl, HF.out.2, HF.out.1.2.1, HF.out.1.2.2⟩
end Go.Proofs.Ytoeflkmhofkiaaa

namespace Go.Proofs.Ytoeflkmhofkiaaa
open Go.RowKit
set_option maxRecDepth 100000

theorem results_cc {fn : Func} {p u : Tmp} {ty tu : TypeId} (h : fn.results = #[.cell p ty, .cell u tu]) (tmps : Array Value) (P : Program) (w : World) :
    (results fn tmps).run P w =
      ((asAddr (tmps.getD p undef)).run P w).andThen fun a w₁ => ((loadVar ty a).run P w₁).andThen fun v w₂ => ((asAddr (tmps.getD u undef)).run P w₂).andThen fun b w₃ => ((loadVar tu b).run P w₃).andThen fun x w₄ => .ok (.tuple #[v, x]) w₄ := by
  simp only [results, h]
  simp [Sem.run_bind, Result.andThen]
theorem rl_result {W : World} {g g2 : Nat} {x0 x1 x2 : Value} {m : Lv} (h : Cel W g 26 #[x0, x1, x2]) (h2 : Cel W g2 41 (lvC m)) {fn : Func} {p u : Tmp} (hr : fn.results = #[.cell p 26, .cell u 41]) (tmps : Array Value) (hp : tmps.getD p undef = .pointer (some ⟨g, 0, none⟩)) (hu : tmps.getD u undef = .pointer (some ⟨g2, 0, none⟩)) :
    (results fn tmps).run Try.prog W = .ok (.tuple #[.agg #[x0, x1, x2], .agg (lvC m)]) W := by
  rw [results_cc hr, hp, hu]
  simp [asAddr, run_loadVar_row W g 26 26 _ (0, 0) _ h Try.underlying26 rfl (show _ = some 3 by kernel_rfl), run_loadVar_row W g2 41 41 _ (0, 0) _ h2 Try.underlying41 rfl (lvC_info m), Result.andThen]
/-- While a road and a message are drawn. -/
structure RB (w W : World) (g b5 : Nat) (r : Rv) (x0 x1 : Array Value) : Prop where
  c0 : Cel W w.heap.size 26 x0
  c1 : Cel W (w.heap.size + 1) 41 x1
  c5 : Cel W b5 26 #[.int .i64 r.own, .int .i64 r.far, .int .i64 r.port]
  b : Below w.heap.size w W
  hg : g = w.heap.size + 2
  l5 : w.heap.size + 3 ≤ b5
section
variable {w W W' : World} {g b5 : Nat} {r : Rv} {x0 x1 : Array Value}
theorem RB.grew (h : RB w W g b5 r x0 x1) (ho : Grew g W W') : RB w W' g b5 r x0 x1 :=
  have h1 := h.hg
  have h2 := h.l5
  ⟨h.c0.grew ho (by omega), h.c1.grew ho (by omega), h.c5.grew ho (by omega), h.b.trans (ho.below (by omega) h.b.size), h.hg, h.l5⟩
theorem RB.kept (h : RB w W g b5 r x0 x1) (hb : Below W.heap.size W W') : RB w W' g b5 r x0 x1 :=
  ⟨h.c0.kept hb, h.c1.kept hb, h.c5.kept hb, Below.then_ h.b hb, h.hg, h.l5⟩
theorem RB.put0 (h : RB w W g b5 r #[.int .i64 0, .int .i64 0, .int .i64 0] x1) (u0 u1 u2 : Value) : RB w (((W.setCell ⟨w.heap.size, 0, none⟩ u0).setCell ⟨w.heap.size, 1, none⟩ u1).setCell ⟨w.heap.size, 2, none⟩ u2) g b5 r #[u0, u1, u2] x1 := by
  have h2 := h.l5
  have hB : Below w.heap.size W (((W.setCell ⟨w.heap.size, 0, none⟩ u0).setCell ⟨w.heap.size, 1, none⟩ u1).setCell ⟨w.heap.size, 2, none⟩ u2) := esetC_below _ _ (Nat.le_refl _) 0 [u0, u1, u2] W
  have ho : ∀ i, i ≠ w.heap.size → (((W.setCell ⟨w.heap.size, 0, none⟩ u0).setCell ⟨w.heap.size, 1, none⟩ u1).setCell ⟨w.heap.size, 2, none⟩ u2).heap[i]? = W.heap[i]? := fun i hi => esetC_other _ 0 [u0, u1, u2] W i hi
  exact ⟨((h.c0.set 0 u0).set 1 u1).set 2 u2, (ho _ (by omega)).trans h.c1, (ho _ (by omega)).trans h.c5, h.b.trans hB, h.hg, h.l5⟩
theorem RB.put1 (h : RB w W g b5 r x0 x1) (cs : Array Value) : RB w (W.setRow (w.heap.size + 1) cs) g b5 r x0 cs := by
  have h2 := h.l5
  have ho : ∀ i, i ≠ w.heap.size + 1 → (W.setRow (w.heap.size + 1) cs).heap[i]? = W.heap[i]? := fun i hi => by
    show ((World.heap _).modify _ _)[i]? = _
    rw [Array.getElem?_modify, if_neg (by omega)]
  exact ⟨(ho _ (by omega)).trans h.c0, Cel.row (t := 41) h.c1 cs, (ho _ (by omega)).trans h.c5, below_row h.b (by omega) cs, h.hg, h.l5⟩
end

set_option linter.unusedSimpArgs false in
set_option maxRecDepth 100000 in
set_option maxHeartbeats 8000000 in
theorem draw_between (v : Value) (n : Nat) (w : World) (hv : RdB w v n) (hn : n ≤ 1048576) :
    Calls Try.prog 20 #[v] w fun e w' => ∃ (r : Rv) (m : Lv), e = .returned (.tuple #[.agg #[.int .i64 r.own, .int .i64 r.far, .int .i64 r.port], .agg (lvC m)]) ∧ m.text.size ≤ 64 ∧ Below w.heap.size w w' := by
  have b1 := below_new w (.cells #[.int .i64 0, .int .i64 0, .int .i64 0] 26)
  have b2 := below_new (w.alloc (.cells #[.int .i64 0, .int .i64 0, .int .i64 0] 26)) (.cells #[.int .i64 0, .int .i64 0, .int .i64 0, .int .i64 0, .int .i64 0, .int .i64 0, .int .i64 0, .int .i64 0, .int .i64 0, .int .i64 0, .int .i64 0, .int .i64 0, .int .i64 0, .int .i64 0, .int .i64 0, .int .i64 0, .bool false, .int .i64 0, .string ⟨#[]⟩] 41)
  have hC0 := (Cel.new w 26 #[.int .i64 0, .int .i64 0, .int .i64 0]).kept b2
  have hC1 := Cel.new (w.alloc (.cells #[.int .i64 0, .int .i64 0, .int .i64 0] 26)) 41 #[.int .i64 0, .int .i64 0, .int .i64 0, .int .i64 0, .int .i64 0, .int .i64 0, .int .i64 0, .int .i64 0, .int .i64 0, .int .i64 0, .int .i64 0, .int .i64 0, .int .i64 0, .int .i64 0, .int .i64 0, .int .i64 0, .bool false, .int .i64 0, .string ⟨#[]⟩]
  have hB := Below.then_ b1 b2
  have hz : ((w.alloc (.cells #[.int .i64 0, .int .i64 0, .int .i64 0] 26)).alloc (.cells #[.int .i64 0, .int .i64 0, .int .i64 0, .int .i64 0, .int .i64 0, .int .i64 0, .int .i64 0, .int .i64 0, .int .i64 0, .int .i64 0, .int .i64 0, .int .i64 0, .int .i64 0, .int .i64 0, .int .i64 0, .int .i64 0, .bool false, .int .i64 0, .string ⟨#[]⟩] 41)).heap.size = w.heap.size + 2 := by simp
  have cN := new_dr v n _ (hv.below hB hv.lt) hn
  rw [hz] at cN
  simp only [World.size_alloc] at hC1
  have HE := Lib.hid (And.intro hB (And.intro hC0 (And.intro hC1 hz)))
  clear b1 b2 hC0 hC1 hB hv hz
  go_enter Try.func20, Try.ntmps20
  go_wp2_with (fail)
  generalize (w.alloc (.cells #[.int .i64 0, .int .i64 0, .int .i64 0] 26)).alloc (.cells #[.int .i64 0, .int .i64 0, .int .i64 0, .int .i64 0, .int .i64 0, .int .i64 0, .int .i64 0, .int .i64 0, .int .i64 0, .int .i64 0, .int .i64 0, .int .i64 0, .int .i64 0, .int .i64 0, .int .i64 0, .int .i64 0, .bool false, .int .i64 0, .string ⟨#[]⟩] 41) = w0 at *
  with_reducible refine cN.mono ?_
  rintro e w1 ⟨rfl, d1, hb1⟩
  have hz1 := d1.blk
  have cR := road_dr _ v n w1 d1
  clear cN d1
  go_wp2_with (fail)
  with_reducible refine cR.mono ?_
  rintro e w2 ⟨r, rfl, d2, g2⟩
  have hbx := below_new w2 (.cells #[.int .i64 r.own, .int .i64 r.far, .int .i64 r.port] 26)
  have HD := Lib.hid (d2.kept hbx)
  have HK : Hid (RB w (w2.alloc (.cells #[.int .i64 r.own, .int .i64 r.far, .int .i64 r.port] 26)) (w.heap.size + 2) w2.heap.size r #[.int .i64 0, .int .i64 0, .int .i64 0] #[.int .i64 0, .int .i64 0, .int .i64 0, .int .i64 0, .int .i64 0, .int .i64 0, .int .i64 0, .int .i64 0, .int .i64 0, .int .i64 0, .int .i64 0, .int .i64 0, .int .i64 0, .int .i64 0, .int .i64 0, .int .i64 0, .bool false, .int .i64 0, .string ⟨#[]⟩]) := Lib.hid (by
    obtain ⟨e1, e2, e3, e4⟩ := HE.out
    have hg := g2.size
    exact ⟨((e2.below hb1 (by omega)).grew g2 (by omega)).kept hbx, ((e3.below hb1 (by omega)).grew g2 (by omega)).kept hbx, Cel.new _ _ _, Below.then_ ((e1.trans (hb1.mono (by omega))).trans (g2.below (by omega) (by omega))) hbx, rfl, by omega⟩)
  clear d2 g2 hbx HE hb1 hz1 cR
  go_upto_region 3 with (fail)
  generalize w2.alloc (.cells #[.int .i64 r.own, .int .i64 r.far, .int .i64 r.port] 26) = w3 at *
  generalize w2.heap.size = b5 at *
  have HN := Lib.hid (HK.out.kept (show Below _ _ (World.drew _) from (Below.refl _ _).drew))
  have HDN := Lib.hid (show Dr w3.drew (w.heap.size + 2) v n from HD.out.kept (show Below _ _ (World.drew _) from (Below.refl _ _).drew))
  have hS := HN.out.c5
  clear HK HD
  refine wp_region_held_drew (S := fun W => Cel W b5 26 #[.int .i64 r.own, .int .i64 r.far, .int .i64 r.port]) (by kernel_rfl) hS (fun hHeld => ?_)
  clear hS
  generalize w3.drew = wd at *
  refine take_yes (i := 0) (oi := { dst := some 10, op := Op.load 26 (Operand.tmp 5), type := 26, pos := "l16_letters.go:63", after := #[], guard := none }) (v := .agg #[.int .i64 r.own, .int .i64 r.far, .int .i64 r.port]) rfl (by kernel_rfl) (by kernel_rfl) (by kernel_rfl) (fun _ _ _ h => h) (by rfl) (fun w hSw => by (try dsimp only at hSw); obtain ⟨c0, c1, c2⟩ := cel3r hSw; go_simp) (by assumption) ?_
  try simp only [Act.put, List.setIfInBounds_toArray, List.set_cons_zero, List.set_cons_succ]
  refine take_yes (i := 1) (oi := { dst := some 11, op := Op.move (Operand.tmp 4), type := 69, pos := "l16_letters.go:63", after := #[], guard := none }) (v := .pointer (some ⟨w.heap.size + 2, 0, none⟩)) rfl (by kernel_rfl) (by kernel_rfl) (by kernel_rfl) (fun _ _ _ h => h) (by rfl) (fun w hSw => by (try dsimp only at hSw); go_simp) (by assumption) ?_
  try simp only [Act.put, List.setIfInBounds_toArray, List.set_cons_zero, List.set_cons_succ]
  refine wpAnyH_ready (rs := [2]) (by kernel_rfl) (by simp) ?_
  refine AllReadyH.cons (o := { dst := some 12, op := Op.call { callee := Callee.value (Operand.func 54), args := #[Operand.tmp 11], argTypes := #[69] }, type := 41, pos := "l16_letters.go:63", after := #[{ on := 1, ground := Ground.data }], guard := none }) rfl (fun K hK => ?_) AllReadyH.nil
  have hDd := HDN.out
  go_simp
  with_reducible refine (any_letter_dr _ v n _ hDd).mono ?_
  rintro e wx2 ⟨m, rfl, hm, d6, g6⟩
  have HN1 := Lib.hid (HN.out.grew g6)
  have HM := Lib.hid hm
  clear HN hDd d6 g6 hm HDN
  refine hK.out _ _ HN1.out.c5 (fun hHeldN => ?_)
  clear hK K hHeld
  have hHeld := hHeldN
  clear hHeldN
  try simp only [Act.put, List.setIfInBounds_toArray, List.set_cons_zero, List.set_cons_succ]
  refine wpAnyH_ready (rs := [3]) (by kernel_rfl) (by simp) ?_
  refine AllReadyH.cons (o := { dst := none, op := Op.store 26 (Operand.tmp 2) (Operand.tmp 10), type := 0, pos := "l16_letters.go:63", after := #[{ on := 0, ground := Ground.data }, { on := 2, ground := Ground.chain }, { on := 0, ground := Ground.phase }, { on := 1, ground := Ground.textOnly Departure.lateStores }, { on := 2, ground := Ground.textOnly Departure.lateStoresUnsure }], guard := none }) rfl (fun K hK => ?_) AllReadyH.nil
  obtain ⟨z0, z1, z2⟩ := cel3r HN1.out.c0
  have f0 := HN1.out.c0.frozen 0
  have f1 := HN1.out.c0.frozen 1
  have f2 := HN1.out.c0.frozen 2
  go_simp
  clear z0 z1 z2 f0 f1 f2
  have HN3 := Lib.hid (HN1.out.put0 (.int .i64 r.own) (.int .i64 r.far) (.int .i64 r.port))
  clear HN1
  generalize (((wx2.setCell ⟨w.heap.size, 0, none⟩ (.int .i64 r.own)).setCell ⟨w.heap.size, 1, none⟩ (.int .i64 r.far)).setCell ⟨w.heap.size, 2, none⟩ (.int .i64 r.port)) = wx4 at *
  refine hK.out _ _ HN3.out.c5 (fun hHeldN => ?_)
  clear hK K hHeld
  have hHeld := hHeldN
  clear hHeldN
  try simp only [Act.put, List.setIfInBounds_toArray, List.set_cons_zero, List.set_cons_succ]
  refine wpAnyH_ready (rs := [4]) (by kernel_rfl) (by simp) ?_
  refine AllReadyH.cons (o := { dst := none, op := Op.store 41 (Operand.tmp 3) (Operand.tmp 12), type := 0, pos := "l16_letters.go:63", after := #[{ on := 2, ground := Ground.data }, { on := 3, ground := Ground.chain }, { on := 0, ground := Ground.phase }, { on := 1, ground := Ground.phase }, { on := 2, ground := Ground.phase }, { on := 3, ground := Ground.phase }], guard := none }) rfl (fun K hK => ?_) AllReadyH.nil
  refine step_store_row rfl 41 _ _ rfl (w.heap.size + 1) (lvC m) (by simp [Act.eval, Act.put]) (by simp [Act.eval, Act.put]) 41 #[.int .i64 0, .int .i64 0, .int .i64 0, .int .i64 0, .int .i64 0, .int .i64 0, .int .i64 0, .int .i64 0, .int .i64 0, .int .i64 0, .int .i64 0, .int .i64 0, .int .i64 0, .int .i64 0, .int .i64 0, .int .i64 0, .bool false, .int .i64 0, .string ⟨#[]⟩] HN3.out.c1 (lvC_info m) (lvC_size m).symm (lvC_all m) ?_
  have HN5 := Lib.hid (HN3.out.put1 (lvC m))
  clear HN3
  generalize wx4.setRow (w.heap.size + 1) (lvC m) = wx6 at *
  refine hK.out _ _ HN5.out.c5 (fun hHeldN => ?_)
  clear hK K hHeld
  have hHeld := hHeldN
  clear hHeldN
  try simp only [Act.put, List.setIfInBounds_toArray, List.set_cons_zero, List.set_cons_succ]
  refine wpAnyH_done (by kernel_rfl) ?_ _
  have hHeld2 := hHeld
  clear hHeld
  clear hHeld2
  go_wp2_with (fail)
  refine bodyPost_ret (rl_result HN5.out.c0 HN5.out.c1 rfl _ rfl rfl) rfl ?_
  exact ⟨r, m, rfl, HM.out, HN5.out.b⟩
end Go.Proofs.Ytoeflkmhofkiaaa

