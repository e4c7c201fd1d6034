import Derived.Test.YtnlbeoifmdfbjaaDoorOto
import Derived.Test.YtnlbeoifmdfbjaaDoorOeq
import Derived.Test.YtnlbeoifmdfbjaaDoorOlx
import Derived.Deep.MidRow
import Derived.StillTailTactics
namespace Go.Proofs.YtnlbeoifmdfbjaaDoor
open Go.RowKit
attribute [-go_sem] loadCells loadCellsFrom

/-- The cells of one option, at a place of a block. -/
def ORow (W : World) (b off : Nat) (o : Ov) (u : Value) : Prop := W.rangeAt b off (o.cells u).toList

theorem ORow.load {W : World} {b off : Nat} {o : Ov} {u : Value} (h : ORow W b off o u) : (loadCells ⟨b, off, none⟩ 14).run Tryd.prog W = .ok (o.cells u) W := by
  have h2 := run_loadCells_list (P := Tryd.prog) W ⟨b, off, none⟩ (o.cells u).toList (fun j v hv => by
    rw [Addr.add_mid]
    exact h j v hv)
  rw [Array.length_toList, Ov.cells_size] at h2
  simpa using h2

theorem ORow.head {W : World} {b off : Nat} {o : Ov} {u : Value} (h : ORow W b off o u) : W.cell? ⟨b, off, none⟩ = some (.int .i64 o.kind) := by
  have := h 0 (.int .i64 o.kind) (by rw [Array.getElem?_toList]; exact (o.ats u).1)
  simpa using this

theorem ORow.lt {W : World} {b off : Nat} {o : Ov} {u : Value} (h : ORow W b off o u) : b < W.heap.size := World.block_lt_of_cell? _ _ h.head

theorem ORow.below {W W' : World} {B b off : Nat} {o : Ov} {u : Value} (h : ORow W b off o u) (hb : Below B W W') (hB : b < B) : ORow W' b off o u := fun j v hv => by
  rw [← h j v hv]
  exact Below.cell hb hB

theorem ORow.block {W W' : World} {b off : Nat} {o : Ov} {u : Value} (h : ORow W b off o u) (hb : W'.heap[b]? = W.heap[b]?) : ORow W' b off o u := fun j v hv => by
  rw [← h j v hv]
  exact World.cell?_of_block hb

/-- A slice of options can be read. -/
def RdO (W : World) (v : Value) (os : List Ov) : Prop :=
  ∃ a c, v = .slice a os.length c ∧ (0 < os.length → ∃ b off, a = some ⟨b, off, none⟩ ∧ ∀ i (h : i < os.length), ∃ u, ORow W b (off + i * 14) os[i] u ∧ Rd W u os[i].ids)

theorem RdO.below {W W' : World} {v : Value} {os : List Ov} (h : RdO W v os) (hb : Below W.heap.size W W') : RdO W' v os := by
  obtain ⟨a, c, rfl, h⟩ := h
  refine ⟨a, c, rfl, fun h0 => ?_⟩
  obtain ⟨b, off, ha, h3⟩ := h h0
  refine ⟨b, off, ha, fun i hi => ?_⟩
  obtain ⟨u, h1, h2⟩ := h3 i hi
  exact ⟨u, h1.below hb h1.lt, h2.below hb⟩

/-- What is left of a bound behind options, one behind the other. -/
def szGo : List Ov → Int → Int
  | [], l => l
  | o :: r, l => if szOv o l < 0 then -1 else szGo r (szOv o l)
def szL (os : List Ov) (left : Int) : Int := if left - (os.length : Int) < 0 then -1 else szGo os (left - (os.length : Int))

theorem szGo_in (os : List Ov) (l : Int) (h0 : 0 ≤ l) (h : ¬ szGo os l < 0) : 0 ≤ szGo os l ∧ szGo os l ≤ l ∧ ∀ o ∈ os, (o.ids.length : Int) ≤ l ∧ (o.key.size : Int) ≤ l ∧ (o.mark.size : Int) ≤ l := by
  induction os generalizing l with
  | nil => exact ⟨h0, Int.le_refl _, fun o ho => by cases ho⟩
  | cons o r ih =>
    unfold szGo at h ⊢
    by_cases h1 : szOv o l < 0
    · rw [if_pos h1] at h; exact absurd (by decide) h
    · rw [if_neg h1] at h ⊢
      obtain ⟨s0, s1, s2, s3, s4⟩ := szOv_in o l h1
      obtain ⟨i0, i1, i2⟩ := ih _ s0 h
      refine ⟨i0, by omega, fun o' ho => ?_⟩
      rcases List.mem_cons.1 ho with rfl | ho
      · exact ⟨s2, s3, s4⟩
      · have := i2 o' ho; omega
theorem szL_in (os : List Ov) (l : Int) (h : ¬ szL os l < 0) : 0 ≤ szL os l ∧ szL os l ≤ l ∧ (os.length : Int) ≤ l ∧ ∀ o ∈ os, (o.ids.length : Int) ≤ l ∧ (o.key.size : Int) ≤ l ∧ (o.mark.size : Int) ≤ l := by
  unfold szL at h ⊢
  by_cases h1 : l - (os.length : Int) < 0
  · rw [if_pos h1] at h; exact absurd (by decide) h
  · rw [if_neg h1] at h ⊢
    obtain ⟨i0, i1, i2⟩ := szGo_in os _ (by omega) h
    exact ⟨i0, by omega, by omega, fun o ho => by have := i2 o ho; omega⟩

theorem getElem_drop_cons {α : Type} (l : List α) (k : Nat) (h : k < l.length) : l.drop k = l[k] :: l.drop (k + 1) := List.drop_eq_getElem_cons h

set_option maxRecDepth 100000 in
set_option maxHeartbeats 1000000 in
theorem sz_opts (v : Value) (os : List Ov) (left : Int) (w : World) (hv : RdO w v os) (h0 : 0 ≤ left) (h1 : left ≤ 1048576) (hn : os.length ≤ 9223372036854775807)
    (hbig : ∀ o ∈ os, o.key.size ≤ 9223372036854775807 ∧ o.mark.size ≤ 9223372036854775807 ∧ o.ids.length ≤ 9223372036854775807) :
    Calls Tryd.prog 9 #[v, .int .i64 left] w fun e w' => e = .returned (.int .i64 (szL os left)) ∧ Below w.heap.size w w' := by
  have hv0 := hv
  obtain ⟨a, c, rfl, hc⟩ := hv
  unfold szL
  by_cases hl : left - (os.length : Int) < 0
  · rw [if_pos hl]
    go_enter Tryd.func9, Tryd.ntmps9
    go_wp2_with (fail)
    go_ret
    exact ⟨rfl, Below.refl _ _⟩
  · rw [if_neg hl]
    generalize hg : szGo os (left - (os.length : Int)) = r
    have HG := Lib.hid hg
    clear hg
    go_enter Tryd.func9, Tryd.ntmps9
    go_wp2_with (fail)
    go_loopw [1, 5] (fun l i wr => ∃ k : Nat, ∃ y : Int, k ≤ os.length ∧ i = .int .i64 k ∧ l = .int .i64 y ∧ (0 ≤ y ∧ y ≤ 1048576) ∧ szGo (os.drop k) y = r ∧ RdO wr (.slice a os.length c) os ∧ Below w.heap.size w wr) (fun _ i _ => os.length - (intOf i).toNat)
    case atStart => exact ⟨0, _, by omega, rfl, rfl, by omega, by rw [List.drop_zero]; exact HG.out, hv0, Below.refl _ _⟩
    case round =>
      clear HG hc hv0
      obtain ⟨k, y, hk, rfl, rfl, hy, hr, hR, hB⟩ := hrel
      by_cases hlt : k < os.length
      · have q : (k : Int) < (os.length : Int) := by omega
        have q2 : (0 : Int) ≤ (k : Int) := by omega
        have hR2 := hR
        obtain ⟨a', c', he, h⟩ := hR
        injection he with e1 e2 e3
        subst e1 e3
        obtain ⟨b, off, ha, h3⟩ := h (by omega)
        subst ha
        obtain ⟨u, r1, r2⟩ := h3 k hlt
        clear h3
        have ld := r1.load
        obtain ⟨b1, b2, b3⟩ := hbig os[k] (List.getElem_mem hlt)
        have cs := sz_opt os[k] u y wr r2 hy.1 hy.2 b1 b2 b3
        rw [getElem_drop_cons os k hlt] at hr
        unfold szGo at hr
        generalize os[k] = o at *
        by_cases hs : szOv o y < 0
        · rw [if_pos hs] at hr
          generalize szOv o y = z at *
          subst hr
          clear h r1 r2 hR2
          go_wp2_with (fail)
          with_reducible refine cs.mono ?_
          rintro e w2 ⟨rfl, hb2⟩
          clear ld cs
          go_wp2_with (fail)
          go_ret
          exact ⟨rfl, Below.then_ hB hb2⟩
        · rw [if_neg hs] at hr
          obtain ⟨s0, s1, -⟩ := szOv_in o y hs
          generalize szOv o y = z at *
          have HR := Lib.hid hr
          clear h r1 r2 hr
          go_wp2_with (fail)
          with_reducible refine cs.mono ?_
          rintro e w2 ⟨rfl, hb2⟩
          have hR3 := hR2.below hb2
          have hB3 := Below.then_ hB hb2
          clear ld cs hR2 hB hb2
          go_wp2_with (fail)
          go_roundw
          case rel => exact ⟨k + 1, z, by omega, by go_num, rfl, by omega, HR.out, hR3, hB3⟩
          case measure => simp [intOf]; omega
      · obtain rfl : k = os.length := by omega
        rw [List.drop_length] at hr
        subst hr
        have q : ¬ (os.length : Int) < (os.length : Int) := by omega
        clear hR
        go_wp2_with (fail)
        go_ret
        exact ⟨rfl, hB⟩

set_option maxRecDepth 100000 in
set_option maxHeartbeats 1000000 in
theorem eq_opts (v u : Value) (os : List Ov) (w : World) (hv : RdO w v os) (hu : RdO w u os) (hn : os.length ≤ 1048576) (hbig : ∀ o ∈ os, o.ids.length ≤ 1048576) :
    Calls Tryd.prog 16 #[v, u] w fun e w' => e = .returned (.bool true) ∧ Below w.heap.size w w' := by
  have hv0 := hv
  have hu0 := hu
  obtain ⟨a, c, rfl, -⟩ := hv
  obtain ⟨a', c', rfl, -⟩ := hu
  go_enter Tryd.func16, Tryd.ntmps16
  go_wp2_with (fail)
  go_loopw [5] (fun i wr => ∃ k : Nat, k ≤ os.length ∧ i = .int .i64 k ∧ RdO wr (.slice a os.length c) os ∧ RdO wr (.slice a' os.length c') os ∧ Below w.heap.size w wr) (fun i _ => os.length - (intOf i).toNat)
  case atStart => exact ⟨0, by omega, rfl, hv0, hu0, Below.refl _ _⟩
  case round =>
    clear hv0 hu0
    obtain ⟨k, hk, rfl, hR, hU, hB⟩ := hrel
    by_cases hlt : k < os.length
    · have q : (k : Int) < (os.length : Int) := by omega
      have q2 : (0 : Int) ≤ (k : Int) := by omega
      have hR2 := hR
      have hU2 := hU
      obtain ⟨_, _, he, h⟩ := hR
      injection he with e1 e2 e3
      subst e1 e3
      obtain ⟨b, off, ha, h3⟩ := h (by omega)
      subst ha
      obtain ⟨x, r1, r2⟩ := h3 k hlt
      clear h3
      obtain ⟨_, _, he, h'⟩ := hU
      injection he with e1 e2 e3
      subst e1 e3
      obtain ⟨b', off', ha, h3⟩ := h' (by omega)
      subst ha
      obtain ⟨x', r1', r2'⟩ := h3 k hlt
      clear h3
      have ce0 := eq_opt os[k] x x' wr.drew r2 r2' (hbig _ (List.getElem_mem hlt))
      have ld : (loadCells ⟨b, off + k * 14, none⟩ 14).run Tryd.prog wr.drew = _ := ORow.load (W := wr.drew) r1
      have ld' : (loadCells ⟨b', off' + k * 14, none⟩ 14).run Tryd.prog wr.drew = _ := ORow.load (W := wr.drew) r1'
      generalize os[k] = o at *
      clear h h' r1 r2 r1' r2'
      go_wp2_with (fail)
      refine wp_region_still_tail 8 (by kernel_rfl) (by kernel_rfl) ?_
      change wpStill _ _ wr.drew (fun a' => wpList _ _ _ _ a' wr.drew) _ _
      have hR2 : RdO wr.drew _ os := hR2
      have hU2 : RdO wr.drew _ os := hU2
      have hB := hB.drew
      generalize wr.drew = W4 at *
      simp only [List.take_succ_cons, List.take_zero, List.drop_succ_cons, List.drop_zero]
      iterate 8 still_step
      refine wpStill_nil ?_
      go_wp2_with (fail)
      with_reducible refine ce0.mono ?_
      rintro e w2 ⟨rfl, hb2⟩
      have hR3 := hR2.below hb2
      have hU3 := hU2.below hb2
      have hB3 := Below.then_ hB hb2
      clear ld ld' ce0 hR2 hU2 hB hb2
      go_wp2_with (fail)
      go_roundw
      case rel => exact ⟨k + 1, by omega, by go_num, hR3, hU3, hB3⟩
      case measure => simp [intOf]; omega
    · obtain rfl : k = os.length := by omega
      have q : ¬ (os.length : Int) < (os.length : Int) := by omega
      clear hR hU
      go_wp2_with (fail)
      go_ret
      exact ⟨rfl, hB⟩
end Go.Proofs.YtnlbeoifmdfbjaaDoor
