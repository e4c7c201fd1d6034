import Derived.Test.YtkpajakangaekabMgO
import Derived.Deep.MidRow
import Derived.StillTailTactics
import Derived.Lib.Hide
namespace Go.Proofs.Ytkpajakangaekab
open Go.RowKit
attribute [-go_sem] loadCells loadCellsFrom

/-- The cells of one option, at a place of a block. -/
def ORow (W : World) (b off : Nat) (o : Ov) (u : Value) : Prop := W.rangeAt b off (o.cells u).toList

theorem ORow.load {W : World} {b off : Nat} {o : Ov} {u : Value} (h : ORow W b off o u) : (loadCells ⟨b, off, none⟩ 14).run Try.prog W = .ok (o.cells u) W := by
  have h2 := run_loadCells_list (P := Try.prog) W ⟨b, off, none⟩ (o.cells u).toList (fun j v hv => by
    rw [Addr.add_mid]
    exact h j v hv)
  rw [Array.length_toList, Ov.cells_size] at h2
  simpa using h2

theorem ORow.head {W : World} {b off : Nat} {o : Ov} {u : Value} (h : ORow W b off o u) : W.cell? ⟨b, off, none⟩ = some (.int .i64 o.kind) := by
  have := h 0 (.int .i64 o.kind) (by rw [Array.getElem?_toList]; exact (o.ats u).1)
  simpa using this

theorem ORow.lt {W : World} {b off : Nat} {o : Ov} {u : Value} (h : ORow W b off o u) : b < W.heap.size := World.block_lt_of_cell? _ _ h.head

theorem ORow.below {W W' : World} {B b off : Nat} {o : Ov} {u : Value} (h : ORow W b off o u) (hb : Below B W W') (hB : b < B) : ORow W' b off o u := fun j v hv => by
  rw [← h j v hv]
  exact Below.cell hb hB

theorem ORow.block {W W' : World} {b off : Nat} {o : Ov} {u : Value} (h : ORow W b off o u) (hb : W'.heap[b]? = W.heap[b]?) : ORow W' b off o u := fun j v hv => by
  rw [← h j v hv]
  exact World.cell?_of_block hb

/-- A slice of options can be read. -/
def RdO (W : World) (v : Value) (os : List Ov) : Prop :=
  ∃ a c, v = .slice a os.length c ∧ (0 < os.length → ∃ b off, a = some ⟨b, off, none⟩ ∧ ∀ i (h : i < os.length), ∃ u, ORow W b (off + i * 14) os[i] u ∧ Rd W u os[i].ids)

theorem RdO.below {W W' : World} {v : Value} {os : List Ov} (h : RdO W v os) (hb : Below W.heap.size W W') : RdO W' v os := by
  obtain ⟨a, c, rfl, h⟩ := h
  refine ⟨a, c, rfl, fun h0 => ?_⟩
  obtain ⟨b, off, ha, h3⟩ := h h0
  refine ⟨b, off, ha, fun i hi => ?_⟩
  obtain ⟨u, h1, h2⟩ := h3 i hi
  exact ⟨u, h1.below hb h1.lt, h2.below hb⟩

/-- What is left of a bound behind options, one behind the other. -/
def szGo : List Ov → Int → Int
  | [], l => l
  | o :: r, l => if szOv o l < 0 then -1 else szGo r (szOv o l)
def szL (os : List Ov) (left : Int) : Int := if left - (os.length : Int) < 0 then -1 else szGo os (left - (os.length : Int))

theorem szGo_in (os : List Ov) (l : Int) (h0 : 0 ≤ l) (h : ¬ szGo os l < 0) : 0 ≤ szGo os l ∧ szGo os l ≤ l ∧ ∀ o ∈ os, (o.ids.length : Int) ≤ l ∧ (o.key.size : Int) ≤ l ∧ (o.mark.size : Int) ≤ l := by
  induction os generalizing l with
  | nil => exact ⟨h0, Int.le_refl _, fun o ho => by cases ho⟩
  | cons o r ih =>
    unfold szGo at h ⊢
    by_cases h1 : szOv o l < 0
    · rw [if_pos h1] at h; exact absurd (by decide) h
    · rw [if_neg h1] at h ⊢
      obtain ⟨s0, s1, s2, s3, s4⟩ := szOv_in o l h1
      obtain ⟨i0, i1, i2⟩ := ih _ s0 h
      refine ⟨i0, by omega, fun o' ho => ?_⟩
      rcases List.mem_cons.1 ho with rfl | ho
      · exact ⟨s2, s3, s4⟩
      · have := i2 o' ho; omega
theorem szL_in (os : List Ov) (l : Int) (h : ¬ szL os l < 0) : 0 ≤ szL os l ∧ szL os l ≤ l ∧ (os.length : Int) ≤ l ∧ ∀ o ∈ os, (o.ids.length : Int) ≤ l ∧ (o.key.size : Int) ≤ l ∧ (o.mark.size : Int) ≤ l := by
  unfold szL at h ⊢
  by_cases h1 : l - (os.length : Int) < 0
  · rw [if_pos h1] at h; exact absurd (by decide) h
  · rw [if_neg h1] at h ⊢
    obtain ⟨i0, i1, i2⟩ := szGo_in os _ (by omega) h
    exact ⟨i0, by omega, by omega, fun o ho => by have := i2 o ho; omega⟩

theorem getElem_drop_cons {α : Type} (l : List α) (k : Nat) (h : k < l.length) : l.drop k = l[k] :: l.drop (k + 1) := List.drop_eq_getElem_cons h

set_option maxRecDepth 100000 in
set_option maxHeartbeats 1000000 in
theorem sz_opts (v : Value) (os : List Ov) (left : Int) (w : World) (hv : RdO w v os) (h0 : 0 ≤ left) (h1 : left ≤ 1048576) (hn : os.length ≤ 9223372036854775807)
    (hbig : ∀ o ∈ os, o.key.size ≤ 9223372036854775807 ∧ o.mark.size ≤ 9223372036854775807 ∧ o.ids.length ≤ 9223372036854775807) :
    Calls Try.prog 50 #[v, .int .i64 left] w fun e w' => e = .returned (.int .i64 (szL os left)) ∧ Below w.heap.size w w' := by
  have hv0 := hv
  obtain ⟨a, c, rfl, hc⟩ := hv
  unfold szL
  by_cases hl : left - (os.length : Int) < 0
  · rw [if_pos hl]
    go_enter Try.func50, Try.ntmps50
    go_wp2_with (fail)
    go_ret
    exact ⟨rfl, Below.refl _ _⟩
  · rw [if_neg hl]
    generalize hg : szGo os (left - (os.length : Int)) = r
    have HG := Lib.hid hg
    clear hg
    go_enter Try.func50, Try.ntmps50
    go_wp2_with (fail)
    go_loopw [1, 5] (fun l i wr => ∃ k : Nat, ∃ y : Int, k ≤ os.length ∧ i = .int .i64 k ∧ l = .int .i64 y ∧ (0 ≤ y ∧ y ≤ 1048576) ∧ szGo (os.drop k) y = r ∧ RdO wr (.slice a os.length c) os ∧ Below w.heap.size w wr) (fun _ i _ => os.length - (intOf i).toNat)
    case atStart => exact ⟨0, _, by omega, rfl, rfl, by omega, by rw [List.drop_zero]; exact HG.out, hv0, Below.refl _ _⟩
    case round =>
      clear HG hc hv0
      obtain ⟨k, y, hk, rfl, rfl, hy, hr, hR, hB⟩ := hrel
      by_cases hlt : k < os.length
      · have q : (k : Int) < (os.length : Int) := by omega
        have q2 : (0 : Int) ≤ (k : Int) := by omega
        have hR2 := hR
        obtain ⟨a', c', he, h⟩ := hR
        injection he with e1 e2 e3
        subst e1 e3
        obtain ⟨b, off, ha, h3⟩ := h (by omega)
        subst ha
        obtain ⟨u, r1, r2⟩ := h3 k hlt
        clear h3
        have ld := r1.load
        obtain ⟨b1, b2, b3⟩ := hbig os[k] (List.getElem_mem hlt)
        have cs := sz_opt os[k] u y wr r2 hy.1 hy.2 b1 b2 b3
        rw [getElem_drop_cons os k hlt] at hr
        unfold szGo at hr
        generalize os[k] = o at *
        by_cases hs : szOv o y < 0
        · rw [if_pos hs] at hr
          generalize szOv o y = z at *
          subst hr
          clear h r1 r2 hR2
          go_wp2_with (fail)
          with_reducible refine cs.mono ?_
          rintro e w2 ⟨rfl, hb2⟩
          clear ld cs
          go_wp2_with (fail)
          go_ret
          exact ⟨rfl, Below.then_ hB hb2⟩
        · rw [if_neg hs] at hr
          obtain ⟨s0, s1, -⟩ := szOv_in o y hs
          generalize szOv o y = z at *
          have HR := Lib.hid hr
          clear h r1 r2 hr
          go_wp2_with (fail)
          with_reducible refine cs.mono ?_
          rintro e w2 ⟨rfl, hb2⟩
          have hR3 := hR2.below hb2
          have hB3 := Below.then_ hB hb2
          clear ld cs hR2 hB hb2
          go_wp2_with (fail)
          go_roundw
          case rel => exact ⟨k + 1, z, by omega, by go_num, rfl, by omega, HR.out, hR3, hB3⟩
          case measure => simp [intOf]; omega
      · obtain rfl : k = os.length := by omega
        rw [List.drop_length] at hr
        subst hr
        have q : ¬ (os.length : Int) < (os.length : Int) := by omega
        clear hR
        go_wp2_with (fail)
        go_ret
        exact ⟨rfl, hB⟩

set_option maxRecDepth 100000 in
set_option maxHeartbeats 1000000 in
theorem eq_opts (v u : Value) (os : List Ov) (w : World) (hv : RdO w v os) (hu : RdO w u os) (hn : os.length ≤ 1048576) (hbig : ∀ o ∈ os, o.ids.length ≤ 1048576) :
    Calls Try.prog 53 #[v, u] w fun e w' => e = .returned (.bool true) ∧ Below w.heap.size w w' := by
  have hv0 := hv
  have hu0 := hu
  obtain ⟨a, c, rfl, -⟩ := hv
  obtain ⟨a', c', rfl, -⟩ := hu
  go_enter Try.func53, Try.ntmps53
  go_wp2_with (fail)
  go_loopw [5] (fun i wr => ∃ k : Nat, k ≤ os.length ∧ i = .int .i64 k ∧ RdO wr (.slice a os.length c) os ∧ RdO wr (.slice a' os.length c') os ∧ Below w.heap.size w wr) (fun i _ => os.length - (intOf i).toNat)
  case atStart => exact ⟨0, by omega, rfl, hv0, hu0, Below.refl _ _⟩
  case round =>
    clear hv0 hu0
    obtain ⟨k, hk, rfl, hR, hU, hB⟩ := hrel
    by_cases hlt : k < os.length
    · have q : (k : Int) < (os.length : Int) := by omega
      have q2 : (0 : Int) ≤ (k : Int) := by omega
      have hR2 := hR
      have hU2 := hU
      obtain ⟨_, _, he, h⟩ := hR
      injection he with e1 e2 e3
      subst e1 e3
      obtain ⟨b, off, ha, h3⟩ := h (by omega)
      subst ha
      obtain ⟨x, r1, r2⟩ := h3 k hlt
      clear h3
      obtain ⟨_, _, he, h'⟩ := hU
      injection he with e1 e2 e3
      subst e1 e3
      obtain ⟨b', off', ha, h3⟩ := h' (by omega)
      subst ha
      obtain ⟨x', r1', r2'⟩ := h3 k hlt
      clear h3
      have ce0 := eq_opt os[k] x x' wr.drew r2 r2' (hbig _ (List.getElem_mem hlt))
      have ld : (loadCells ⟨b, off + k * 14, none⟩ 14).run Try.prog wr.drew = _ := ORow.load (W := wr.drew) r1
      have ld' : (loadCells ⟨b', off' + k * 14, none⟩ 14).run Try.prog wr.drew = _ := ORow.load (W := wr.drew) r1'
      generalize os[k] = o at *
      clear h h' r1 r2 r1' r2'
      go_wp2_with (fail)
      refine wp_region_still_tail 8 (by kernel_rfl) (by kernel_rfl) ?_
      change wpStill _ _ wr.drew (fun a' => wpList _ _ _ _ a' wr.drew) _ _
      have hR2 : RdO wr.drew _ os := hR2
      have hU2 : RdO wr.drew _ os := hU2
      have hB := hB.drew
      generalize wr.drew = W4 at *
      simp only [List.take_succ_cons, List.take_zero, List.drop_succ_cons, List.drop_zero]
      iterate 8 still_step
      refine wpStill_nil ?_
      go_wp2_with (fail)
      with_reducible refine ce0.mono ?_
      rintro e w2 ⟨rfl, hb2⟩
      have hR3 := hR2.below hb2
      have hU3 := hU2.below hb2
      have hB3 := Below.then_ hB hb2
      clear ld ld' ce0 hR2 hU2 hB hb2
      go_wp2_with (fail)
      go_roundw
      case rel => exact ⟨k + 1, by omega, by go_num, hR3, hU3, hB3⟩
      case measure => simp [intOf]; omega
    · obtain rfl : k = os.length := by omega
      have q : ¬ (os.length : Int) < (os.length : Int) := by omega
      clear hR hU
      go_wp2_with (fail)
      go_ret
      exact ⟨rfl, hB⟩
end Go.Proofs.Ytkpajakangaekab

namespace Go.Proofs.Ytkpajakangaekab
open Go.RowKit
attribute [-go_sem] loadCells loadCellsFrom

/-- A segment's fields. -/
structure Sv where
  frm : Int
  to : Int
  port : Int
  peer : Int
  seq : Int
  ack : Int
  flags : Int
  opts : List Ov
  data : ByteArray
def Sv.zero : Sv := ⟨0, 0, 0, 0, 0, 0, 0, [], ⟨#[]⟩⟩

/-- .. as cells; v is the slice of its options. -/
def Sv.cells (x : Sv) (v : Value) : Array Value :=
  #[.int .i64 x.frm, .int .i64 x.to, .int .i64 x.port, .int .i64 x.peer, .int .i64 x.seq, .int .i64 x.ack, .int .i64 x.flags, v, .string x.data]
theorem Sv.cells_size (x : Sv) (v : Value) : (x.cells v).size = 9 := rfl
theorem Sv.ats (x : Sv) (v : Value) :
    (x.cells v)[0]? = some (.int .i64 x.frm) ∧ (x.cells v)[1]? = some (.int .i64 x.to) ∧ (x.cells v)[2]? = some (.int .i64 x.port) ∧ (x.cells v)[3]? = some (.int .i64 x.peer) ∧
    (x.cells v)[4]? = some (.int .i64 x.seq) ∧ (x.cells v)[5]? = some (.int .i64 x.ack) ∧ (x.cells v)[6]? = some (.int .i64 x.flags) ∧ (x.cells v)[7]? = some v ∧ (x.cells v)[8]? = some (.string x.data) :=
  ⟨rfl, rfl, rfl, rfl, rfl, rfl, rfl, rfl, rfl⟩
theorem sizeSeg : (Try.prog.info? 36).map (·.size) = some 9 := by kernel_rfl
theorem sizeSeg' (x : Sv) (v : Value) : (Try.prog.info? 36).map (·.size) = some (x.cells v).size := sizeSeg
theorem Sv.cells_one (x : Sv) (a : Option Addr) (n c : Nat) : (x.cells (.slice a n c)).all (·.oneCell') = true := by
  unfold Sv.cells
  simp [Value.oneCell']
theorem Sv.cells_set (x : Sv) (v u : Value) : (x.cells v).setIfInBounds 7 u = x.cells u := rfl
attribute [irreducible] Sv.cells

/-- What is left of a bound behind a segment. -/
def szSv (x : Sv) (left : Int) : Int := if szL x.opts left < 0 then -1 else if szL x.opts left - (x.data.size : Int) < 0 then -1 else szL x.opts left - (x.data.size : Int)
theorem szSv_in (x : Sv) (l : Int) (h : ¬ szSv x l < 0) : 0 ≤ szSv x l ∧ szSv x l ≤ l ∧ (x.opts.length : Int) ≤ l ∧ (x.data.size : Int) ≤ l ∧ ∀ o ∈ x.opts, (o.ids.length : Int) ≤ l ∧ (o.key.size : Int) ≤ l ∧ (o.mark.size : Int) ≤ l := by
  unfold szSv at h ⊢
  by_cases h1 : szL x.opts l < 0
  · rw [if_pos h1] at h; exact absurd (by decide) h
  · rw [if_neg h1] at h ⊢
    obtain ⟨i0, i1, i2, i3⟩ := szL_in x.opts l h1
    by_cases h2 : szL x.opts l - (x.data.size : Int) < 0
    · rw [if_pos h2] at h; exact absurd (by decide) h
    · rw [if_neg h2] at h ⊢
      exact ⟨by omega, by omega, by omega, by omega, i3⟩

def Big (os : List Ov) : Prop := ∀ o ∈ os, o.key.size ≤ 9223372036854775807 ∧ o.mark.size ≤ 9223372036854775807 ∧ o.ids.length ≤ 9223372036854775807

set_option maxRecDepth 100000 in
set_option maxHeartbeats 1000000 in
theorem sz_seg (x : Sv) (v : Value) (left : Int) (w : World) (hv : RdO w v x.opts) (h0 : 0 ≤ left) (h1 : left ≤ 1048576) (hn : x.opts.length ≤ 9223372036854775807) (hd : x.data.size ≤ 9223372036854775807) (hbig : Big x.opts) :
    Calls Try.prog 21 #[.agg (x.cells v), .int .i64 left] w fun e w' => e = .returned (.int .i64 (szSv x left)) ∧ Below w.heap.size w w' := by
  have hB0 := below_new w (.cells (x.cells v) 44)
  have hC0 := Cel.new w 44 (x.cells v)
  have c1 := sz_opts v x.opts left _ (hv.below hB0) h0 h1 hn hbig
  obtain ⟨va, vc, rfl⟩ : ∃ a c, v = .slice a x.opts.length c := by obtain ⟨a, c, h, -⟩ := hv; exact ⟨a, c, h⟩
  obtain ⟨a0, a1, a2, a3, a4, a5, a6, a7, a8⟩ := x.ats (.slice va x.opts.length vc)
  clear hv
  generalize hr : szSv x left = r
  have HR := Lib.hid hr
  clear hr
  by_cases g1 : szL x.opts left < 0
  · have hr : r = -1 := by rw [← HR.out]; unfold szSv; rw [if_pos g1]
    subst hr
    generalize szL x.opts left = l at *
    go_enter Try.func21, Try.ntmps21
    go_wp2_with (fail)
    with_reducible refine c1.mono ?_
    rintro e w1 ⟨rfl, hb1⟩
    go_wp2_with (fail)
    go_ret
    exact ⟨rfl, Below.then_ hB0 hb1⟩
  · obtain ⟨i0, i1, -, -⟩ := szL_in x.opts left g1
    have hr : r = if szL x.opts left - (x.data.size : Int) < 0 then -1 else szL x.opts left - (x.data.size : Int) := by rw [← HR.out]; unfold szSv; rw [if_neg g1]
    clear HR
    generalize szL x.opts left = l at *
    by_cases g2 : l - (x.data.size : Int) < 0
    · rw [if_pos g2] at hr
      subst hr
      go_enter Try.func21, Try.ntmps21
      go_wp2_with (fail)
      with_reducible refine c1.mono ?_
      rintro e w1 ⟨rfl, hb1⟩
      have k8 := ((hC0.kept hb1).cell 8).trans a8
      go_wp2_with (fail)
      go_ret
      exact ⟨rfl, Below.then_ hB0 hb1⟩
    · rw [if_neg g2] at hr
      subst hr
      go_enter Try.func21, Try.ntmps21
      go_wp2_with (fail)
      with_reducible refine c1.mono ?_
      rintro e w1 ⟨rfl, hb1⟩
      have k8 := ((hC0.kept hb1).cell 8).trans a8
      go_wp2_with (fail)
      go_ret
      exact ⟨rfl, Below.then_ hB0 hb1⟩

set_option maxRecDepth 100000 in
set_option maxHeartbeats 1000000 in
theorem eq_seg (x : Sv) (v u : Value) (w : World) (hv : RdO w v x.opts) (hu : RdO w u x.opts) (hn : x.opts.length ≤ 1048576) (hbig : ∀ o ∈ x.opts, o.ids.length ≤ 1048576) :
    Calls Try.prog 24 #[.agg (x.cells v), .agg (x.cells u)] w fun e w' => e = .returned (.bool true) ∧ Below w.heap.size w w' := by
  have hB : Below w.heap.size w ((w.alloc (.cells (x.cells v) 36)).alloc (.cells (x.cells u) 36)) := ((Below.refl _ _).alloc (Nat.le_refl _) _).alloc (by simp) _
  have hC : Cel ((w.alloc (.cells (x.cells v) 36)).alloc (.cells (x.cells u) 36)) w.heap.size 36 (x.cells v) := (Cel.new w _ _).alloc _
  have hD : Cel ((w.alloc (.cells (x.cells v) 36)).alloc (.cells (x.cells u) 36)) (w.heap.size + 1) 36 (x.cells u) := by
    have := Cel.new (w.alloc (.cells (x.cells v) 36)) 36 (x.cells u)
    rw [World.size_alloc] at this
    exact this
  have c1 := eq_opts v u x.opts _ (hv.below hB) (hu.below hB) hn hbig
  obtain ⟨va, vc, rfl, -⟩ := hv
  obtain ⟨ua, uc, rfl, -⟩ := hu
  obtain ⟨a0, a1, a2, a3, a4, a5, a6, a7, a8⟩ := x.ats (.slice va x.opts.length vc)
  obtain ⟨b0, b1, b2, b3, b4, b5, b6, b7, b8⟩ := x.ats (.slice ua x.opts.length uc)
  go_enter Try.func24, Try.ntmps24
  go_wp2_with (fail)
  with_reducible refine c1.mono ?_
  rintro e w1 ⟨rfl, hb1⟩
  have k8 := ((hC.kept hb1).cell 8).trans a8
  have j8 := ((hD.kept hb1).cell 8).trans b8
  go_wp2_with (fail)
  go_ret
  exact ⟨rfl, Below.then_ hB hb1⟩
end Go.Proofs.Ytkpajakangaekab

namespace Go.Proofs.Ytkpajakangaekab
open Go.RowKit
attribute [-go_sem] loadCells loadCellsFrom

theorem setCells_size (b : Nat) : ∀ (vs : List Value) (o : Nat) (w : World), (w.setCells b o vs).heap.size = w.heap.size
  | [], _, _ => rfl
  | v :: vs, o, w => by
    show ((w.setCell ⟨b, o, none⟩ v).setCells b (o + 1) vs).heap.size = _
    rw [setCells_size b vs]
    simp
theorem setCells_other (b : Nat) : ∀ (vs : List Value) (o : Nat) (w : World) (k : Nat), k ≠ b → (w.setCells b o vs).heap[k]? = w.heap[k]?
  | [], _, _, _, _ => rfl
  | v :: vs, o, w, k, h => by
    show ((w.setCell ⟨b, o, none⟩ v).setCells b (o + 1) vs).heap[k]? = _
    rw [setCells_other b vs _ _ k h]
    exact Below.heap_setCell _ _ _ _ h
theorem setCells_below (b B : Nat) (hB : B ≤ b) : ∀ (vs : List Value) (o : Nat) (w : World), Below B w (w.setCells b o vs)
  | [], _, _ => Below.refl _ _
  | v :: vs, o, w => ((Below.refl B w).setCell (p := ⟨b, o, none⟩) hB v).trans (setCells_below b B hB vs (o + 1) _)

/-- A slice of options that the call itself has made: each of its Ids lies in memory of its own. -/
structure OwnO (W : World) (B C g : Nat) (os : List Ov) (us : Nat → Value) : Prop where
  lo : B ≤ g
  hi : g < C
  th : W.there g 0 (os.length * 14)
  row : ∀ j (h : j < os.length), ORow W g (j * 14) os[j] (us j)
  ids : ∀ j (h : j < os.length), IRow W B C (us j) os[j].ids
  ne : ∀ j, j < os.length → (us j).ownBlock ≠ some g
  sep : ∀ i j, i < j → j < os.length → ∀ x, (us i).ownBlock = some x → (us j).ownBlock ≠ some x

theorem there_below {W W' : World} {B b o n : Nat} (h : W.there b o n) (hb : Below B W W') (hB : b < B) : W'.there b o n := fun j hj => by
  have h1 := h j hj
  have e : W'.heap[b]? = W.heap[b]? := hb.block b hB
  constructor
  · rw [World.cell?_of_block (a := ⟨b, o + j, none⟩) e]; exact h1.1
  · rw [World.frozen?_of_block (a := ⟨b, o + j, none⟩) e]; exact h1.2

theorem OwnO.keep {W W' : World} {B C D g : Nat} {os : List Ov} {us : Nat → Value} (h : OwnO W B C g os us) (hb : Below D W W') (hC : C ≤ D) : OwnO W' B C g os us :=
  ⟨h.lo, h.hi, there_below h.th hb (Nat.lt_of_lt_of_le h.hi hC), fun j hj => (h.row j hj).below hb (Nat.lt_of_lt_of_le h.hi hC), fun j hj => (h.ids j hj).keep hb hC, h.ne, h.sep⟩
theorem OwnO.wider {W : World} {B B' C C' g : Nat} {os : List Ov} {us : Nat → Value} (h : OwnO W B C g os us) (hB : B' ≤ B) (hC : C ≤ C') : OwnO W B' C' g os us :=
  ⟨Nat.le_trans hB h.lo, Nat.lt_of_lt_of_le h.hi hC, h.th, h.row, fun j hj => (h.ids j hj).wider hB hC, h.ne, h.sep⟩
theorem OwnO.blocks {W W' : World} {B C g : Nat} {os : List Ov} {us : Nat → Value} (h : OwnO W B C g os us) (hb : ∀ k, B ≤ k → k < C → W'.heap[k]? = W.heap[k]?) : OwnO W' B C g os us :=
  have e := hb g h.lo h.hi
  ⟨h.lo, h.hi, fun j hj => by
    have h1 := h.th j hj
    constructor
    · rw [World.cell?_of_block (a := ⟨g, 0 + j, none⟩) e]; exact h1.1
    · rw [World.frozen?_of_block (a := ⟨g, 0 + j, none⟩) e]; exact h1.2, fun j hj => (h.row j hj).block e, fun j hj => (h.ids j hj).keepAt (fun g' hg' => hb g' ((h.ids j hj).block g' hg').1 ((h.ids j hj).block g' hg').2), h.ne, h.sep⟩
theorem OwnO.rd {W : World} {B C g : Nat} {os : List Ov} {us : Nat → Value} (h : OwnO W B C g os us) (cap : Nat) : RdO W (.slice (some ⟨g, 0, none⟩) os.length cap) os :=
  ⟨_, cap, rfl, fun _ => ⟨g, 0, rfl, fun i hi => ⟨us i, by rw [Nat.zero_add]; exact h.row i hi, (h.ids i hi).rd⟩⟩⟩

theorem infoO : (Try.prog.info? 26).map (fun i => (i.zero, i.size, i.bytes)) = some (some (.agg #[.int .i64 0, .int .i64 0, .int .i64 0, .int .i64 0, .int .i64 0, .int .i64 0, .int .i64 0, .int .i64 0, .int .i64 0, .int .i64 0, .bool false, .string ⟨#[]⟩, .string ⟨#[]⟩, .slice none 0 0]), 14, 144) := by kernel_rfl

def zeroCells (n : Nat) : Array Value := madeCells (Value.agg #[.int .i64 0, .int .i64 0, .int .i64 0, .int .i64 0, .int .i64 0, .int .i64 0, .int .i64 0, .int .i64 0, .int .i64 0, .int .i64 0, .bool false, .string ⟨#[]⟩, .string ⟨#[]⟩, .slice none 0 0]).cells (n * 14)
theorem zeroCells_size (n : Nat) : (zeroCells n).size = n * 14 := by simp [zeroCells, madeCells]
theorem make_opts (n : Nat) (hn : n ≤ 1048576) (W : World) :
    (Instr.makeSlice 34 (.int .i64 (n : Int)) (.int .i64 (n : Int))).run Try.prog W = .ok (.slice (some ⟨W.heap.size, 0, none⟩) n n) (W.alloc (.cells (zeroCells n) 26)) := by
  obtain ⟨i0, hi, hz0, hz1, hz2⟩ := info_parts infoO
  have h := run_makeSlice (P := Try.prog) W 34 26 i0 _ Try.underlying34 hi hz0 .i64 .i64 (n : Int) (n : Int) (by omega) (by omega) (by rw [hz1]; omega) (by rw [hz2]; omega) (by omega)
  rw [h, hz1]
  unfold zeroCells
  simp
attribute [irreducible] zeroCells

theorem there_new (W : World) (cs : Array Value) (t : TypeId) (n : Nat) (hn : cs.size = n) : (W.alloc (.cells cs t)).there W.heap.size 0 n := fun j hj => by
  have hC := Cel.new W t cs
  refine ⟨?_, hC.frozen _⟩
  rw [hC.cell, Nat.zero_add, Array.getElem?_eq_getElem (by omega)]
  rfl

theorem there_sub {W : World} {b o n : Nat} (h : W.there b 0 n) (m : Nat) (hm : o + m ≤ n) : W.there b o m := fun j hj => by
  have := h (o + j) (by omega)
  rw [Nat.zero_add] at this
  exact this

theorem ORow.apart {W : World} {b b' o' : Nat} {x : Ov} {u : Value} (h : ORow W b' o' x u) (off : Nat) (vs : List Value) (hap : b' ≠ b ∨ o' + 14 ≤ off ∨ off + vs.length ≤ o') : ORow (W.setCells b off vs) b' o' x u :=
  World.rangeAt_setCells_apart h b off vs (by rw [Array.length_toList, Ov.cells_size]; exact hap)

set_option maxRecDepth 100000 in
set_option maxHeartbeats 2000000 in
theorem to_opts (v : Value) (os : List Ov) (w : World) (hv : RdO w v os) (hn : os.length ≤ 1048576) (hbig : ∀ o ∈ os, o.ids.length ≤ 1048576) :
    Calls Try.prog 51 #[v] w fun e w' => e = .returned (.slice (some ⟨w.heap.size, 0, none⟩) os.length os.length) ∧ (∃ us, OwnO w' w.heap.size w'.heap.size w.heap.size os us) ∧ Below w.heap.size w w' := by
  have hmk := make_opts os.length hn w
  have hB0 := below_new w (.cells (zeroCells os.length) 26)
  have hT0 := there_new w (zeroCells os.length) 26 (os.length * 14) (zeroCells_size _)
  have hg0 : w.heap.size < (w.alloc (.cells (zeroCells os.length) 26)).heap.size := by simp
  obtain ⟨va, vc, rfl⟩ : ∃ a c, v = .slice a os.length c := by obtain ⟨a, c, h, -⟩ := hv; exact ⟨a, c, h⟩
  generalize w.alloc (.cells (zeroCells os.length) 26) = W1 at *
  go_enter Try.func51, Try.ntmps51
  go_wp2_with (fail)
  go_loopw [4] (fun i wr => ∃ k : Nat, ∃ us : Nat → Value, k ≤ os.length ∧ i = .int .i64 k ∧ wr.there w.heap.size 0 (os.length * 14) ∧ (∀ j (h : j < os.length), j < k → ORow wr w.heap.size (j * 14) os[j] (us j)) ∧ (∀ j (h : j < os.length), j < k → IRow wr (w.heap.size + 1) wr.heap.size (us j) os[j].ids) ∧ (∀ i j, i < j → j < k → ∀ x, (us i).ownBlock = some x → (us j).ownBlock ≠ some x) ∧ Below w.heap.size w wr ∧ w.heap.size < wr.heap.size) (fun i _ => os.length - (intOf i).toNat)
  case atStart => exact ⟨0, fun _ => undef, by omega, rfl, hT0, fun j _ h => by omega, fun j _ h => by omega, fun i j _ h => by omega, hB0, hg0⟩
  case round =>
    clear hT0 hB0 hmk hg0
    obtain ⟨k, us, hk, rfl, hT, hrow, hids, hsep, hB, hg⟩ := hrel
    by_cases hlt : k < os.length
    · have q : (k : Int) < (os.length : Int) := by omega
      have q2 : (0 : Int) ≤ (k : Int) := by omega
      obtain ⟨a', c', he, h⟩ := hv.below hB
      injection he with e1 e2 e3
      subst e1 e3
      obtain ⟨b, off, ha, h3⟩ := h (by omega)
      subst ha
      obtain ⟨u, r1, r2⟩ := h3 k hlt
      clear h3 h
      have ld := r1.load
      have ct := to_one os[k] u wr r2 (hbig _ (List.getElem_mem hlt))
      obtain ⟨o, ho⟩ : ∃ o, os[k] = o := ⟨_, rfl⟩
      rw [ho] at ct ld
      go_wp2_with (fail)
      with_reducible refine ct.mono ?_
      rintro e w2 ⟨xa, xc, rfl, hx, hb2⟩
      have hT2 := there_below hT hb2 hg
      have hB2 := Below.then_ hB hb2
      have hg2 : w.heap.size < w2.heap.size := Nat.lt_of_lt_of_le hg hb2.size
      have hrow2 : ∀ j (h : j < os.length), j < k → ORow w2 w.heap.size (j * 14) os[j] (us j) := fun j h hjk => (hrow j h hjk).below hb2 hg
      have hids2 : ∀ j (h : j < os.length), j < k → IRow w2 (w.heap.size + 1) wr.heap.size (us j) os[j].ids := fun j h hjk => (hids j h hjk).keep hb2 (Nat.le_refl _)
      have hs2 := there_sub hT2 14 (o := k * 14) (by omega)
      have one := o.cells_one xa o.ids.length xc
      have hth : w2.there w.heap.size (k * 14) (o.cells (.slice xa o.ids.length xc)).size := by rw [Ov.cells_size]; exact hs2
      clear ld ct r1 r2 hB hT hrow hids
      go_upto_region 4 with (with_reducible refine wpList_store_mid rfl 26 _ _ rfl w.heap.size (k * 14) _ rfl rfl hth (sizeOpt' _ _) one ?_)
      have hlen : (o.cells (.slice xa o.ids.length xc)).toList.length = 14 := by rw [Array.length_toList, Ov.cells_size]
      have n1 : ORow (w2.setCells w.heap.size (k * 14) (o.cells (.slice xa o.ids.length xc)).toList) w.heap.size (k * 14) o (.slice xa o.ids.length xc) := World.rangeAt_setCells_same _ _ _ _ (by rw [hlen]; exact hs2)
      have n2 : ∀ j (h : j < os.length), j < k → ORow (w2.setCells w.heap.size (k * 14) (o.cells (.slice xa o.ids.length xc)).toList) w.heap.size (j * 14) os[j] (us j) := fun j h hjk => (hrow2 j h hjk).apart _ _ (by right; left; omega)
      have hoth := setCells_other w.heap.size (o.cells (.slice xa o.ids.length xc)).toList (k * 14) w2
      have hsz := setCells_size w.heap.size (o.cells (.slice xa o.ids.length xc)).toList (k * 14) w2
      have hB3 := hB2.trans (setCells_below w.heap.size w.heap.size (Nat.le_refl _) (o.cells (.slice xa o.ids.length xc)).toList (k * 14) w2)
      have hT3 := World.there_setCells hT2 w.heap.size (k * 14) (o.cells (.slice xa o.ids.length xc)).toList
      have hwr2 : wr.heap.size ≤ w2.heap.size := hb2.size
      have n3 : ∀ j (h : j < os.length), j < k → IRow (w2.setCells w.heap.size (k * 14) (o.cells (.slice xa o.ids.length xc)).toList) (w.heap.size + 1) w2.heap.size (us j) os[j].ids := fun j h hjk =>
        ((hids2 j h hjk).keepAt (fun g' hg' => hoth g' (by have := ((hids2 j h hjk).block g' hg').1; omega))).wider (Nat.le_refl _) hwr2
      have n4 : IRow (w2.setCells w.heap.size (k * 14) (o.cells (.slice xa o.ids.length xc)).toList) (w.heap.size + 1) w2.heap.size (.slice xa o.ids.length xc) o.ids :=
        (hx.keepAt (fun g' hg' => hoth g' (by have := (hx.block g' hg').1; omega))).wider (by omega) (Nat.le_refl _)
      have n5 : ∀ i, i < k → ∀ x, (us i).ownBlock = some x → x < wr.heap.size := fun i hik x hx' => ((hids2 i (by omega) hik).block x hx').2
      have n6 : ∀ x, (Value.slice xa o.ids.length xc).ownBlock = some x → wr.heap.size ≤ x := fun x hx' => (hx.block x hx').1
      have HN := Lib.hid (And.intro n1 (And.intro n2 (And.intro n3 (And.intro n4 (And.intro n5 n6)))))
      clear n1 n2 n3 n4 n5 n6 hoth hrow2 hids2 hs2 hth one hT2 hx hB2
      have hg3 : w.heap.size < (w2.setCells w.heap.size (k * 14) (o.cells (.slice xa o.ids.length xc)).toList).heap.size := by rw [hsz]; exact hg2
      generalize w2.setCells w.heap.size (k * 14) (o.cells (.slice xa o.ids.length xc)).toList = W5 at *
      go_wp2_with (fail)
      go_roundw
      case rel =>
        obtain ⟨n1, n2, n3, n4, n5, n6⟩ := HN.out
        refine ⟨k + 1, fun j => if j = k then (.slice xa o.ids.length xc) else us j, by omega, by go_num, hT3, fun j h hjk => ?_, fun j h hjk => ?_, fun i j hij hjk x hxi => ?_, hB3, hg3⟩
        · by_cases hj : j = k
          · subst hj
            simp only [if_true]
            rw [ho]
            exact n1
          · simp only [if_neg hj]
            exact n2 j h (by omega)
        · rw [hsz]
          by_cases hj : j = k
          · subst hj
            simp only [if_true]
            rw [ho]
            exact n4
          · simp only [if_neg hj]
            exact n3 j h (by omega)
        · have hik : i ≠ k := by omega
          simp only [if_neg hik] at hxi
          by_cases hj : j = k
          · subst hj
            simp only [if_true]
            intro hxj
            have h1 := n5 i hij x hxi
            have h2 := n6 x hxj
            omega
          · simp only [if_neg hj]
            exact hsep i j hij (by omega) x hxi
      case measure => simp [intOf]; omega
    · obtain rfl : k = os.length := by omega
      have q : ¬ (os.length : Int) < (os.length : Int) := by omega
      go_wp2_with (fail)
      go_ret
      exact ⟨rfl, ⟨us, ⟨Nat.le_refl _, hg, hT, fun j h => hrow j h h, fun j h => (hids j h h).wider (by omega) (Nat.le_refl _), fun j h e => by have := ((hids j h h).block _ e).1; omega, fun i j hij hj x hx => hsep i j hij hj x hx⟩⟩, hB⟩

theorem Sv.cells_data (x : Sv) (v : Value) : (({ x with data := ⟨#[]⟩ } : Sv).cells v).setIfInBounds 8 (.string x.data) = x.cells v := by unfold Sv.cells; rfl
theorem Sv.cells_bare (x : Sv) : ({ x with data := ⟨#[]⟩ } : Sv).cells (.slice none 0 0) = #[.int .i64 x.frm, .int .i64 x.to, .int .i64 x.port, .int .i64 x.peer, .int .i64 x.seq, .int .i64 x.ack, .int .i64 x.flags, .slice none 0 0, .string ⟨#[]⟩] := by unfold Sv.cells; rfl

set_option maxRecDepth 100000 in
set_option maxHeartbeats 2000000 in
theorem to_seg (x : Sv) (v : Value) (w : World) (hv : RdO w v x.opts) (hn : x.opts.length ≤ 1048576) (hbig : ∀ o ∈ x.opts, o.ids.length ≤ 1048576) :
    Calls Try.prog 22 #[.agg (x.cells v)] w fun e w' => ∃ g, e = .returned (.agg (x.cells (.slice (some ⟨g, 0, none⟩) x.opts.length x.opts.length))) ∧ (∃ us, OwnO w' w.heap.size w'.heap.size g x.opts us) ∧ Below w.heap.size w w' := by
  obtain ⟨va, vc, rfl⟩ : ∃ a c, v = .slice a x.opts.length c := by obtain ⟨a, c, h, -⟩ := hv; exact ⟨a, c, h⟩
  have hB0 : Below w.heap.size w (((w.alloc (.cells (x.cells (.slice va x.opts.length vc)) 44)).alloc (.cells #[.int .i64 0, .int .i64 0, .int .i64 0, .int .i64 0, .int .i64 0, .int .i64 0, .int .i64 0, .slice none 0 0, .string ⟨#[]⟩] 36)).alloc (.cells #[.int .i64 x.frm, .int .i64 x.to, .int .i64 x.port, .int .i64 x.peer, .int .i64 x.seq, .int .i64 x.ack, .int .i64 x.flags, .slice none 0 0, .string ⟨#[]⟩] 36)) := (((Below.refl _ _).alloc (Nat.le_refl _) _).alloc (by simp) _).alloc (by simp; omega) _
  have hC0 : Cel (((w.alloc (.cells (x.cells (.slice va x.opts.length vc)) 44)).alloc (.cells #[.int .i64 0, .int .i64 0, .int .i64 0, .int .i64 0, .int .i64 0, .int .i64 0, .int .i64 0, .slice none 0 0, .string ⟨#[]⟩] 36)).alloc (.cells #[.int .i64 x.frm, .int .i64 x.to, .int .i64 x.port, .int .i64 x.peer, .int .i64 x.seq, .int .i64 x.ack, .int .i64 x.flags, .slice none 0 0, .string ⟨#[]⟩] 36)) (w.heap.size + 2) 36 (({ x with data := ⟨#[]⟩ } : Sv).cells (.slice none 0 0)) := by
    have := Cel.new ((w.alloc (.cells (x.cells (.slice va x.opts.length vc)) 44)).alloc (.cells #[.int .i64 0, .int .i64 0, .int .i64 0, .int .i64 0, .int .i64 0, .int .i64 0, .int .i64 0, .slice none 0 0, .string ⟨#[]⟩] 36)) 36 #[.int .i64 x.frm, .int .i64 x.to, .int .i64 x.port, .int .i64 x.peer, .int .i64 x.seq, .int .i64 x.ack, .int .i64 x.flags, .slice none 0 0, .string ⟨#[]⟩]
    rw [World.size_alloc, World.size_alloc] at this
    rw [x.cells_bare]
    exact this
  have hD0 : Cel (((w.alloc (.cells (x.cells (.slice va x.opts.length vc)) 44)).alloc (.cells #[.int .i64 0, .int .i64 0, .int .i64 0, .int .i64 0, .int .i64 0, .int .i64 0, .int .i64 0, .slice none 0 0, .string ⟨#[]⟩] 36)).alloc (.cells #[.int .i64 x.frm, .int .i64 x.to, .int .i64 x.port, .int .i64 x.peer, .int .i64 x.seq, .int .i64 x.ack, .int .i64 x.flags, .slice none 0 0, .string ⟨#[]⟩] 36)) (w.heap.size + 1) 36 #[.int .i64 0, .int .i64 0, .int .i64 0, .int .i64 0, .int .i64 0, .int .i64 0, .int .i64 0, .slice none 0 0, .string ⟨#[]⟩] := by
    have := (Cel.new (w.alloc (.cells (x.cells (.slice va x.opts.length vc)) 44)) 36 #[.int .i64 0, .int .i64 0, .int .i64 0, .int .i64 0, .int .i64 0, .int .i64 0, .int .i64 0, .slice none 0 0, .string ⟨#[]⟩]).alloc (.cells #[.int .i64 x.frm, .int .i64 x.to, .int .i64 x.port, .int .i64 x.peer, .int .i64 x.seq, .int .i64 x.ack, .int .i64 x.flags, .slice none 0 0, .string ⟨#[]⟩] 36)
    rw [World.size_alloc] at this
    exact this
  have hA0 : Cel (((w.alloc (.cells (x.cells (.slice va x.opts.length vc)) 44)).alloc (.cells #[.int .i64 0, .int .i64 0, .int .i64 0, .int .i64 0, .int .i64 0, .int .i64 0, .int .i64 0, .slice none 0 0, .string ⟨#[]⟩] 36)).alloc (.cells #[.int .i64 x.frm, .int .i64 x.to, .int .i64 x.port, .int .i64 x.peer, .int .i64 x.seq, .int .i64 x.ack, .int .i64 x.flags, .slice none 0 0, .string ⟨#[]⟩] 36)) w.heap.size 44 (x.cells (.slice va x.opts.length vc)) := ((Cel.new w _ _).alloc _).alloc _
  have hS0 : (((w.alloc (.cells (x.cells (.slice va x.opts.length vc)) 44)).alloc (.cells #[.int .i64 0, .int .i64 0, .int .i64 0, .int .i64 0, .int .i64 0, .int .i64 0, .int .i64 0, .slice none 0 0, .string ⟨#[]⟩] 36)).alloc (.cells #[.int .i64 x.frm, .int .i64 x.to, .int .i64 x.port, .int .i64 x.peer, .int .i64 x.seq, .int .i64 x.ack, .int .i64 x.flags, .slice none 0 0, .string ⟨#[]⟩] 36)).heap.size = w.heap.size + 3 := by simp
  have c1 := to_opts (.slice va x.opts.length vc) x.opts (((w.alloc (.cells (x.cells (.slice va x.opts.length vc)) 44)).alloc (.cells #[.int .i64 0, .int .i64 0, .int .i64 0, .int .i64 0, .int .i64 0, .int .i64 0, .int .i64 0, .slice none 0 0, .string ⟨#[]⟩] 36)).alloc (.cells #[.int .i64 x.frm, .int .i64 x.to, .int .i64 x.port, .int .i64 x.peer, .int .i64 x.seq, .int .i64 x.ack, .int .i64 x.flags, .slice none 0 0, .string ⟨#[]⟩] 36)) (hv.below hB0) hn hbig
  obtain ⟨a0, a1, a2, a3, a4, a5, a6, a7, a8⟩ := x.ats (.slice va x.opts.length vc)
  have hF := Lib.hid (And.intro hB0 (And.intro hC0 (And.intro hD0 (And.intro hA0 hS0))))
  clear hB0 hC0 hD0 hA0 hS0
  go_enter Try.func22, Try.ntmps22
  go_wp2_with (fail)
  with_reducible refine c1.mono ?_
  obtain ⟨hB0, hC0, hD0, hA0, hS0⟩ := hF.out
  rintro e w1 ⟨rfl, ⟨us, hU⟩, hb1⟩
  have hsz := hb1.size
  have hC := hC0.kept hb1
  have hD := hD0.kept hb1
  have hA := hA0.kept hb1
  have hB := Below.then_ hB0 hb1
  rw [hS0] at hU hsz ⊢
  clear hC0 hD0 hA0 hB0 hS0 hF c1 hb1 a0 a1 a2 a3 a4 a5 a6 a7
  generalize hg : w.heap.size + 3 = g at *
  have k8 := (hA.cell 8).trans a8
  have c7 := hC.cell 7
  have f7 := hC.frozen 7
  have c8 := hC.cell 8
  have f8 := hC.frozen 8
  obtain ⟨-, -, -, -, -, -, -, b7, b8⟩ := ({ x with data := ⟨#[]⟩ } : Sv).ats (.slice none 0 0)
  rw [b7] at c7
  rw [b8] at c8
  have hC2 := hC.set 7 (.slice (some ⟨g, 0, none⟩) x.opts.length x.opts.length)
  rw [Sv.cells_set] at hC2
  have hC3 := hC2.set 8 (.string x.data)
  rw [Sv.cells_data] at hC3
  have hD2 := (hD.other ⟨w.heap.size + 2, 7, none⟩ (.slice (some ⟨g, 0, none⟩) x.opts.length x.opts.length) (by simp)).other ⟨w.heap.size + 2, 8, none⟩ (.string x.data) (by simp)
  have hB2 := (hB.setCell (p := ⟨w.heap.size + 2, 7, none⟩) (by simp) (.slice (some ⟨g, 0, none⟩) x.opts.length x.opts.length)).setCell (p := ⟨w.heap.size + 2, 8, none⟩) (by simp) (.string x.data)
  have hsz2 : ((w1.setCell ⟨w.heap.size + 2, 7, none⟩ (.slice (some ⟨g, 0, none⟩) x.opts.length x.opts.length)).setCell ⟨w.heap.size + 2, 8, none⟩ (.string x.data)).heap.size = w1.heap.size := by simp
  have hblk : ∀ k, k ≠ w.heap.size + 2 → ((w1.setCell ⟨w.heap.size + 2, 7, none⟩ (.slice (some ⟨g, 0, none⟩) x.opts.length x.opts.length)).setCell ⟨w.heap.size + 2, 8, none⟩ (.string x.data)).heap[k]? = w1.heap[k]? := fun k hk => by
    rw [Below.heap_setCell _ _ _ _ hk, Below.heap_setCell _ _ _ _ hk]
  have HH := Lib.hid (And.intro hC3 (And.intro hD2 (And.intro hB2 (And.intro hsz2 hblk))))
  clear hC2 hC3 hD2 hB2 hsz2 hblk hC hD hA hB b7 b8
  go_upto_region 11 with (fail)
  obtain ⟨hC3, hD2, hB2, hsz2, hblk⟩ := HH.out
  clear HH
  generalize (w1.setCell ⟨w.heap.size + 2, 7, none⟩ (.slice (some ⟨g, 0, none⟩) x.opts.length x.opts.length)).setCell ⟨w.heap.size + 2, 8, none⟩ (.string x.data) = W5 at *
  have hl : W5.heap[w.heap.size + 2]? = some (.cells (x.cells (.slice (some ⟨g, 0, none⟩) x.opts.length x.opts.length)) 36 (0, 0)) := hC3
  have hd : W5.heap[w.heap.size + 1]? = some (.cells #[.int .i64 0, .int .i64 0, .int .i64 0, .int .i64 0, .int .i64 0, .int .i64 0, .int .i64 0, .slice none 0 0, .string ⟨#[]⟩] 36 (0, 0)) := hD2
  have one := x.cells_one (some ⟨g, 0, none⟩) x.opts.length x.opts.length
  have hss : (#[.int .i64 0, .int .i64 0, .int .i64 0, .int .i64 0, .int .i64 0, .int .i64 0, .int .i64 0, .slice none 0 0, .string ⟨#[]⟩] : Array Value).size = (x.cells (.slice (some ⟨g, 0, none⟩) x.opts.length x.opts.length)).size := by rw [Sv.cells_size]; rfl
  have hD6 := hD2.row (x.cells (.slice (some ⟨g, 0, none⟩) x.opts.length x.opts.length))
  have hB6 : Below w.heap.size w (W5.setRow (w.heap.size + 1) (x.cells (.slice (some ⟨g, 0, none⟩) x.opts.length x.opts.length))) :=
    ⟨hB2.os, hB2.tape, hB2.output, by rw [show ∀ (W : World) g cs, (W.setRow g cs).heap.size = W.heap.size from fun W g cs => by simp [World.setRow]]; exact hB2.size, fun k hk => by
      show ((World.heap _).modify _ _)[k]? = _
      rw [Array.getElem?_modify, if_neg (by omega)]
      exact hB2.block k hk⟩
  have hU6 : OwnO (W5.setRow (w.heap.size + 1) (x.cells (.slice (some ⟨g, 0, none⟩) x.opts.length x.opts.length))) w.heap.size (W5.setRow (w.heap.size + 1) (x.cells (.slice (some ⟨g, 0, none⟩) x.opts.length x.opts.length))).heap.size g x.opts us := by
    have hz : (W5.setRow (w.heap.size + 1) (x.cells (.slice (some ⟨g, 0, none⟩) x.opts.length x.opts.length))).heap.size = w1.heap.size := by rw [← hsz2]; simp [World.setRow]
    rw [hz]
    refine OwnO.wider (B := g) ?_ (by omega) (Nat.le_refl _)
    refine OwnO.blocks hU (fun k hk1 hk2 => ?_)
    show ((World.heap _).modify _ _)[k]? = _
    rw [Array.getElem?_modify, if_neg (by omega)]
    exact hblk k (by omega)
  have HH := Lib.hid (And.intro hD6 (And.intro hB6 hU6))
  clear hD6 hB6 hU6 hC3 hD2 hB2 hsz2 hblk
  go_wp2_with (first | (with_reducible refine wpList_load_row rfl 36 _ rfl _ rfl 36 _ (0, 0) _ hl Try.underlying36 rfl (sizeSeg' _ _) ?_) | (with_reducible refine wpList_store_row rfl 36 _ _ rfl _ rfl _ rfl 36 _ hd (sizeSeg' _ _) hss one ?_))
  obtain ⟨hD6, hB6, hU6⟩ := HH.out
  refine bodyPost_ret (Cel.result hD6 rfl _ rfl Try.underlying36 rfl (sizeSeg' _ _)) rfl ⟨g, rfl, ⟨us, hU6⟩, hB6⟩
end Go.Proofs.Ytkpajakangaekab

