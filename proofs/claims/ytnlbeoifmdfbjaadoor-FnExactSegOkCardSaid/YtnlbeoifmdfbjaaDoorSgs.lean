import Derived.Test.YtnlbeoifmdfbjaaDoorSgv
namespace Go.Proofs.YtnlbeoifmdfbjaaDoor
open Go.RowKit
attribute [-go_sem] loadCells loadCellsFrom

/-- A segment's fields. -/
structure Sv where
  frm : Int
  to : Int
  port : Int
  peer : Int
  seq : Int
  ack : Int
  flags : Int
  opts : List Ov
  data : ByteArray
def Sv.zero : Sv := ⟨0, 0, 0, 0, 0, 0, 0, [], ⟨#[]⟩⟩

/-- .. as cells; v is the slice of its options. -/
def Sv.cells (x : Sv) (v : Value) : Array Value :=
  #[.int .i64 x.frm, .int .i64 x.to, .int .i64 x.port, .int .i64 x.peer, .int .i64 x.seq, .int .i64 x.ack, .int .i64 x.flags, v, .string x.data]
theorem Sv.cells_size (x : Sv) (v : Value) : (x.cells v).size = 9 := rfl
theorem Sv.ats (x : Sv) (v : Value) :
    (x.cells v)[0]? = some (.int .i64 x.frm) ∧ (x.cells v)[1]? = some (.int .i64 x.to) ∧ (x.cells v)[2]? = some (.int .i64 x.port) ∧ (x.cells v)[3]? = some (.int .i64 x.peer) ∧
    (x.cells v)[4]? = some (.int .i64 x.seq) ∧ (x.cells v)[5]? = some (.int .i64 x.ack) ∧ (x.cells v)[6]? = some (.int .i64 x.flags) ∧ (x.cells v)[7]? = some v ∧ (x.cells v)[8]? = some (.string x.data) :=
  ⟨rfl, rfl, rfl, rfl, rfl, rfl, rfl, rfl, rfl⟩
theorem sizeSeg : (Tryd.prog.info? 29).map (·.size) = some 9 := by kernel_rfl
theorem sizeSeg' (x : Sv) (v : Value) : (Tryd.prog.info? 29).map (·.size) = some (x.cells v).size := sizeSeg
theorem Sv.cells_one (x : Sv) (a : Option Addr) (n c : Nat) : (x.cells (.slice a n c)).all (·.oneCell') = true := by
  unfold Sv.cells
  simp [Value.oneCell']
theorem Sv.cells_set (x : Sv) (v u : Value) : (x.cells v).setIfInBounds 7 u = x.cells u := rfl
attribute [irreducible] Sv.cells

/-- What is left of a bound behind a segment. -/
def szSv (x : Sv) (left : Int) : Int := if szL x.opts left < 0 then -1 else if szL x.opts left - (x.data.size : Int) < 0 then -1 else szL x.opts left - (x.data.size : Int)
theorem szSv_in (x : Sv) (l : Int) (h : ¬ szSv x l < 0) : 0 ≤ szSv x l ∧ szSv x l ≤ l ∧ (x.opts.length : Int) ≤ l ∧ (x.data.size : Int) ≤ l ∧ ∀ o ∈ x.opts, (o.ids.length : Int) ≤ l ∧ (o.key.size : Int) ≤ l ∧ (o.mark.size : Int) ≤ l := by
  unfold szSv at h ⊢
  by_cases h1 : szL x.opts l < 0
  · rw [if_pos h1] at h; exact absurd (by decide) h
  · rw [if_neg h1] at h ⊢
    obtain ⟨i0, i1, i2, i3⟩ := szL_in x.opts l h1
    by_cases h2 : szL x.opts l - (x.data.size : Int) < 0
    · rw [if_pos h2] at h; exact absurd (by decide) h
    · rw [if_neg h2] at h ⊢
      exact ⟨by omega, by omega, by omega, by omega, i3⟩

def Big (os : List Ov) : Prop := ∀ o ∈ os, o.key.size ≤ 9223372036854775807 ∧ o.mark.size ≤ 9223372036854775807 ∧ o.ids.length ≤ 9223372036854775807

set_option maxRecDepth 100000 in
set_option maxHeartbeats 1000000 in
theorem sz_seg (x : Sv) (v : Value) (left : Int) (w : World) (hv : RdO w v x.opts) (h0 : 0 ≤ left) (h1 : left ≤ 1048576) (hn : x.opts.length ≤ 9223372036854775807) (hd : x.data.size ≤ 9223372036854775807) (hbig : Big x.opts) :
    Calls Tryd.prog 4 #[.agg (x.cells v), .int .i64 left] w fun e w' => e = .returned (.int .i64 (szSv x left)) ∧ Below w.heap.size w w' := by
  have hB0 := below_new w (.cells (x.cells v) 24)
  have hC0 := Cel.new w 24 (x.cells v)
  have c1 := sz_opts v x.opts left _ (hv.below hB0) h0 h1 hn hbig
  obtain ⟨va, vc, rfl⟩ : ∃ a c, v = .slice a x.opts.length c := by obtain ⟨a, c, h, -⟩ := hv; exact ⟨a, c, h⟩
  obtain ⟨a0, a1, a2, a3, a4, a5, a6, a7, a8⟩ := x.ats (.slice va x.opts.length vc)
  clear hv
  generalize hr : szSv x left = r
  have HR := Lib.hid hr
  clear hr
  by_cases g1 : szL x.opts left < 0
  · have hr : r = -1 := by rw [← HR.out]; unfold szSv; rw [if_pos g1]
    subst hr
    generalize szL x.opts left = l at *
    go_enter Tryd.func4, Tryd.ntmps4
    go_wp2_with (fail)
    with_reducible refine c1.mono ?_
    rintro e w1 ⟨rfl, hb1⟩
    go_wp2_with (fail)
    go_ret
    exact ⟨rfl, Below.then_ hB0 hb1⟩
  · obtain ⟨i0, i1, -, -⟩ := szL_in x.opts left g1
    have hr : r = if szL x.opts left - (x.data.size : Int) < 0 then -1 else szL x.opts left - (x.data.size : Int) := by rw [← HR.out]; unfold szSv; rw [if_neg g1]
    clear HR
    generalize szL x.opts left = l at *
    by_cases g2 : l - (x.data.size : Int) < 0
    · rw [if_pos g2] at hr
      subst hr
      go_enter Tryd.func4, Tryd.ntmps4
      go_wp2_with (fail)
      with_reducible refine c1.mono ?_
      rintro e w1 ⟨rfl, hb1⟩
      have k8 := ((hC0.kept hb1).cell 8).trans a8
      go_wp2_with (fail)
      go_ret
      exact ⟨rfl, Below.then_ hB0 hb1⟩
    · rw [if_neg g2] at hr
      subst hr
      go_enter Tryd.func4, Tryd.ntmps4
      go_wp2_with (fail)
      with_reducible refine c1.mono ?_
      rintro e w1 ⟨rfl, hb1⟩
      have k8 := ((hC0.kept hb1).cell 8).trans a8
      go_wp2_with (fail)
      go_ret
      exact ⟨rfl, Below.then_ hB0 hb1⟩

set_option maxRecDepth 100000 in
set_option maxHeartbeats 1000000 in
theorem eq_seg (x : Sv) (v u : Value) (w : World) (hv : RdO w v x.opts) (hu : RdO w u x.opts) (hn : x.opts.length ≤ 1048576) (hbig : ∀ o ∈ x.opts, o.ids.length ≤ 1048576) :
    Calls Tryd.prog 8 #[.agg (x.cells v), .agg (x.cells u)] w fun e w' => e = .returned (.bool true) ∧ Below w.heap.size w w' := by
  have hB : Below w.heap.size w ((w.alloc (.cells (x.cells v) 29)).alloc (.cells (x.cells u) 29)) := ((Below.refl _ _).alloc (Nat.le_refl _) _).alloc (by simp) _
  have hC : Cel ((w.alloc (.cells (x.cells v) 29)).alloc (.cells (x.cells u) 29)) w.heap.size 29 (x.cells v) := (Cel.new w _ _).alloc _
  have hD : Cel ((w.alloc (.cells (x.cells v) 29)).alloc (.cells (x.cells u) 29)) (w.heap.size + 1) 29 (x.cells u) := by
    have := Cel.new (w.alloc (.cells (x.cells v) 29)) 29 (x.cells u)
    rw [World.size_alloc] at this
    exact this
  have c1 := eq_opts v u x.opts _ (hv.below hB) (hu.below hB) hn hbig
  obtain ⟨va, vc, rfl, -⟩ := hv
  obtain ⟨ua, uc, rfl, -⟩ := hu
  obtain ⟨a0, a1, a2, a3, a4, a5, a6, a7, a8⟩ := x.ats (.slice va x.opts.length vc)
  obtain ⟨b0, b1, b2, b3, b4, b5, b6, b7, b8⟩ := x.ats (.slice ua x.opts.length uc)
  go_enter Tryd.func8, Tryd.ntmps8
  go_wp2_with (fail)
  with_reducible refine c1.mono ?_
  rintro e w1 ⟨rfl, hb1⟩
  have k8 := ((hC.kept hb1).cell 8).trans a8
  have j8 := ((hD.kept hb1).cell 8).trans b8
  go_wp2_with (fail)
  go_ret
  exact ⟨rfl, Below.then_ hB hb1⟩
end Go.Proofs.YtnlbeoifmdfbjaaDoor
