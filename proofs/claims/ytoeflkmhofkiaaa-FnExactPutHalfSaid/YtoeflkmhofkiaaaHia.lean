import Derived.Test.YtoeflkmhofkiaaaHvi
import Derived.Test.YtoeflkmhofkiaaaRif
import Derived.RangeFuncWrites
namespace Go.Proofs.Ytoeflkmhofkiaaa
open Go.RowKit Go.Shelf
set_option maxRecDepth 100000

attribute [local go_sem] Oper.semAt_some

set_option maxRecDepth 100000 in
theorem clo_at (m : Hv) (r : Rv) (B : Nat) (w : World) (hc : Cel w B 26 #[.int .i64 r.own, .int .i64 r.far, .int .i64 r.port]) :
    Calls Try.prog 46 #[.agg #[.int .i64 m.road.own, .int .i64 m.road.far, .int .i64 m.road.port, .int .i64 m.theirs, .int .i64 m.mine, .int .i64 m.give, .int .i64 m.take, .int .i64 m.till], .pointer (some ⟨B, 0, none⟩)] w fun e w' => e = .returned (.bool (decide (m.road = r))) ∧ Below w.heap.size w w' := by
  have hbx := below_hv w m
  obtain ⟨c0, c1, c2⟩ := cel3r (hc.kept hbx)
  have he := fun W => eql_rv m.road r W (decide (m.road = r)) (by simp)
  have HB := Lib.hid hbx
  clear hc hbx
  generalize decide (m.road = r) = d at *
  go_enter Try.func46, Try.ntmps46
  go_wp2_with (fail)
  go_ret
  exact ⟨rfl, HB.out⟩

set_option maxRecDepth 100000 in
set_option maxHeartbeats 4000000 in
theorem impl_halfAt (v : Value) (hs : List Hv) (r : Rv) (w : World) (hv : RdH w v hs) (hn : hs.length ≤ 1048577) :
    Calls Try.prog 15 #[v, .agg #[.int .i64 r.own, .int .i64 r.far, .int .i64 r.port]] w fun e w' => e = .returned (.int .i64 (atH hs r)) ∧ Below w.heap.size w w' := by
  refine (callsIn_wide (n := 8)).1 ?_
  obtain ⟨a, c, hvf⟩ := hv.form
  subst hvf
  refine callsIn_of_wp_marks Try.func15 rfl trivial ?_ rfl
  simp only [Try.ntmps15, List.size_toArray, List.length_cons, List.length_nil, Nat.reduceAdd, Nat.reduceSub, Array.replicate_succ, Array.replicate_zero, List.push_toArray, List.append_toArray, List.nil_append, List.cons_append]
  gi_wp2_with (refine ⟨trivial, ?_⟩; gi_at_call 45; refine (where_in 7 _ _ _ _ _ _ _).mono ?_; rintro e w' ⟨rfl, rfl⟩)
  have cR := (((Cel.new w 26 #[.int .i64 r.own, .int .i64 r.far, .int .i64 r.port]).alloc (.cells #[.int .i64 0] 3)).alloc (.cells #[.slice a hs.length c] 24)).alloc (.cells #[.func (.func 46) #[] #[.pointer (some ⟨w.heap.size, 0, none⟩)]] 76)
  have bS := ((Boxed.new (w.alloc (.cells #[.int .i64 r.own, .int .i64 r.far, .int .i64 r.port] 26)) 3 (.int .i64 0)).alloc (.cells #[.slice a hs.length c] 24)).alloc (.cells #[.func (.func 46) #[] #[.pointer (some ⟨w.heap.size, 0, none⟩)]] 76)
  have bL := (Boxed.new ((w.alloc (.cells #[.int .i64 r.own, .int .i64 r.far, .int .i64 r.port] 26)).alloc (.cells #[.int .i64 0] 3)) 24 (.slice a hs.length c)).alloc (.cells #[.func (.func 46) #[] #[.pointer (some ⟨w.heap.size, 0, none⟩)]] 76)
  have bF := Boxed.new (((w.alloc (.cells #[.int .i64 r.own, .int .i64 r.far, .int .i64 r.port] 26)).alloc (.cells #[.int .i64 0] 3)).alloc (.cells #[.slice a hs.length c] 24)) 76 (.func (.func 46) #[] #[.pointer (some ⟨w.heap.size, 0, none⟩)])
  simp only [World.size_alloc] at bS bL bF
  have hB0 : Below w.heap.size w ((((w.alloc (.cells #[.int .i64 r.own, .int .i64 r.far, .int .i64 r.port] 26)).alloc (.cells #[.int .i64 0] 3)).alloc (.cells #[.slice a hs.length c] 24)).alloc (.cells #[.func (.func 46) #[] #[.pointer (some ⟨w.heap.size, 0, none⟩)]] 76)) := ((((Below.refl _ w).alloc (Nat.le_refl _) _).alloc (by simp) _).alloc (by simp; omega) _).alloc (by simp; omega) _
  have hsz : ((((w.alloc (.cells #[.int .i64 r.own, .int .i64 r.far, .int .i64 r.port] 26)).alloc (.cells #[.int .i64 0] 3)).alloc (.cells #[.slice a hs.length c] 24)).alloc (.cells #[.func (.func 46) #[] #[.pointer (some ⟨w.heap.size, 0, none⟩)]] 76)).heap.size = w.heap.size + 4 := by simp
  obtain ⟨W0, hW0⟩ : ∃ W0, ((((w.alloc (.cells #[.int .i64 r.own, .int .i64 r.far, .int .i64 r.port] 26)).alloc (.cells #[.int .i64 0] 3)).alloc (.cells #[.slice a hs.length c] 24)).alloc (.cells #[.func (.func 46) #[] #[.pointer (some ⟨w.heap.size, 0, none⟩)]] 76)) = W0 := ⟨_, rfl⟩
  rw [hW0] at cR bS bL bF hB0 hsz ⊢
  clear hW0
  refine wpIn_rangeFunc_ownG rfl (by decide) (gf := 66) (lb := #[.pointer (some ⟨w.heap.size + 1 + 1, 0, none⟩), .pointer (some ⟨w.heap.size + 1 + 1 + 1, 0, none⟩)]) rfl trivial (enters_of Try.func66 (by kernel_rfl) rfl)
    (where_stops 7 (by decide) (w.heap.size + 1 + 1) (w.heap.size + 1 + 1 + 1) W0.heap.size (w.heap.size + 1) (.slice a hs.length c) hs hn 46 #[.pointer (some ⟨w.heap.size, 0, none⟩)] (fun x => decide (x.road = r)) W0
      (enters_of Try.func46 (by kernel_rfl) rfl) (Nat.le_refl _) (low_of hv hB0 (by omega) (by omega))
      (fun x W' hK => callsIn_wide.2 (clo_at x r w.heap.size W' (KpX.cel cR hK (by omega) (by omega)))) bL.cell (by omega) bF.cell (by omega) (by omega))
    (fun h k => KpX.trans h k) (fun W l o o' hl _ _ _ => KpX.putObj W l o' hl) (Below.refl _ _) (fun _ => rfl)
    (fun pre W => (pre = [] ∧ Boxed W (w.heap.size + 1) 3 (.int .i64 0)) ∧ Below w.heap.size w W)
    (fun c pre W => (c = .ret ∧ ∃ x : Nat × Hv, pre = [x] ∧ Boxed W (w.heap.size + 1) 3 (.int .i64 (x.1 : Int))) ∧ Below w.heap.size w W)
    (OwnFrom.and (OwnFrom.and (ownFrom_pure _ _) (Own.from (boxed_own _ _ _) _)) (ownFrom_below (Nat.le_refl _) (by omega)))
    (fun c => OwnFrom.and (fun s X Y row hs hg hr => by obtain ⟨e1, x, e2, e3⟩ := hs; exact ⟨e1, x, e2, boxed_own _ 3 (fun (_ : Unit) => Value.int .i64 (x.1 : Int)) () X Y row e3 hg (fun r e => (hr r e).2)⟩) (ownFrom_below (Nat.le_refl _) (by omega)))
    ⟨⟨rfl, bS⟩, hB0⟩
    (fun x => { tmps := #[.slice a hs.length c, .agg #[.int .i64 r.own, .int .i64 r.far, .int .i64 r.port], undef, .pointer (some ⟨w.heap.size, 0, none⟩), .pointer (some ⟨w.heap.size + 1, 0, none⟩), .int .i64 (x.1 : Int), .slice a hs.length c, .func (.func 46) #[] #[.pointer (some ⟨w.heap.size, 0, none⟩)], .func (.func 66) #[] #[.pointer (some ⟨w.heap.size + 1 + 1, 0, none⟩), .pointer (some ⟨w.heap.size + 1 + 1 + 1, 0, none⟩)], .int .i64 (x.1 : Int), .agg #[.int .i64 x.2.road.own, .int .i64 x.2.road.far, .int .i64 x.2.road.port, .int .i64 x.2.theirs, .int .i64 x.2.mine, .int .i64 x.2.give, .int .i64 x.2.take, .int .i64 x.2.till], undef], defers := [] }) ?assign ?body ?done ?stop
  case assign =>
    intro l x W K hK
    gi_wp2
    exact hK
  case body =>
    rintro l pre x W ⟨⟨rfl, hb⟩, hB⟩ _
    have hc := hb.cell
    have hf := hb.frozen
    gi_wp2
    exact ⟨(KeepsOthers.setCell _ _ _).from _, ⟨rfl, x, rfl, hb.set _⟩, hB.setCell (p := ⟨w.heap.size + 1, 0, none⟩) (by simp) _⟩
  case done =>
    rintro D ys W hD rfl ⟨⟨hnil, hb⟩, hB⟩ hK
    have hp : plH r hs = hs.length := plH_none fun j hj => by have := vis_nil (Nat.le_refl _) hnil j hj hj; simpa using this
    have hres : atH hs r = -1 := atH_out (by rw [hp]; exact Nat.lt_irrefl _)
    have hc := hb.cell
    have hf := hb.frozen
    gi_wp2
    have hK' := (KeepsOthers.setCell W ⟨w.heap.size + 1, 0, none⟩ (.int .i64 (-1))).same D _ hK rfl
    refine ⟨by simp, .inl ⟨_, _, rfl, run_takeDeferred hK', ?_⟩⟩
    have hc5 := cell_kept (hb.set (.int .i64 (-1))).cell (grownBy_putObj' _ D (.deferred none)) (fun r e => by cases e; exact ⟨_, hK', rfl⟩)
    refine ⟨.int .i64 (-1), ?_, by rw [hres], (hB.setCell (p := ⟨w.heap.size + 1, 0, none⟩) (by simp) _).trans (belowK_b (w := w) (Nat.le_refl _) _ D _ _ (by omega) hK' rfl rfl)⟩
    simp [results, Try.results15, go_sem, hc5]
  case stop =>
    rintro D cc pre W hD ⟨k, hk, rfl⟩ ⟨⟨rfl, x, hx, hb⟩, hB⟩ hK
    obtain ⟨hxl, hx2, hx3, hx4⟩ := vis_one hk hx
    have hp : plH r hs = x.1 := plH_at hxl (fun j hj hjl => by have := hx4 j hj hjl; simpa using this) (by rw [← hx2]; simpa using hx3)
    have hres : atH hs r = (x.1 : Int) := by rw [atH_in (by rw [hp]; exact hxl), hp]
    gi_wp2
    refine ⟨by simp, .inl ⟨_, _, rfl, run_takeDeferred hK, ?_⟩⟩
    have hc5 := cell_kept hb.cell (grownBy_putObj' _ D (.deferred none)) (fun r e => by cases e; exact ⟨_, hK, rfl⟩)
    refine ⟨.int .i64 (x.1 : Int), ?_, by rw [hres], hB.trans (belowK_b (w := w) (Nat.le_refl _) W D _ _ (by omega) hK rfl rfl)⟩
    simp [results, Try.results15, go_sem, hc5]
end Go.Proofs.Ytoeflkmhofkiaaa
