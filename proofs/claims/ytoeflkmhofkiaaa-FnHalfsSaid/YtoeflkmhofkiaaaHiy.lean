import Derived.Test.YtoeflkmhofkiaaaHia
namespace Go.Proofs.Ytoeflkmhofkiaaa
open Go.RowKit Go.Shelf
set_option maxRecDepth 100000

attribute [local go_sem] Oper.semAt_some

theorem erow_mono {W : World} {B B' : Nat} {e : TypeId} {size : Nat} {v : Value} {k : Nat} {xs : List Value} (h : W.ownsRow B e size v k xs) (hb : B' ≤ B) : W.ownsRow B' e size v k xs := by
  obtain ⟨h1, h2⟩ := h
  refine ⟨h1, ?_⟩
  rcases h2 with h2 | ⟨g, cap, cur, hv, hg, r⟩
  · exact .inl h2
  · exact .inr ⟨g, cap, cur, hv, Nat.le_trans hb hg, r⟩
theorem erow_own {α : Type} {K : EK α} {W : World} {B : Nat} {v : Value} {xs : List α} (h : W.ownsRow B K.t K.n v xs.length (K.flat xs)) : OwnE K W B W.heap.size v xs := by
  refine ⟨h, fun g hg => ?_⟩
  rcases h.2 with ⟨rfl, -⟩ | ⟨g', cap', cur, rfl, -, hh, -⟩
  · cases hg
  · simp [Value.ownBlock] at hg
    subst hg
    exact (Array.getElem?_eq_some_iff.1 hh).1
/-- Behind an append and the store of its answer into the box B: what the round owes. -/
theorem box_app {W w1 : World} {n₀ n₁ B : Nat} {t e : TypeId} {size : Nat} {v v' : Value} {k m : Nat} {xs ys : List Value} {tmp : Obj}
    (hv : Boxed W B t v) (hte : t ≠ e) (hrow : W.ownsRow n₁ e size v k xs) (hn : n₁ ≤ W.heap.size) (h01 : n₀ ≤ n₁) (hB : n₀ ≤ B)
    (hown' : w1.ownsRow n₁ e size v' m ys) (hgrow : (W.alloc tmp).grownBy w1 v.ownBlock) :
    Boxed w1 B t v ∧ Boxed (w1.setCell ⟨B, 0, none⟩ v') B t v' ∧ (w1.setCell ⟨B, 0, none⟩ v').ownsRow n₁ e size v' m ys ∧ KeepsOthers W (w1.setCell ⟨B, 0, none⟩ v') ∧ Below n₀ W (w1.setCell ⟨B, 0, none⟩ v') ∧ KpX n₁ B W (w1.setCell ⟨B, 0, none⟩ v') := by
  obtain ⟨h1, h2, -, h4, h5⟩ := hv.appended hte (erow_mono hrow h01) (by omega) hB (erow_mono hown' h01) hgrow
  refine ⟨h1, h2, hown'.kept (grownBy_setCell' w1 B v') (.inr (h1.not_row hte hown').symm), h4, h5, ⟨h4.size, fun i hi hne => ?_⟩⟩
  rw [Below.heap_setCell _ _ _ _ hne, hgrow.block i (by simp; omega) (fun e' => ?_), Below.heap_alloc _ _ _ (by omega)]
  rcases hrow.2 with ⟨rfl, _⟩ | ⟨g, cap, cur, rfl, hg, _⟩
  · simp [Value.ownBlock] at e'
  · obtain rfl : i = g := by simpa [Value.ownBlock] using e'
    omega

theorem cells8_new (W : World) (x0 x1 x2 x3 x4 x5 x6 x7 : Value) (t : TypeId) : ∀ (j : Nat) (u : Value), [x0, x1, x2, x3, x4, x5, x6, x7][j]? = some u → (W.alloc (.cells #[x0, x1, x2, x3, x4, x5, x6, x7] t)).cell? ((⟨W.heap.size, 0, none⟩ : Addr).add j) = some u := fun j u hj => by
  rw [Addr.add_mid, Nat.zero_add, (Cel.new W t _).cell j, ← hj]
  simp

set_option maxRecDepth 100000 in
theorem clo_young (m : Hv) (n : Int) (B : Nat) (w : World) (hc : w.cell? ⟨B, 0, none⟩ = some (.int .i64 n)) (hB : B < w.heap.size) :
    Calls Try.prog 51 #[.agg #[.int .i64 m.road.own, .int .i64 m.road.far, .int .i64 m.road.port, .int .i64 m.theirs, .int .i64 m.mine, .int .i64 m.give, .int .i64 m.take, .int .i64 m.till], .pointer (some ⟨B, 0, none⟩)] w fun e w' => e = .returned (.bool (decide (n < m.till))) ∧ Below w.heap.size w w' := by
  have hbx := below_hv w m
  have c0 : (w.alloc (.cells #[.int .i64 m.road.own, .int .i64 m.road.far, .int .i64 m.road.port, .int .i64 m.theirs, .int .i64 m.mine, .int .i64 m.give, .int .i64 m.take, .int .i64 m.till] 28)).cell? ⟨B, 0, none⟩ = some (.int .i64 n) := by rw [← hc]; exact Below.cell hbx hB
  have HB := Lib.hid hbx
  clear hc hbx
  go_enter Try.func51, Try.ntmps51
  go_wp2_with (fail)
  go_ret
  exact ⟨rfl, HB.out⟩

set_option maxRecDepth 100000 in
set_option maxHeartbeats 4000000 in
theorem impl_younger (v : Value) (hs : List Hv) (n : Int) (w : World) (hv : RdH w v hs) (hn : hs.length ≤ 1048577) :
    Calls Try.prog 18 #[v, .int .i64 n] w fun e w' => ∃ u, e = .returned u ∧ OwnH w' w.heap.size w'.heap.size u (youngH hs n) ∧ Below w.heap.size w w' := by
  refine (callsIn_wide (n := 8)).1 ?_
  obtain ⟨i0, hi, hz0, hz1, hz2⟩ := einfo hvK
  obtain ⟨a, c, hvf⟩ := hv.form
  subst hvf
  refine callsIn_of_wp_marks Try.func18 rfl trivial ?_ rfl
  simp only [Try.ntmps18, List.size_toArray, List.length_cons, List.length_nil, Nat.reduceAdd, Nat.reduceSub, Array.replicate_succ, Array.replicate_zero, List.push_toArray, List.append_toArray, List.nil_append, List.cons_append]
  gi_wp2_with (refine ⟨trivial, ?_⟩; gi_at_call 45; refine (where_in 7 _ _ _ _ _ _ _).mono ?_; rintro e w' ⟨rfl, rfl⟩)
  have cN := (((Boxed.new w 3 (.int .i64 n)).alloc (.cells #[.slice none 0 0] 24)).alloc (.cells #[.slice a hs.length c] 24)).alloc (.cells #[.func (.func 51) #[] #[.pointer (some ⟨w.heap.size, 0, none⟩)]] 76)
  have bS := ((Boxed.new (w.alloc (.cells #[.int .i64 n] 3)) 24 (.slice none 0 0)).alloc (.cells #[.slice a hs.length c] 24)).alloc (.cells #[.func (.func 51) #[] #[.pointer (some ⟨w.heap.size, 0, none⟩)]] 76)
  have bL := (Boxed.new ((w.alloc (.cells #[.int .i64 n] 3)).alloc (.cells #[.slice none 0 0] 24)) 24 (.slice a hs.length c)).alloc (.cells #[.func (.func 51) #[] #[.pointer (some ⟨w.heap.size, 0, none⟩)]] 76)
  have bF := Boxed.new (((w.alloc (.cells #[.int .i64 n] 3)).alloc (.cells #[.slice none 0 0] 24)).alloc (.cells #[.slice a hs.length c] 24)) 76 (.func (.func 51) #[] #[.pointer (some ⟨w.heap.size, 0, none⟩)])
  simp only [World.size_alloc] at bS bL bF
  have hB0 : Below w.heap.size w ((((w.alloc (.cells #[.int .i64 n] 3)).alloc (.cells #[.slice none 0 0] 24)).alloc (.cells #[.slice a hs.length c] 24)).alloc (.cells #[.func (.func 51) #[] #[.pointer (some ⟨w.heap.size, 0, none⟩)]] 76)) := ((((Below.refl _ w).alloc (Nat.le_refl _) _).alloc (by simp) _).alloc (by simp; omega) _).alloc (by simp; omega) _
  have hsz : ((((w.alloc (.cells #[.int .i64 n] 3)).alloc (.cells #[.slice none 0 0] 24)).alloc (.cells #[.slice a hs.length c] 24)).alloc (.cells #[.func (.func 51) #[] #[.pointer (some ⟨w.heap.size, 0, none⟩)]] 76)).heap.size = w.heap.size + 4 := by simp
  obtain ⟨W0, hW0⟩ : ∃ W0, ((((w.alloc (.cells #[.int .i64 n] 3)).alloc (.cells #[.slice none 0 0] 24)).alloc (.cells #[.slice a hs.length c] 24)).alloc (.cells #[.func (.func 51) #[] #[.pointer (some ⟨w.heap.size, 0, none⟩)]] 76)) = W0 := ⟨_, rfl⟩
  rw [hW0] at cN bS bL bF hB0 hsz ⊢
  clear hW0
  refine wpIn_rangeFunc_ownH rfl (by decide) (gf := 66) (lb := #[.pointer (some ⟨w.heap.size + 1 + 1, 0, none⟩), .pointer (some ⟨w.heap.size + 1 + 1 + 1, 0, none⟩)]) rfl trivial (enters_of Try.func66 (by kernel_rfl) rfl)
    (where_stops 7 (by decide) (w.heap.size + 1 + 1) (w.heap.size + 1 + 1 + 1) W0.heap.size (w.heap.size + 1) (.slice a hs.length c) hs hn 51 #[.pointer (some ⟨w.heap.size, 0, none⟩)] (fun x => decide (n < x.till)) W0
      (enters_of Try.func51 (by kernel_rfl) rfl) (Nat.le_refl _) (low_of hv hB0 (by omega) (by omega))
      (fun x W' hK => callsIn_wide.2 (clo_young x n w.heap.size W' ((hK.cell (by omega) (by omega)).trans cN.cell) (by have := hK.1; omega))) bL.cell (by omega) bF.cell (by omega) (by omega))
    (fun h k => KpX.trans h k) (fun W l o o' hl _ _ _ => KpX.putObj W l o' hl) (Below.refl _ _) (fun _ => rfl)
    (fun pre W => (∃ v, Boxed W (w.heap.size + 1) 24 v ∧ W.ownsRow W0.heap.size 28 8 v pre.length (hvK.flat (pre.map (·.2))) ∧ True) ∧ (Below w.heap.size w W ∧ W0.heap.size ≤ W.heap.size))
    (fun _ _ _ => False)
    (OwnFrom.and (Own.from (holdsRow_own W0.heap.size (w.heap.size + 1) 24 28 8 (fun (pre : List (Nat × Hv)) => pre.length) (fun pre => hvK.flat (pre.map (·.2))) (fun _ _ => True)) _) (OwnFrom.and (ownFrom_below (Nat.le_refl _) (by omega)) (fun _ X Y row hs hg _ => Nat.le_trans hs hg.size)))
    (fun _ _ _ _ _ hs _ _ => hs)
    ⟨⟨_, bS, World.ownsRow_nil _ _ _ _, trivial⟩, hB0, Nat.le_refl _⟩
    (fun x a' W => ∃ Bx, W0.heap.size ≤ Bx ∧ Cel W Bx 28 #[.int .i64 x.2.road.own, .int .i64 x.2.road.far, .int .i64 x.2.road.port, .int .i64 x.2.theirs, .int .i64 x.2.mine, .int .i64 x.2.give, .int .i64 x.2.take, .int .i64 x.2.till] ∧ a' = { tmps := #[.slice a hs.length c, .int .i64 n, undef, .pointer (some ⟨w.heap.size, 0, none⟩), .slice none 0 0, .pointer (some ⟨w.heap.size + 1, 0, none⟩), undef, .pointer (some ⟨Bx, 0, none⟩), .slice a hs.length c, .func (.func 51) #[] #[.pointer (some ⟨w.heap.size, 0, none⟩)], .func (.func 66) #[] #[.pointer (some ⟨w.heap.size + 1 + 1, 0, none⟩), .pointer (some ⟨w.heap.size + 1 + 1 + 1, 0, none⟩)], .int .i64 (x.1 : Int), .agg #[.int .i64 x.2.road.own, .int .i64 x.2.road.far, .int .i64 x.2.road.port, .int .i64 x.2.theirs, .int .i64 x.2.mine, .int .i64 x.2.give, .int .i64 x.2.take, .int .i64 x.2.till], undef, undef, undef, undef, undef], defers := [] })
    (fun x a' _ X Y row hs hg hr => by obtain ⟨Bx, h1, h2, h3⟩ := hs; exact ⟨Bx, h1, h2.grown hg (fun e' => by obtain ⟨-, o, ho, hc⟩ := hr Bx e'.symm; rw [show X.heap[Bx]? = _ from h2] at ho; cases ho; cases hc), h3⟩)
    ?assign ?body ?done ?stop
  case assign =>
    rintro l pre x W K ⟨⟨v, hb, hr, -⟩, hB1, hl2⟩ hK
    gi_wp2
    exact hK _ _ ((KeepsOthers.alloc _ _).from _) (KpX.below (below_new W _) hl2) ⟨⟨v, hb.alloc _, hr.alloc _, trivial⟩, hB1.alloc hB1.size _, by simp; omega⟩ ⟨W.heap.size, hl2, Cel.new W 28 _, rfl⟩
  case body =>
    rintro l pre x a' W hl ⟨r, hr⟩ ⟨⟨v, hv1, hrow, -⟩, hB, hl2⟩ ⟨Bx, hBx, hX, rfl⟩ hlt
    have hc := hv1.cell
    obtain ⟨d0, d1, d2, d3, d4, d5, d6, d7⟩ := cel8hv hX
    gi_wp2_with (gi_at_builtin; refine wpListIn_append_own _ rfl _ _ 24 rfl W0.heap.size 28 i0 hvK.zv 8 64 uHv hi hz0 hz1 hz2 rfl (by decide) _ _ _ rfl (hrow.alloc _) ⟨W.heap.size, 0, none⟩ 1 1 [.int .i64 x.2.road.own, .int .i64 x.2.road.far, .int .i64 x.2.road.port, .int .i64 x.2.theirs, .int .i64 x.2.mine, .int .i64 x.2.give, .int .i64 x.2.take, .int .i64 x.2.till] rfl rfl (cells8_new _ _ _ _ _ _ _ _ _ _) (by simp [Value.oneCell']) (by unfold maxLen; omega) (by omega) (by simp; omega) ?_; intro v' w1 hown' hgrow _; obtain ⟨g', cap', rfl⟩ := ownsRow_succ hown'; obtain ⟨hv3, hv2, hr2, hk2, hb2, hkp⟩ := box_app hv1 (by decide) hrow hl2 (show w.heap.size ≤ W0.heap.size by omega) (Nat.le_succ _) hown' hgrow; have hc1 := hv3.cell; have hf1 := hv3.frozen)
    exact ⟨hk2.from _, hkp, ⟨⟨_, hv2, by rw [List.map_append, eflat_append, List.length_append]; exact hr2, trivial⟩, hB.trans hb2, Nat.le_trans hl2 hkp.1⟩⟩
  case done =>
    rintro D ys W hD rfl ⟨⟨v, hv1, hrow, -⟩, hB, -⟩ hK
    have hc := hv1.cell
    have hfl : (visH (fun x => decide (n < x.till)) hs hs.length).map (·.2) = youngH hs n := by rw [vis_filter _ _ _ (Nat.le_refl _), List.take_length]; rfl
    have hlen : (visH (fun x => decide (n < x.till)) hs hs.length).length = (youngH hs n).length := by rw [← hfl, List.length_map]
    rw [hlen] at hrow
    rw [hfl] at hrow
    obtain ⟨sa, sc, hsf, -⟩ := (erow_own (K := hvK) hrow).form
    subst hsf
    gi_wp2
    refine ⟨by simp, .inl ⟨_, _, rfl, run_takeDeferred hK, ?_⟩⟩
    exact ⟨_, results_tmp rfl _ _ _, _, rfl, erow_own (K := hvK) (erow_mono (ownsRow_putObj hrow _ hK rfl) (by omega)), hB.trans (belowK_b (w := w) (Nat.le_refl _) W D _ _ (by omega) hK rfl rfl)⟩
  case stop =>
    rintro D c pre W _ _ h _
    exact h.elim
end Go.Proofs.Ytoeflkmhofkiaaa
