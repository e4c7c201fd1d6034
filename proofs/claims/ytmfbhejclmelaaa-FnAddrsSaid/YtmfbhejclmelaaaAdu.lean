import Derived.Test.YtmfbhejclmelaaaAdr
import Derived.Test.YtmfbhejclmelaaaBig
namespace Go.Proofs.Ytmfbhejclmelaaa
open Go.RowKit

/-- A draw under way: the result's block, the list. -/
structure Dp (w W : World) (g : Nat) (v : Value) (n : Nat) (u : Value) (ms : List Av) : Prop where
  c : Cel W w.heap.size 26 #[.int .i64 0, .int .i64 0, .bool false, .bool false]
  b : Below w.heap.size w W
  d : Dr W g v n
  o : OwnV W (w.heap.size + 2) W.heap.size u ms
  hg : g = w.heap.size + 1
section
variable {w W W' : World} {g n : Nat} {v u : Value} {ms : List Av}
theorem Dp.grew (h : Dp w W g v n u ms) (hG : Grew g W W') (hd : Dr W' g v n) : Dp w W' g v n u ms :=
  ⟨h.c.grew hG (by have := h.hg; omega), hG.chain h.b (by have := h.hg; omega) h.b.size, hd, h.o.grew hG (by have := h.hg; omega), h.hg⟩
theorem Dp.kept (h : Dp w W g v n u ms) (hb : Below W.heap.size W W') : Dp w W' g v n u ms := ⟨h.c.kept hb, Below.then_ h.b hb, h.d.kept hb, h.o.full hb, h.hg⟩
theorem Dp.set (h : Dp w W g v n u ms) (b o : Nat) (x : Value) (hb : w.heap.size + 1 < b) (hne : ∀ k, u.ownBlock = some k → k ≠ b) : Dp w (W.setCell ⟨b, o, none⟩ x) g v n u ms := by
  have hz : (W.setCell ⟨b, o, none⟩ x).heap.size = W.heap.size := by simp
  have hB : Below (w.heap.size + 2) W (W.setCell ⟨b, o, none⟩ x) := (Below.refl _ _).setCell (p := ⟨b, o, none⟩) (show w.heap.size + 2 ≤ b by omega) x
  exact ⟨h.c.below hB (by omega), h.b.trans (hB.mono (by omega)), h.d.below hB (by have := h.hg; omega), by rw [hz]; exact h.o.keepAt (fun k hk => Below.heap_setCell _ _ _ _ (hne k hk)), h.hg⟩
/-- The result written. -/
theorem Dp.give (h : Dp w W g v n u ms) (x y z t : Value) : OwnV ((((W.setCell ⟨w.heap.size, 0, none⟩ x).setCell ⟨w.heap.size, 1, none⟩ y).setCell ⟨w.heap.size, 2, none⟩ z).setCell ⟨w.heap.size, 3, none⟩ t) w.heap.size ((((W.setCell ⟨w.heap.size, 0, none⟩ x).setCell ⟨w.heap.size, 1, none⟩ y).setCell ⟨w.heap.size, 2, none⟩ z).setCell ⟨w.heap.size, 3, none⟩ t).heap.size u ms ∧ Below w.heap.size w ((((W.setCell ⟨w.heap.size, 0, none⟩ x).setCell ⟨w.heap.size, 1, none⟩ y).setCell ⟨w.heap.size, 2, none⟩ z).setCell ⟨w.heap.size, 3, none⟩ t) := by
  refine ⟨?_, h.b.trans (below_four w W x y z t)⟩
  have hz : ((((W.setCell ⟨w.heap.size, 0, none⟩ x).setCell ⟨w.heap.size, 1, none⟩ y).setCell ⟨w.heap.size, 2, none⟩ z).setCell ⟨w.heap.size, 3, none⟩ t).heap.size = W.heap.size := by simp
  rw [hz]
  refine (h.o.keepAt (fun k hk => ?_)).mono (by omega) (Nat.le_refl _)
  have := (h.o.block k hk).1
  rw [Below.heap_setCell _ _ _ _ (by simp; omega), Below.heap_setCell _ _ _ _ (by simp; omega), Below.heap_setCell _ _ _ _ (by simp; omega), Below.heap_setCell _ _ _ _ (by simp; omega)]
end

set_option linter.unusedSimpArgs false in
set_option maxHeartbeats 4000000 in
set_option maxRecDepth 100000 in
theorem draw_putAddr (v : Value) (n : Nat) (w : World) (hv : RdB w v n) (hn : n ≤ 1048576) :
    Calls Try.prog 10 #[v] w fun e w' => ∃ (u : Value) (ms : List Av) (m : Av), e = .returned (.tuple #[u, .agg #[.int .i64 m.id, .int .i64 m.addr, .bool m.spare, .bool m.told]]) ∧ OwnV w' w.heap.size w'.heap.size u ms ∧ ms.length ≤ 9 ∧ WfA ms ∧ (Lit.int .i64 m.id).wf = true ∧ Below w.heap.size w w' := by
  have hb0 := below_new w (.cells #[.int .i64 0, .int .i64 0, .bool false, .bool false] 26)
  have hC0 := Cel.new w 26 #[.int .i64 0, .int .i64 0, .bool false, .bool false]
  have cN := new_dr v n _ (hv.below hb0 hv.lt) hn
  rw [World.size_alloc] at cN
  have HE := Lib.hid (And.intro hb0 hC0)
  clear hb0 hC0 hv
  go_enter Try.func10, Try.ntmps10
  go_wp2_with (fail)
  with_reducible refine cN.mono ?_
  rintro e w1 ⟨rfl, d1, hb1'⟩
  have hb1 : Below (w.alloc (.cells #[.int .i64 0, .int .i64 0, .bool false, .bool false] 26)).heap.size (w.alloc (.cells #[.int .i64 0, .int .i64 0, .bool false, .bool false] 26)) w1 := by rw [World.size_alloc]; exact hb1'
  have hz1 : w.heap.size + 1 < w1.heap.size := d1.blk
  have cA := any_dr _ v n w1 d1
  have H1 := Lib.hid (And.intro (HE.out.2.kept hb1) (And.intro (Below.then_ HE.out.1 hb1) hz1))
  clear cN d1 hb1 hb1' hz1 HE
  go_wp2_with (fail)
  with_reducible refine cA.mono ?_
  rintro e w2 ⟨u, ms, rfl, hO, hl, hwf, d2, hG⟩
  have P2 : Dp w w2 (w.heap.size + 1) v n u ms := ⟨H1.out.1.grew hG (by omega), hG.chain H1.out.2.1 (by omega) H1.out.2.1.size, d2, hO.mono (by have := H1.out.2.2; omega) (Nat.le_refl _), rfl⟩
  have HP2 := Lib.hid (And.intro P2 (And.intro hl hwf))
  obtain ⟨ua, uc, rfl, -⟩ := hO.form
  have cM := addr_dr _ v n w2 d2
  have HLT := Lib.hid (show w.heap.size + 1 < w2.heap.size from d2.blk)
  clear cA d2 hO hl hwf hG P2 H1
  go_wp2_with (fail)
  with_reducible refine cM.mono ?_
  rintro e w3 ⟨m, rfl, hm, d3, hG3⟩
  have hb4 := below_av w3 m
  have P3 := HP2.out.1.grew hG3 d3
  have HP3 := Lib.hid (And.intro (P3.kept hb4) (And.intro hm (And.intro (Cel.new w3 26 #[.int .i64 m.id, .int .i64 m.addr, .bool m.spare, .bool m.told]) (And.intro (show w.heap.size + 1 < w3.heap.size from Nat.lt_of_lt_of_le HLT.out hG3.size) (show ∀ k, (Value.slice ua ms.length uc).ownBlock = some k → k ≠ w3.heap.size from fun k hk => by have := (P3.o.block k hk).2; omega)))))
  have d4 := d3.kept hb4
  clear hb4 d3 hG3 hm P3 cM HLT
  have cO := once_dr _ v n 10 10 rfl _ d4 (by omega) (by omega)
  go_wp2_with (fail)
  generalize w3.alloc (.cells #[.int .i64 m.id, .int .i64 m.addr, .bool m.spare, .bool m.told] 26) = w4 at *
  generalize hb6 : w3.heap.size = b6 at *
  clear hb6
  with_reducible refine cO.mono ?_
  rintro e w5 ⟨bb, rfl, d5, o5⟩
  have HP5 := Lib.hid (And.intro (HP3.out.1.grew o5.grew d5) (HP3.out.2.2.1.only o5 (by have := HP3.out.2.2.2.1; omega)))
  have HM := Lib.hid (And.intro HP2.out.2 (And.intro HP3.out.2.1 HP3.out.2.2.2))
  clear cO d4 o5 HP3 HP2
  cases bb with
  | false =>
    go_wp2_with (fail)
    have HPZ := Lib.hid (And.intro (HP5.out.1.kept (show Below _ _ (World.drew _) from (Below.refl _ _).drew)) (HP5.out.2.kept (show Below _ _ (World.drew _) from (Below.refl _ _).drew)))
    have hS6 := cel4a HPZ.out.2
    clear HP5 d5
    refine wp_region_held_drew (S := fun W => W.cell? ⟨b6, 0, none⟩ = some (.int .i64 m.id) ∧ W.cell? ⟨b6, 1, none⟩ = some (.int .i64 m.addr) ∧ W.cell? ⟨b6, 2, none⟩ = some (.bool m.spare) ∧ W.cell? ⟨b6, 3, none⟩ = some (.bool m.told)) (by kernel_rfl) hS6 (fun hHeld => ?_)
    clear hS6
    generalize World.drew _ = wd at *
    refine take_yes (i := 0) (oi := { dst := some 19, op := Op.move (Operand.tmp 5), type := 24, pos := "l11_addrs.go:107", after := #[], guard := none }) (v := .slice ua ms.length uc) rfl (by kernel_rfl) (by kernel_rfl) (by kernel_rfl) (fun _ _ _ h => h) (by rfl) (fun w hSw => by (try dsimp only at hSw); go_simp) (by assumption) ?_
    try simp only [Act.put, List.setIfInBounds_toArray, List.set_cons_zero, List.set_cons_succ]
    refine take_yes (i := 1) (oi := { dst := some 20, op := Op.load 26 (Operand.tmp 6), type := 26, pos := "l11_addrs.go:107", after := #[{ on := 2, ground := Ground.gcOnly Departure.lateStores }], guard := none }) (v := .agg #[.int .i64 m.id, .int .i64 m.addr, .bool m.spare, .bool m.told]) rfl (by kernel_rfl) (by kernel_rfl) (by kernel_rfl) (fun _ _ _ h => h) (by rfl) (fun w hSw => by (try dsimp only at hSw); go_simp) (by assumption) ?_
    try simp only [Act.put, List.setIfInBounds_toArray, List.set_cons_zero, List.set_cons_succ]
    refine take_yes (i := 2) (oi := { dst := some 2, op := Op.assign (Operand.tmp 19), type := 24, pos := "l11_addrs.go:107", after := #[{ on := 0, ground := Ground.data }, { on := 0, ground := Ground.phase }, { on := 1, ground := Ground.textOnly Departure.lateStores }], guard := none }) (v := .slice ua ms.length uc) rfl (by kernel_rfl) (by kernel_rfl) (by kernel_rfl) (fun _ _ _ h => h) (by rfl) (fun w hSw => by (try dsimp only at hSw); go_simp) (by assumption) ?_
    try simp only [Act.put, List.setIfInBounds_toArray, List.set_cons_zero, List.set_cons_succ]
    refine wpAnyH_ready (rs := [3]) (by kernel_rfl) (by simp) ?_
    refine AllReadyH.cons (o := { dst := none, op := Op.store 26 (Operand.tmp 3) (Operand.tmp 20), type := 0, pos := "l11_addrs.go:107", after := #[{ on := 1, ground := Ground.data }, { on := 2, ground := Ground.chain }, { on := 0, ground := Ground.phase }, { on := 1, ground := Ground.phase }, { on := 2, ground := Ground.phase }], guard := none }) rfl (fun K hK => ?_) AllReadyH.nil
    obtain ⟨q0, q1, q2, q3⟩ := cel4a HPZ.out.1.c
    have f0 := HPZ.out.1.c.frozen 0
    have f1 := HPZ.out.1.c.frozen 1
    have f2 := HPZ.out.1.c.frozen 2
    have f3 := HPZ.out.1.c.frozen 3
    go_simp
    have HG := Lib.hid (HPZ.out.1.give (.int .i64 m.id) (.int .i64 m.addr) (.bool m.spare) (.bool m.told))
    have hC9 := (((HPZ.out.2.other ⟨w.heap.size, 0, none⟩ (.int .i64 m.id) (by have := HM.out.2.2.1; simp; omega)).other ⟨w.heap.size, 1, none⟩ (.int .i64 m.addr) (by have := HM.out.2.2.1; simp; omega)).other ⟨w.heap.size, 2, none⟩ (.bool m.spare) (by have := HM.out.2.2.1; simp; omega)).other ⟨w.heap.size, 3, none⟩ (.bool m.told) (by have := HM.out.2.2.1; simp; omega)
    refine hK.out _ _ (cel4a hC9) (fun hHeldN => ?_)
    clear hK K hHeld
    have hHeld := hHeldN
    clear hHeldN
    try simp only [Act.put, List.setIfInBounds_toArray, List.set_cons_zero, List.set_cons_succ]
    refine wpAnyH_done (by kernel_rfl) ?_ _
    have hHeld2 := hHeld
    clear hHeld
    clear hHeld2 f0 f1 f2 f3 hC9
    go_wp2_with (fail)
    exact bodyPost_ret (v := .tuple #[.slice ua ms.length uc, .agg #[.int .i64 m.id, .int .i64 m.addr, .bool m.spare, .bool m.told]]) (by simp [results, Try.results10, go_sem, q0, q1, q2, q3]) rfl ⟨_, ms, ⟨m.id, m.addr, m.spare, m.told⟩, rfl, HG.out.1, HM.out.1.1, HM.out.1.2, HM.out.2.1, HG.out.2⟩
  | true =>
    have hb7 := below_ints w5 #[.int .i64 0, .int .i64 65535, .int .i64 65536, .int .i64 (-1)]
    have cp := pick_mem _ v n _ (d5.kept hb7) w5.heap.size 4 4 _ [0, 65535, 65536, -1] rfl rfl (Cel.new w5 3 #[.int .i64 0, .int .i64 65535, .int .i64 65536, .int .i64 (-1)]) (by have := d5.blk; omega) (by omega) (by omega)
    have HP7 := Lib.hid (And.intro (HP5.out.1.kept hb7) (HP5.out.2.kept hb7))
    clear HP5 d5 hb7
    go_wp2_with (fail)
    with_reducible refine cp.mono ?_
    rintro e w8 ⟨x, -, rfl, d8, o8⟩
    have HP8 := Lib.hid (And.intro (HP7.out.1.grew o8.grew d8) (HP7.out.2.only o8 (by have := HM.out.2.2.1; omega)))
    obtain ⟨-, q1, -, -⟩ := cel4a HP8.out.2
    have f1 := HP8.out.2.frozen 1
    clear HP7 cp d8 o8
    go_upto_region 6 with (fail)
    have hC9 : Cel (w8.setCell ⟨b6, 1, none⟩ (.int .i64 x)) b6 26 #[.int .i64 m.id, .int .i64 x, .bool m.spare, .bool m.told] := by
      have := HP8.out.2.set 1 (.int .i64 x)
      simpa using this
    have HP9 := Lib.hid (And.intro (HP8.out.1.set b6 1 (.int .i64 x) (by have := HM.out.2.2.1; omega) HM.out.2.2.2) hC9)
    clear HP8 q1 f1 hC9
    generalize w8.setCell ⟨b6, 1, none⟩ (.int .i64 x) = w9 at *
    have HPZ := Lib.hid (And.intro (HP9.out.1.kept (show Below _ _ (World.drew _) from (Below.refl _ _).drew)) (HP9.out.2.kept (show Below _ _ (World.drew _) from (Below.refl _ _).drew)))
    have hS6 := cel4a HPZ.out.2
    clear HP9
    go_wp2_with (fail)
    refine wp_region_held_drew (S := fun W => W.cell? ⟨b6, 0, none⟩ = some (.int .i64 m.id) ∧ W.cell? ⟨b6, 1, none⟩ = some (.int .i64 x) ∧ W.cell? ⟨b6, 2, none⟩ = some (.bool m.spare) ∧ W.cell? ⟨b6, 3, none⟩ = some (.bool m.told)) (by kernel_rfl) hS6 (fun hHeld => ?_)
    clear hS6
    generalize World.drew _ = wd at *
    refine take_yes (i := 0) (oi := { dst := some 19, op := Op.move (Operand.tmp 5), type := 24, pos := "l11_addrs.go:107", after := #[], guard := none }) (v := .slice ua ms.length uc) rfl (by kernel_rfl) (by kernel_rfl) (by kernel_rfl) (fun _ _ _ h => h) (by rfl) (fun w hSw => by (try dsimp only at hSw); go_simp) (by assumption) ?_
    try simp only [Act.put, List.setIfInBounds_toArray, List.set_cons_zero, List.set_cons_succ]
    refine take_yes (i := 1) (oi := { dst := some 20, op := Op.load 26 (Operand.tmp 6), type := 26, pos := "l11_addrs.go:107", after := #[{ on := 2, ground := Ground.gcOnly Departure.lateStores }], guard := none }) (v := .agg #[.int .i64 m.id, .int .i64 x, .bool m.spare, .bool m.told]) rfl (by kernel_rfl) (by kernel_rfl) (by kernel_rfl) (fun _ _ _ h => h) (by rfl) (fun w hSw => by (try dsimp only at hSw); go_simp) (by assumption) ?_
    try simp only [Act.put, List.setIfInBounds_toArray, List.set_cons_zero, List.set_cons_succ]
    refine take_yes (i := 2) (oi := { dst := some 2, op := Op.assign (Operand.tmp 19), type := 24, pos := "l11_addrs.go:107", after := #[{ on := 0, ground := Ground.data }, { on := 0, ground := Ground.phase }, { on := 1, ground := Ground.textOnly Departure.lateStores }], guard := none }) (v := .slice ua ms.length uc) rfl (by kernel_rfl) (by kernel_rfl) (by kernel_rfl) (fun _ _ _ h => h) (by rfl) (fun w hSw => by (try dsimp only at hSw); go_simp) (by assumption) ?_
    try simp only [Act.put, List.setIfInBounds_toArray, List.set_cons_zero, List.set_cons_succ]
    refine wpAnyH_ready (rs := [3]) (by kernel_rfl) (by simp) ?_
    refine AllReadyH.cons (o := { dst := none, op := Op.store 26 (Operand.tmp 3) (Operand.tmp 20), type := 0, pos := "l11_addrs.go:107", after := #[{ on := 1, ground := Ground.data }, { on := 2, ground := Ground.chain }, { on := 0, ground := Ground.phase }, { on := 1, ground := Ground.phase }, { on := 2, ground := Ground.phase }], guard := none }) rfl (fun K hK => ?_) AllReadyH.nil
    obtain ⟨q0, q1, q2, q3⟩ := cel4a HPZ.out.1.c
    have f0 := HPZ.out.1.c.frozen 0
    have f1 := HPZ.out.1.c.frozen 1
    have f2 := HPZ.out.1.c.frozen 2
    have f3 := HPZ.out.1.c.frozen 3
    go_simp
    have HG := Lib.hid (HPZ.out.1.give (.int .i64 m.id) (.int .i64 x) (.bool m.spare) (.bool m.told))
    have hC9 := (((HPZ.out.2.other ⟨w.heap.size, 0, none⟩ (.int .i64 m.id) (by have := HM.out.2.2.1; simp; omega)).other ⟨w.heap.size, 1, none⟩ (.int .i64 x) (by have := HM.out.2.2.1; simp; omega)).other ⟨w.heap.size, 2, none⟩ (.bool m.spare) (by have := HM.out.2.2.1; simp; omega)).other ⟨w.heap.size, 3, none⟩ (.bool m.told) (by have := HM.out.2.2.1; simp; omega)
    refine hK.out _ _ (cel4a hC9) (fun hHeldN => ?_)
    clear hK K hHeld
    have hHeld := hHeldN
    clear hHeldN
    try simp only [Act.put, List.setIfInBounds_toArray, List.set_cons_zero, List.set_cons_succ]
    refine wpAnyH_done (by kernel_rfl) ?_ _
    have hHeld2 := hHeld
    clear hHeld
    clear hHeld2 f0 f1 f2 f3 hC9
    go_wp2_with (fail)
    exact bodyPost_ret (v := .tuple #[.slice ua ms.length uc, .agg #[.int .i64 m.id, .int .i64 x, .bool m.spare, .bool m.told]]) (by simp [results, Try.results10, go_sem, q0, q1, q2, q3]) rfl ⟨_, ms, ⟨m.id, x, m.spare, m.told⟩, rfl, HG.out.1, HM.out.1.1, HM.out.1.2, HM.out.2.1, HG.out.2⟩
end Go.Proofs.Ytmfbhejclmelaaa
