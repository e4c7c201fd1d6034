import Derived.Test.YtoeflkmhofkiaaaQdg
import Derived.Test.YtoeflkmhofkiaaaHiq
import Derived.Test.YtoeflkmhofkiaaaHsq
import Derived.Test.YtoeflkmhofkiaaaHmk
namespace Go.Proofs.Ytoeflkmhofkiaaa
open Go.RowKit
set_option maxRecDepth 100000

set_option linter.unusedSimpArgs false in
set_option maxRecDepth 100000 in
set_option maxHeartbeats 8000000 in
theorem puthalf_law (v : Value) (ms : List Hv) (m : Hv) (w : World) (hv : RdH w v ms) (hn : ms.length ≤ 9223372036854775807) :
    Calls Try.prog 6 #[v, .agg #[.int .i64 m.road.own, .int .i64 m.road.far, .int .i64 m.road.port, .int .i64 m.theirs, .int .i64 m.mine, .int .i64 m.give, .int .i64 m.take, .int .i64 m.till]] w fun e w' => e = .returned (.bool true) ∧ Below w.heap.size w w' := by
  have hbx := below_new w (.cells #[.int .i64 m.road.own, .int .i64 m.road.far, .int .i64 m.road.port, .int .i64 m.theirs, .int .i64 m.mine, .int .i64 m.give, .int .i64 m.take, .int .i64 m.till] 55)
  have hcb := Cel.new w 55 #[.int .i64 m.road.own, .int .i64 m.road.far, .int .i64 m.road.port, .int .i64 m.theirs, .int .i64 m.mine, .int .i64 m.give, .int .i64 m.take, .int .i64 m.till]
  obtain ⟨wb, hwb⟩ : ∃ wb, wb = w.alloc (.cells #[.int .i64 m.road.own, .int .i64 m.road.far, .int .i64 m.road.port, .int .i64 m.theirs, .int .i64 m.mine, .int .i64 m.give, .int .i64 m.take, .int .i64 m.till] 55) := ⟨_, rfl⟩
  rw [← hwb] at hbx hcb
  have HWB := Lib.hid hwb
  clear hwb
  have hvb := hv.below hbx
  have z1 := sz_halfS v ms 1048576 wb hvb hn (by omega) (by omega)
  obtain ⟨va, vc, rfl⟩ := hv.form
  clear hv
  have HBX := Lib.hid hbx
  by_cases h1 : (1048576 : Int) - (ms.length : Int) < 0
  · rw [if_pos h1] at z1
    clear h1 hbx hvb hcb
    go_enter Try.func6, Try.ntmps6
    go_wp2_with (fail)
    rw [← HWB.out]
    with_reducible refine z1.mono ?_
    rintro e w1 ⟨rfl, rfl⟩
    go_wp2_with (fail)
    go_ret
    exact ⟨rfl, HBX.out⟩
  · rw [if_neg h1] at z1
    have hl := sz_lawG h1
    have q : ¬ ((1048576 : Int) - (ms.length : Int) < 0) := h1
    generalize (1048576 : Int) - (ms.length : Int) = r9 at *
    have cT := fun W h => to_halfS (.slice va ms.length vc) ms W h hl
    have cS := fun u W B C (h : OwnH W B C u ms) => spec_putHalf u ms m W h.rd hl
    have cI := fun u W B C (h : OwnH W B C u ms) => impl_putHalf u ms m W h.rd hl
    have cE := fun u1 u2 W h1 h2 => eq_halfS u1 u2 ms W h1 h2 hn
    have cM := fun W => to_half m W
    have hol : ((putH ms m).1).length ≤ 1048577 := Nat.le_trans (put_len ms m) (by omega)
    generalize putH ms m = rr at *
    obtain ⟨os, ok⟩ := rr
    dsimp only at hol cS cI
    have cEo := fun (B1 C1 : Nat) (u1 : Value) (B2 C2 : Nat) (u2 : Value) W (h1 : OwnH W B1 C1 u1 os) (h2 : OwnH W B2 C2 u2 os) => eq_halfS u1 u2 os W h1.rd h2.rd (by omega)
    clear h1 hbx
    have HCB := Lib.hid (And.intro hcb (Below.refl wb.heap.size wb))
    clear hcb
    go_enter Try.func6, Try.ntmps6
    go_wp2_with (fail)
    rw [← HWB.out]
    obtain ⟨h0, hh0⟩ : ∃ h0, w.heap.size = h0 := ⟨_, rfl⟩
    rw [hh0] at HCB ⊢
    have HCC := HCB
    clear hh0 HCB HWB
    with_reducible refine z1.mono ?_
    rintro e w1 ⟨rfl, rfl⟩
    clear z1
    go_wp2_with (fail)
    have hS1 : Cel _ h0 55 #[.int .i64 m.road.own, .int .i64 m.road.far, .int .i64 m.road.port, .int .i64 m.theirs, .int .i64 m.mine, .int .i64 m.give, .int .i64 m.take, .int .i64 m.till] ∧ Below wb.heap.size wb _ := cb_keep HCC.out (show Below _ _ (World.drew _) from (Below.refl _ _).drew)
    refine wp_region_held_drew (S := fun W => Cel W h0 55 #[.int .i64 m.road.own, .int .i64 m.road.far, .int .i64 m.road.port, .int .i64 m.theirs, .int .i64 m.mine, .int .i64 m.give, .int .i64 m.take, .int .i64 m.till] ∧ Below wb.heap.size wb W) (by kernel_rfl) hS1 (fun hHeld => ?_)
    refine take_yes (i := 0) (oi := { dst := some 22, op := Op.move (Operand.tmp 0), type := 49, pos := "exact.go:4100", after := #[], guard := none }) (v := .slice va ms.length vc) rfl (by kernel_rfl) (by kernel_rfl) (by kernel_rfl) (fun _ _ _ h => h) (by rfl) (fun w hSw => by (try dsimp only at hSw); go_simp) (by assumption) ?_
    try simp only [Act.put, List.setIfInBounds_toArray, List.set_cons_zero, List.set_cons_succ]
    refine take_yes (i := 2) (oi := { dst := some 24, op := Op.load 55 (Operand.tmp 3), type := 55, pos := "exact.go:4100", after := #[], guard := none }) (v := .agg #[.int .i64 m.road.own, .int .i64 m.road.far, .int .i64 m.road.port, .int .i64 m.theirs, .int .i64 m.mine, .int .i64 m.give, .int .i64 m.take, .int .i64 m.till]) rfl (by kernel_rfl) (by kernel_rfl) (by kernel_rfl) (fun _ _ _ h => h) (by rfl) (fun w hSw => by (try dsimp only at hSw); obtain ⟨d0, d1, d2, d3, d4, d5, d6, d7⟩ := cel8hv hSw.1; go_simp) (by assumption) ?_
    try simp only [Act.put, List.setIfInBounds_toArray, List.set_cons_zero, List.set_cons_succ]
    refine wpAnyH_ready (rs := [1]) (by kernel_rfl) (by simp) ?_
    refine AllReadyH.cons (o := { dst := some 23, op := Op.call { callee := Callee.value (Operand.func 28), args := #[Operand.tmp 22], argTypes := #[49] }, type := 24, pos := "exact.go:4100", after := #[{ on := 0, ground := Ground.data }], guard := none }) rfl (fun K hK => ?_) AllReadyH.nil
    go_simp
    with_reducible refine (cT _ (hvb.below hHeld.2)).mono ?_
    rintro e wA ⟨rfl, hoA0, hA⟩
    have hoA : OwnH wA wb.heap.size (wb.heap.size + 1) (.slice (some ⟨wb.heap.size, 0, none⟩) ms.length ms.length) ms := hoA0
    have hCA := Nat.succ_le_of_lt hoA.lt
    clear hoA0
    have KA := cb_keep hHeld hA
    refine hK.out _ _ KA (fun hHeldN => ?_)
    clear hK K hHeld
    have hHeld := hHeldN
    clear hHeldN
    try simp only [Act.put, List.setIfInBounds_toArray, List.set_cons_zero, List.set_cons_succ]
    refine wpAnyH_ready (rs := [3]) (by kernel_rfl) (by simp) ?_
    refine AllReadyH.cons (o := { dst := some 25, op := Op.call { callee := Callee.value (Operand.func 31), args := #[Operand.tmp 24], argTypes := #[55] }, type := 28, pos := "exact.go:4100", after := #[{ on := 2, ground := Ground.data }, { on := 1, ground := Ground.chain }], guard := none }) rfl (fun K hK => ?_) AllReadyH.nil
    go_simp
    with_reducible refine (cM _).mono ?_
    rintro e wB ⟨rfl, hB⟩
    have KB := cb_keep hHeld hB
    have hoB := hoA.keep hB hCA
    refine hK.out _ _ KB (fun hHeldN => ?_)
    clear hK K hHeld
    have hHeld := hHeldN
    clear hHeldN
    try simp only [Act.put, List.setIfInBounds_toArray, List.set_cons_zero, List.set_cons_succ]
    refine wpAnyH_ready (rs := [4]) (by kernel_rfl) (by simp) ?_
    refine AllReadyH.cons (o := { dst := some 26, op := Op.call { callee := Callee.value (Operand.func 30), args := #[Operand.tmp 23, Operand.tmp 25], argTypes := #[24, 28] }, type := 31, pos := "exact.go:4100", after := #[{ on := 1, ground := Ground.data }, { on := 3, ground := Ground.data }, { on := 3, ground := Ground.chain }], guard := none }) rfl (fun K hK => ?_) AllReadyH.nil
    go_simp
    with_reducible refine (cS _ _ _ _ hoB).mono ?_
    rintro e w3 ⟨u, rfl, hm3, hb3⟩
    have K3 := cb_keep hHeld hb3
    have L0 := hHeld.2.size
    have L1 := hb3.size
    obtain ⟨ua, uc, rfl, -⟩ := hm3.form
    clear hoA hoB
    refine hK.out _ _ K3 (fun hHeldN => ?_)
    clear hK K hHeld
    have hHeld := hHeldN
    clear hHeldN
    try simp only [Act.put, List.setIfInBounds_toArray, List.set_cons_zero, List.set_cons_succ]
    refine take_yes (i := 5) (oi := { dst := some 21, op := Op.move (Operand.tmp 26), type := 31, pos := "exact.go:4100", after := #[{ on := 4, ground := Ground.data }], guard := none }) (v := .tuple #[.slice ua os.length uc, .bool ok]) rfl (by kernel_rfl) (by kernel_rfl) (by kernel_rfl) (fun _ _ _ h => h) (by rfl) (fun w hSw => by (try dsimp only at hSw); go_simp) (by assumption) ?_
    try simp only [Act.put, List.setIfInBounds_toArray, List.set_cons_zero, List.set_cons_succ]
    refine take_yes (i := 6) (oi := { dst := some 27, op := Op.extract (Operand.tmp 21) 0, type := 24, pos := "exact.go:4100", after := #[{ on := 5, ground := Ground.data }], guard := none }) (v := .slice ua os.length uc) rfl (by kernel_rfl) (by kernel_rfl) (by kernel_rfl) (fun _ _ _ h => h) (by rfl) (fun w hSw => by (try dsimp only at hSw); go_simp) (by assumption) ?_
    try simp only [Act.put, List.setIfInBounds_toArray, List.set_cons_zero, List.set_cons_succ]
    refine take_yes (i := 7) (oi := { dst := some 28, op := Op.extract (Operand.tmp 21) 1, type := 4, pos := "exact.go:4100", after := #[{ on := 5, ground := Ground.data }, { on := 8, ground := Ground.gcOnly Departure.lateStores }], guard := none }) (v := .bool ok) rfl (by kernel_rfl) (by kernel_rfl) (by kernel_rfl) (fun _ _ _ h => h) (by rfl) (fun w hSw => by (try dsimp only at hSw); go_simp) (by assumption) ?_
    try simp only [Act.put, List.setIfInBounds_toArray, List.set_cons_zero, List.set_cons_succ]
    refine take_yes (i := 8) (oi := { dst := some 6, op := Op.assign (Operand.tmp 27), type := 24, pos := "exact.go:4100", after := #[{ on := 6, ground := Ground.data }, { on := 4, ground := Ground.chain }, { on := 0, ground := Ground.phase }, { on := 1, ground := Ground.phase }, { on := 2, ground := Ground.phase }, { on := 3, ground := Ground.phase }, { on := 4, ground := Ground.phase }, { on := 5, ground := Ground.phase }, { on := 6, ground := Ground.phase }, { on := 7, ground := Ground.textOnly Departure.lateStores }], guard := none }) (v := .slice ua os.length uc) rfl (by kernel_rfl) (by kernel_rfl) (by kernel_rfl) (fun _ _ _ h => h) (by rfl) (fun w hSw => by (try dsimp only at hSw); go_simp) (by assumption) ?_
    try simp only [Act.put, List.setIfInBounds_toArray, List.set_cons_zero, List.set_cons_succ]
    refine take_yes (i := 9) (oi := { dst := some 7, op := Op.assign (Operand.tmp 28), type := 4, pos := "exact.go:4100", after := #[{ on := 7, ground := Ground.data }, { on := 8, ground := Ground.chain }, { on := 0, ground := Ground.phase }, { on := 1, ground := Ground.phase }, { on := 2, ground := Ground.phase }, { on := 3, ground := Ground.phase }, { on := 4, ground := Ground.phase }, { on := 5, ground := Ground.phase }, { on := 6, ground := Ground.phase }, { on := 7, ground := Ground.phase }, { on := 8, ground := Ground.phase }], guard := none }) (v := .bool ok) rfl (by kernel_rfl) (by kernel_rfl) (by kernel_rfl) (fun _ _ _ h => h) (by rfl) (fun w hSw => by (try dsimp only at hSw); go_simp) (by assumption) ?_
    try simp only [Act.put, List.setIfInBounds_toArray, List.set_cons_zero, List.set_cons_succ]
    refine wpAnyH_done (by kernel_rfl) ?_ _
    have hHeld2 := hHeld
    clear hHeld
    clear hS1
    have H3 := Lib.hid (And.intro hHeld2 (And.intro hm3 (And.intro L0 L1)))
    clear hHeld2 hm3 L0 L1 KA KB K3 hA hB hb3 hCA
    generalize wB.heap.size = b0 at *
    go_wp2_with (fail)
    with_reducible refine (cT _ (hvb.below H3.out.1.2)).mono ?_
    rintro e w4 ⟨rfl, ho4, hb4⟩
    have hlt4 := ho4.lt
    have H4 := Lib.hid (And.intro (cb_keep H3.out.1 hb4) (And.intro (H3.out.2.1.keep hb4 (Nat.le_refl _)) (And.intro ho4 (And.intro H3.out.2.2 (And.intro hb4.size hlt4)))))
    obtain ⟨d0, d1, d2, d3, d4, d5, d6, d7⟩ := cel8hv H4.out.1.1
    clear hb4 ho4 H3 hlt4
    generalize w3.heap.size = b1 at *
    go_wp2_with (fail)
    with_reducible refine (cM _).mono ?_
    rintro e w5 ⟨rfl, hb5⟩
    have H5 := Lib.hid (And.intro (cb_keep H4.out.1 hb5) (And.intro (H4.out.2.1.keep hb5 H4.out.2.2.2.2.1) (And.intro (H4.out.2.2.1.keep hb5 (Nat.succ_le_of_lt H4.out.2.2.2.2.2)) (And.intro H4.out.2.2.2.1 (And.intro (Nat.le_trans H4.out.2.2.2.2.1 hb5.size) (Nat.lt_of_lt_of_le H4.out.2.2.2.2.2 hb5.size))))))
    clear d0 d1 d2 d3 d4 d5 d6 d7 hb5 H4
    go_wp2_with (fail)
    with_reducible refine (cI _ _ _ _ H5.out.2.2.1).mono ?_
    rintro e w6 ⟨g, rfl, hg6, hb6⟩
    obtain ⟨ga, gc, rfl, -⟩ := hg6.form
    have Q5 : QdG hvK hvK wb w6 b0 b1 w5.heap.size w6.heap.size (.slice ua os.length uc) (.slice (some ⟨b1, 0, none⟩) ms.length ms.length) (.slice ga os.length gc) os ms os := by
      obtain ⟨p0, p1, p2, ⟨p3, p4⟩, p6, p7⟩ := H5.out
      exact ⟨p1.keep hb6 p6, (p2.keep hb6 p7).mono (Nat.le_refl _) p7, hg6, Below.then_ p0.2 hb6, p3, p4, p6, hb6.size, Nat.le_refl _⟩
    clear hg6 hb6 H5
    generalize w5.heap.size = b2 at *
    generalize hb3 : w6.heap.size = b3 at Q5
    clear hb3
    go_wp2_with (fail)
    with_reducible refine (cEo _ _ _ _ _ _ _ Q5.g Q5.m).mono ?_
    rintro e w7 ⟨rfl, hb7⟩
    have Q6 := Q5.kept hb7
    clear Q5 hb7
    go_wp2_with (fail)
    with_reducible refine (cT _ (hvb.below Q6.b)).mono ?_
    rintro e w8 ⟨rfl, ho8, hb8⟩
    have Q7 := Q6.kept hb8
    have y7 := ho8.rd
    clear Q6 hb8 ho8
    go_wp2_with (fail)
    with_reducible refine (cE _ _ _ Q7.x.rd y7).mono ?_
    rintro e w9 ⟨rfl, hb9⟩
    have Q8 := Q7.kept hb9
    clear Q7 hb9 y7
    have cm := mark_halfS _ ms w9 b1 b2 1 Q8.x (by omega) (by omega)
    have ck := fun g W (h : OwnH W b2 b3 g os) => (mark_halfS g os W b2 b3 1 h (by omega) (by omega)).mono (R' := fun e w' => e = .returned (.int .i64 ((1 + os.length * 8 : Nat) : Int)) ∧ OwnH w' b2 b3 g (markH 1 os.length) ∧ Below b2 W w') (fun _ _ h => ⟨h.1, h.2.1, h.2.2.1⟩)
    have ch := fun g W (h : OwnH W b2 b3 g (markH 1 os.length)) => held_halfS g 1 os.length W (OwnE.rd (B := b2) (C := b3) h) (by omega) (by omega)
    rw [show (((1 : Nat) : Int)) = (1 : Int) from rfl] at cm ck ch
    have hq1 : ¬ ((1 + ms.length * 8 : Nat) : Int) < 0 := by omega
    have hq2 : ¬ ((1 + os.length * 8 : Nat) : Int) < 0 := by omega
    generalize ((1 + ms.length * 8 : Nat) : Int) = k1 at *
    generalize ((1 + os.length * 8 : Nat) : Int) = k2 at *
    go_wp2_with (fail)
    with_reducible refine cm.mono ?_
    rintro e w10 ⟨rfl, hx10, hb10, hz10, ho10⟩
    have Q9 := Q8.markX hx10 hb10 hz10 ho10
    clear Q8 hx10 hb10 hz10 ho10 cm
    go_wp2_with (fail)
    with_reducible refine (cEo _ _ _ _ _ _ _ Q9.g Q9.m).mono ?_
    rintro e w11 ⟨rfl, hb11⟩
    have Q10 := Q9.kept hb11
    clear Q9 hb11
    go_wp2_with (fail)
    with_reducible refine (ck _ _ Q10.g).mono ?_
    rintro e w12 ⟨rfl, hg12, hb12⟩
    have Q11 := Q10.markG hg12 hb12 hb12.size
    clear Q10 hg12 hb12 ck
    go_wp2_with (fail)
    with_reducible refine (ch _ _ Q11.g).mono ?_
    rintro e w13 ⟨rfl, rfl⟩
    go_wp2_with (fail)
    have HQ := Lib.hid (Q11.kept (show Below _ _ (World.drew _) from (Below.refl _ _).drew))
    have hS2 : Cel _ h0 55 #[.int .i64 m.road.own, .int .i64 m.road.far, .int .i64 m.road.port, .int .i64 m.theirs, .int .i64 m.mine, .int .i64 m.give, .int .i64 m.take, .int .i64 m.till] ∧ Below wb.heap.size wb _ := ⟨HCC.out.1.kept HQ.out.b, HQ.out.b⟩
    clear Q11
    refine wp_region_held_drew (S := fun W => Cel W h0 55 #[.int .i64 m.road.own, .int .i64 m.road.far, .int .i64 m.road.port, .int .i64 m.theirs, .int .i64 m.mine, .int .i64 m.give, .int .i64 m.take, .int .i64 m.till] ∧ Below wb.heap.size wb W) (by kernel_rfl) hS2 (fun hHeld => ?_)
    refine take_yes (i := 0) (oi := { dst := some 80, op := Op.move (Operand.tmp 0), type := 49, pos := "exact.go:4124", after := #[], guard := none }) (v := .slice va ms.length vc) rfl (by kernel_rfl) (by kernel_rfl) (by kernel_rfl) (fun _ _ _ h => h) (by rfl) (fun w hSw => by (try dsimp only at hSw); go_simp) (by assumption) ?_
    try simp only [Act.put, List.setIfInBounds_toArray, List.set_cons_zero, List.set_cons_succ]
    refine take_yes (i := 2) (oi := { dst := some 82, op := Op.load 55 (Operand.tmp 3), type := 55, pos := "exact.go:4124", after := #[], guard := none }) (v := .agg #[.int .i64 m.road.own, .int .i64 m.road.far, .int .i64 m.road.port, .int .i64 m.theirs, .int .i64 m.mine, .int .i64 m.give, .int .i64 m.take, .int .i64 m.till]) rfl (by kernel_rfl) (by kernel_rfl) (by kernel_rfl) (fun _ _ _ h => h) (by rfl) (fun w hSw => by (try dsimp only at hSw); obtain ⟨d0, d1, d2, d3, d4, d5, d6, d7⟩ := cel8hv hSw.1; go_simp) (by assumption) ?_
    try simp only [Act.put, List.setIfInBounds_toArray, List.set_cons_zero, List.set_cons_succ]
    refine wpAnyH_ready (rs := [1]) (by kernel_rfl) (by simp) ?_
    refine AllReadyH.cons (o := { dst := some 81, op := Op.call { callee := Callee.value (Operand.func 28), args := #[Operand.tmp 80], argTypes := #[49] }, type := 24, pos := "exact.go:4124", after := #[{ on := 0, ground := Ground.data }], guard := none }) rfl (fun K hK => ?_) AllReadyH.nil
    go_simp
    with_reducible refine (cT _ (hvb.below hHeld.2)).mono ?_
    rintro e wA ⟨rfl, hoA0, hA⟩
    have hoA : OwnH wA w12.heap.size (w12.heap.size + 1) (.slice (some ⟨w12.heap.size, 0, none⟩) ms.length ms.length) ms := hoA0
    have hCA := Nat.succ_le_of_lt hoA.lt
    clear hoA0
    have KA := cb_keep hHeld hA
    refine hK.out _ _ KA (fun hHeldN => ?_)
    clear hK K hHeld
    have hHeld := hHeldN
    clear hHeldN
    try simp only [Act.put, List.setIfInBounds_toArray, List.set_cons_zero, List.set_cons_succ]
    refine wpAnyH_ready (rs := [3]) (by kernel_rfl) (by simp) ?_
    refine AllReadyH.cons (o := { dst := some 83, op := Op.call { callee := Callee.value (Operand.func 31), args := #[Operand.tmp 82], argTypes := #[55] }, type := 28, pos := "exact.go:4124", after := #[{ on := 2, ground := Ground.data }, { on := 1, ground := Ground.chain }], guard := none }) rfl (fun K hK => ?_) AllReadyH.nil
    go_simp
    with_reducible refine (cM _).mono ?_
    rintro e wB ⟨rfl, hB⟩
    have KB := cb_keep hHeld hB
    have hoB := hoA.keep hB hCA
    refine hK.out _ _ KB (fun hHeldN => ?_)
    clear hK K hHeld
    have hHeld := hHeldN
    clear hHeldN
    try simp only [Act.put, List.setIfInBounds_toArray, List.set_cons_zero, List.set_cons_succ]
    refine wpAnyH_ready (rs := [4]) (by kernel_rfl) (by simp) ?_
    refine AllReadyH.cons (o := { dst := some 84, op := Op.call { callee := Callee.value (Operand.func 13), args := #[Operand.tmp 81, Operand.tmp 83], argTypes := #[24, 28] }, type := 31, pos := "exact.go:4124", after := #[{ on := 1, ground := Ground.data }, { on := 3, ground := Ground.data }, { on := 3, ground := Ground.chain }], guard := none }) rfl (fun K hK => ?_) AllReadyH.nil
    go_simp
    with_reducible refine (cI _ _ _ _ hoB).mono ?_
    rintro e wC ⟨h, rfl, hhC, hC⟩
    have KC := cb_keep hHeld hC
    obtain ⟨ha, hc, rfl, -⟩ := hhC.form
    clear hoA hoB
    refine hK.out _ _ KC (fun hHeldN => ?_)
    clear hK K hHeld
    have hHeld := hHeldN
    clear hHeldN
    try simp only [Act.put, List.setIfInBounds_toArray, List.set_cons_zero, List.set_cons_succ]
    refine take_yes (i := 5) (oi := { dst := some 79, op := Op.move (Operand.tmp 84), type := 31, pos := "exact.go:4124", after := #[{ on := 4, ground := Ground.data }], guard := none }) (v := .tuple #[.slice ha os.length hc, .bool ok]) rfl (by kernel_rfl) (by kernel_rfl) (by kernel_rfl) (fun _ _ _ h => h) (by rfl) (fun w hSw => by (try dsimp only at hSw); go_simp) (by assumption) ?_
    try simp only [Act.put, List.setIfInBounds_toArray, List.set_cons_zero, List.set_cons_succ]
    refine take_yes (i := 6) (oi := { dst := some 85, op := Op.extract (Operand.tmp 79) 0, type := 24, pos := "exact.go:4124", after := #[{ on := 5, ground := Ground.data }], guard := none }) (v := .slice ha os.length hc) rfl (by kernel_rfl) (by kernel_rfl) (by kernel_rfl) (fun _ _ _ h => h) (by rfl) (fun w hSw => by (try dsimp only at hSw); go_simp) (by assumption) ?_
    try simp only [Act.put, List.setIfInBounds_toArray, List.set_cons_zero, List.set_cons_succ]
    refine take_yes (i := 7) (oi := { dst := some 86, op := Op.extract (Operand.tmp 79) 1, type := 4, pos := "exact.go:4124", after := #[{ on := 5, ground := Ground.data }, { on := 8, ground := Ground.gcOnly Departure.lateStores }], guard := none }) (v := .bool ok) rfl (by kernel_rfl) (by kernel_rfl) (by kernel_rfl) (fun _ _ _ h => h) (by rfl) (fun w hSw => by (try dsimp only at hSw); go_simp) (by assumption) ?_
    try simp only [Act.put, List.setIfInBounds_toArray, List.set_cons_zero, List.set_cons_succ]
    refine take_yes (i := 8) (oi := { dst := some 14, op := Op.assign (Operand.tmp 85), type := 24, pos := "exact.go:4124", after := #[{ on := 6, ground := Ground.data }, { on := 4, ground := Ground.chain }, { on := 0, ground := Ground.phase }, { on := 1, ground := Ground.phase }, { on := 2, ground := Ground.phase }, { on := 3, ground := Ground.phase }, { on := 4, ground := Ground.phase }, { on := 5, ground := Ground.phase }, { on := 6, ground := Ground.phase }, { on := 7, ground := Ground.textOnly Departure.lateStores }], guard := none }) (v := .slice ha os.length hc) rfl (by kernel_rfl) (by kernel_rfl) (by kernel_rfl) (fun _ _ _ h => h) (by rfl) (fun w hSw => by (try dsimp only at hSw); go_simp) (by assumption) ?_
    try simp only [Act.put, List.setIfInBounds_toArray, List.set_cons_zero, List.set_cons_succ]
    refine take_yes (i := 9) (oi := { dst := some 15, op := Op.assign (Operand.tmp 86), type := 4, pos := "exact.go:4124", after := #[{ on := 7, ground := Ground.data }, { on := 8, ground := Ground.chain }, { on := 0, ground := Ground.phase }, { on := 1, ground := Ground.phase }, { on := 2, ground := Ground.phase }, { on := 3, ground := Ground.phase }, { on := 4, ground := Ground.phase }, { on := 5, ground := Ground.phase }, { on := 6, ground := Ground.phase }, { on := 7, ground := Ground.phase }, { on := 8, ground := Ground.phase }], guard := none }) (v := .bool ok) rfl (by kernel_rfl) (by kernel_rfl) (by kernel_rfl) (fun _ _ _ h => h) (by rfl) (fun w hSw => by (try dsimp only at hSw); go_simp) (by assumption) ?_
    try simp only [Act.put, List.setIfInBounds_toArray, List.set_cons_zero, List.set_cons_succ]
    refine wpAnyH_done (by kernel_rfl) ?_ _
    have hHeld2 := hHeld
    clear hHeld
    have Q14 := ((HQ.out.kept hA).kept hB).kept hC
    clear hHeld2 KA KB KC hA hB hC HQ hS2 hCA
    go_wp2_with (fail)
    with_reducible refine (cEo _ _ _ _ _ _ _ hhC Q14.m).mono ?_
    rintro e w15 ⟨rfl, hb15⟩
    have Q15 := Q14.kept hb15
    clear Q14 hb15 hhC
    go_wp2_with (fail)
    with_reducible refine (ch _ _ Q15.g).mono ?_
    rintro e w16 ⟨rfl, rfl⟩
    have HB := Lib.hid (Below.then_ HBX.out Q15.b)
    clear Q15
    go_wp2_with (fail)
    go_ret
    exact ⟨rfl, HB.out⟩
end Go.Proofs.Ytoeflkmhofkiaaa
