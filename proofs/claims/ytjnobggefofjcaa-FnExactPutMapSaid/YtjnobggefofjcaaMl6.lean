import Derived.Test.YtjnobggefofjcaaMl3
import Derived.Test.YtjnobggefofjcaaMpx
namespace Go.Proofs.Ytjnobggefofjcaa
open Go.RowKit

theorem putMap_len (ms : List Mp) (m : Mp) : (putMap ms m).1.length ≤ ms.length + 1 := by
  unfold putMap
  split
  · rw [longer_length]; exact Nat.le_refl _
  · exact Nat.le_succ _

set_option maxRecDepth 100000 in
set_option maxHeartbeats 8000000 in
theorem putmap_law (v : Value) (ms : List Mp) (m : Mp) (w : World) (hv : RdM w v ms) (hn : ms.length ≤ 9223372036854775807) :
    Calls Try.prog 5 #[v, .agg m.cells] w fun e w' => e = .returned (.bool true) ∧ Below w.heap.size w w' := by
  have hbx : Below w.heap.size w (w.alloc (.cells #[.int .i64 m.sub, .int .i64 m.seq, .int .i64 m.len] 41)) := below_new _ _
  have hCel := Cel.new w 41 #[.int .i64 m.sub, .int .i64 m.seq, .int .i64 m.len]
  obtain ⟨wb, hwb⟩ : ∃ wb, wb = (w.alloc (.cells #[.int .i64 m.sub, .int .i64 m.seq, .int .i64 m.len] 41)) := ⟨_, rfl⟩
  rw [← hwb] at hbx hCel
  have hvb := hv.below hbx
  have HCB := Lib.hid (⟨hCel.cell 0, hCel.cell 1, hCel.cell 2, Below.refl _ _⟩ : wb.cell? ⟨w.heap.size, 0, none⟩ = some (.int .i64 m.sub) ∧ wb.cell? ⟨w.heap.size, 1, none⟩ = some (.int .i64 m.seq) ∧ wb.cell? ⟨w.heap.size, 2, none⟩ = some (.int .i64 m.len) ∧ Below wb.heap.size wb wb)
  have HBX := Lib.hid hbx
  have HWB := Lib.hid hwb
  have z1 := sz_maps v ms 1048576 wb hvb hn (by omega) (by omega)
  clear hbx hCel hwb hv
  unfold Mp.cells
  by_cases h1 : (1048576 : Int) - (ms.length : Int) < 0
  · rw [if_pos h1] at z1
    clear h1
    go_enter Try.func5, Try.ntmps5
    go_wp2_with (fail)
    rw [← HWB.out]
    with_reducible refine z1.mono ?_
    rintro e w1 ⟨rfl, rfl⟩
    go_wp2_with (fail)
    go_ret
    exact ⟨rfl, HBX.out⟩
  · rw [if_neg h1] at z1
    have hl := sz_law ms h1
    have q : ¬ ((1048576 : Int) - (ms.length : Int) < 0) := h1
    generalize (1048576 : Int) - (ms.length : Int) = r at *
    have hol := Nat.le_trans (putMap_len ms m) (show ms.length + 1 ≤ 1048577 by omega)
    have cT := fun W h => to_maps v ms W h hl
    have cM := fun W => to_map m W
    have cS := fun g B C W h hC => spec_putMap g ms m B C W h hC hl
    have cI := fun u W h => impl_putMap u ms m W h hl
    have cE := fun u1 u2 W h1 h2 => eq_maps u1 u2 ms W h1 h2 hn
    generalize putMap ms m = rr at *
    obtain ⟨os, ok⟩ := rr
    dsimp only at hol cS cI
    have cEo := fun u1 u2 W h1 h2 => eq_maps u1 u2 os W h1 h2 (by omega)
    unfold Mp.cells at *
    clear h1
    go_enter Try.func5, Try.ntmps5
    go_wp2_with (fail)
    rw [← HWB.out]
    with_reducible refine z1.mono ?_
    rintro e w1 ⟨rfl, rfl⟩
    clear z1 HWB
    go_wp2_with (fail)
    have hS1 := put3_keep (w1 := wb) (W := wb) (W' := wb.drew) HCB.out (Below.refl _ _).drew
    refine wp_region_held_drew (S := fun W => W.cell? ⟨w.heap.size, 0, none⟩ = some (.int .i64 m.sub) ∧ W.cell? ⟨w.heap.size, 1, none⟩ = some (.int .i64 m.seq) ∧ W.cell? ⟨w.heap.size, 2, none⟩ = some (.int .i64 m.len) ∧ Below wb.heap.size wb W) (by kernel_rfl) hS1 (fun hHeld => ?_)
    refine take_yes (i := 0) (oi := { dst := some 22, op := Op.move (Operand.tmp 0), type := 37, pos := "exact.go:3260", after := #[], guard := none }) (v := v) rfl (by kernel_rfl) (by kernel_rfl) (by kernel_rfl) (fun _ _ _ h => h) (by rfl) (fun w hSw => by (try dsimp only at hSw); go_simp) (by assumption) ?_
    try simp only [Act.put, List.setIfInBounds_toArray, List.set_cons_zero, List.set_cons_succ]
    refine take_yes (i := 2) (oi := { dst := some 24, op := Op.load 41 (Operand.tmp 3), type := 41, pos := "exact.go:3260", after := #[], guard := none }) (v := .agg #[.int .i64 m.sub, .int .i64 m.seq, .int .i64 m.len]) rfl (by kernel_rfl) (by kernel_rfl) (by kernel_rfl) (fun _ _ _ h => h) (by rfl) (fun w hSw => by (try dsimp only at hSw); go_simp) (by assumption) ?_
    try simp only [Act.put, List.setIfInBounds_toArray, List.set_cons_zero, List.set_cons_succ]
    refine wpAnyH_ready (rs := [1]) (by kernel_rfl) (by simp) ?_
    refine AllReadyH.cons (o := { dst := some 23, op := Op.call { callee := Callee.value (Operand.func 19), args := #[Operand.tmp 22], argTypes := #[37] }, type := 24, pos := "exact.go:3260", after := #[{ on := 0, ground := Ground.data }], guard := none }) rfl (fun K hK => ?_) AllReadyH.nil
    go_simp
    with_reducible refine (cT _ (hvb.below hHeld.2.2.2)).mono ?_
    rintro e wA ⟨rfl, howA, hA⟩
    refine hK.out _ _ (put3_keep (by assumption) hA) (fun hHeld => ?_)
    clear hK K
    try simp only [Act.put, List.setIfInBounds_toArray, List.set_cons_zero, List.set_cons_succ]
    refine wpAnyH_ready (rs := [3]) (by kernel_rfl) (by simp) ?_
    refine AllReadyH.cons (o := { dst := some 25, op := Op.call { callee := Callee.value (Operand.func 22), args := #[Operand.tmp 24], argTypes := #[41] }, type := 26, pos := "exact.go:3260", after := #[{ on := 2, ground := Ground.data }, { on := 1, ground := Ground.chain }], guard := none }) rfl (fun K hK => ?_) AllReadyH.nil
    go_simp
    with_reducible refine (cM _).mono ?_
    rintro e wB ⟨rfl, hB⟩
    refine hK.out _ _ (put3_keep (by assumption) hB) (fun hHeld => ?_)
    clear hK K
    try simp only [Act.put, List.setIfInBounds_toArray, List.set_cons_zero, List.set_cons_succ]
    refine wpAnyH_ready (rs := [4]) (by kernel_rfl) (by simp) ?_
    refine AllReadyH.cons (o := { dst := some 26, op := Op.call { callee := Callee.value (Operand.func 21), args := #[Operand.tmp 23, Operand.tmp 25], argTypes := #[24, 26] }, type := 29, pos := "exact.go:3260", after := #[{ on := 1, ground := Ground.data }, { on := 3, ground := Ground.data }, { on := 3, ground := Ground.chain }], guard := none }) rfl (fun K hK => ?_) AllReadyH.nil
    have hx : OwnM wB wb.heap.size (wb.heap.size + 1) (.slice (some ⟨wb.heap.size, 0, none⟩) ms.length ms.length) ms := howA.keep hB (own_lt howA)
    have hxl : wb.heap.size + 1 ≤ wB.heap.size := Nat.lt_of_lt_of_le (own_lt howA) hB.size
    go_simp
    with_reducible refine (cS _ _ _ _ hx hxl).mono ?_
    rintro e w3 ⟨u, rfl, hm3, hb3⟩
    obtain ⟨ua, uc, rfl, -⟩ := hm3.form
    have L0 := hHeld.2.2.2.size
    have L1 := hb3.size
    refine hK.out _ _ (put3_keep (by assumption) hb3) (fun hHeld => ?_)
    clear hK K
    try simp only [Act.put, List.setIfInBounds_toArray, List.set_cons_zero, List.set_cons_succ]
    refine take_yes (i := 5) (oi := { dst := some 21, op := Op.move (Operand.tmp 26), type := 29, pos := "exact.go:3260", after := #[{ on := 4, ground := Ground.data }], guard := none }) (v := .tuple #[.slice ua os.length uc, .bool ok]) rfl (by kernel_rfl) (by kernel_rfl) (by kernel_rfl) (fun _ _ _ h => h) (by rfl) (fun w hSw => by (try dsimp only at hSw); go_simp) (by assumption) ?_
    try simp only [Act.put, List.setIfInBounds_toArray, List.set_cons_zero, List.set_cons_succ]
    refine take_yes (i := 6) (oi := { dst := some 27, op := Op.extract (Operand.tmp 21) 0, type := 24, pos := "exact.go:3260", after := #[{ on := 5, ground := Ground.data }], guard := none }) (v := .slice ua os.length uc) rfl (by kernel_rfl) (by kernel_rfl) (by kernel_rfl) (fun _ _ _ h => h) (by rfl) (fun w hSw => by (try dsimp only at hSw); go_simp) (by assumption) ?_
    try simp only [Act.put, List.setIfInBounds_toArray, List.set_cons_zero, List.set_cons_succ]
    refine take_yes (i := 7) (oi := { dst := some 28, op := Op.extract (Operand.tmp 21) 1, type := 4, pos := "exact.go:3260", after := #[{ on := 5, ground := Ground.data }, { on := 8, ground := Ground.gcOnly Departure.lateStores }], guard := none }) (v := .bool ok) rfl (by kernel_rfl) (by kernel_rfl) (by kernel_rfl) (fun _ _ _ h => h) (by rfl) (fun w hSw => by (try dsimp only at hSw); go_simp) (by assumption) ?_
    try simp only [Act.put, List.setIfInBounds_toArray, List.set_cons_zero, List.set_cons_succ]
    refine take_yes (i := 8) (oi := { dst := some 6, op := Op.assign (Operand.tmp 27), type := 24, pos := "exact.go:3260", after := #[{ on := 6, ground := Ground.data }, { on := 4, ground := Ground.chain }, { on := 0, ground := Ground.phase }, { on := 1, ground := Ground.phase }, { on := 2, ground := Ground.phase }, { on := 3, ground := Ground.phase }, { on := 4, ground := Ground.phase }, { on := 5, ground := Ground.phase }, { on := 6, ground := Ground.phase }, { on := 7, ground := Ground.textOnly Departure.lateStores }], guard := none }) (v := .slice ua os.length uc) rfl (by kernel_rfl) (by kernel_rfl) (by kernel_rfl) (fun _ _ _ h => h) (by rfl) (fun w hSw => by (try dsimp only at hSw); go_simp) (by assumption) ?_
    try simp only [Act.put, List.setIfInBounds_toArray, List.set_cons_zero, List.set_cons_succ]
    refine take_yes (i := 9) (oi := { dst := some 7, op := Op.assign (Operand.tmp 28), type := 4, pos := "exact.go:3260", after := #[{ on := 7, ground := Ground.data }, { on := 8, ground := Ground.chain }, { on := 0, ground := Ground.phase }, { on := 1, ground := Ground.phase }, { on := 2, ground := Ground.phase }, { on := 3, ground := Ground.phase }, { on := 4, ground := Ground.phase }, { on := 5, ground := Ground.phase }, { on := 6, ground := Ground.phase }, { on := 7, ground := Ground.phase }, { on := 8, ground := Ground.phase }], guard := none }) (v := .bool ok) rfl (by kernel_rfl) (by kernel_rfl) (by kernel_rfl) (fun _ _ _ h => h) (by rfl) (fun w hSw => by (try dsimp only at hSw); go_simp) (by assumption) ?_
    try simp only [Act.put, List.setIfInBounds_toArray, List.set_cons_zero, List.set_cons_succ]
    refine wpAnyH_done (by kernel_rfl) ?_ _
    have B3 := hHeld.2.2.2
    clear hx hxl howA hA hB hb3
    generalize wB.heap.size = b0 at *
    have hC3 := Lib.hid hHeld
    have Hm3 := Lib.hid (And.intro hm3 (And.intro L0 L1))
    clear hm3 L0 L1 hHeld
    go_wp2_with (fail)
    with_reducible refine (cT _ (hvb.below B3)).mono ?_
    rintro e w4 ⟨rfl, ho4, hb4⟩
    have c40 := keepc hC3.out.1 hb4
    have c41 := keepc hC3.out.2.1 hb4
    have c42 := keepc hC3.out.2.2.1 hb4
    have Hm4 := Lib.hid (And.intro (Hm3.out.1.keep hb4 (Nat.le_refl _)) (And.intro ho4 (And.intro Hm3.out.2 (And.intro (Below.then_ B3 hb4) (And.intro hb4.size (own_lt ho4 : w3.heap.size < w4.heap.size))))))
    clear B3 hb4 ho4 Hm3 hC3
    generalize w3.heap.size = b1 at *
    go_wp2_with (fail)
    with_reducible refine (cM _).mono ?_
    rintro e w5 ⟨rfl, hb5⟩
    have x5 := (Hm4.out.2.1.keep hb5 Hm4.out.2.2.2.2.2).rd
    have Hb5 := Lib.hid hb5
    clear c40 c41 c42 hb5
    go_wp2_with (fail)
    with_reducible refine (cI _ _ x5).mono ?_
    rintro e w6 ⟨g, rfl, hg6, hb6⟩
    obtain ⟨ga, gc, rfl, -⟩ := hg6.form
    have Q5 : Quad wb w6 b0 b1 w5.heap.size w6.heap.size (.slice ua os.length uc) (.slice (some ⟨b1, 0, none⟩) ms.length ms.length) (.slice ga os.length gc) os ms os := by
      obtain ⟨p1, p2, ⟨p3, p4⟩, p5, p6, p7⟩ := Hm4.out
      have hz := Hb5.out.size
      exact ⟨(p1.keep Hb5.out p6).keep hb6 (Nat.le_trans p6 hz), ((p2.keep Hb5.out p7).keep hb6 (Nat.le_trans p7 hz)).mono (Nat.le_refl _) (Nat.le_trans p7 hz), hg6, Below.then_ (Below.then_ p5 Hb5.out) hb6, p3, p4, Nat.le_trans p6 hz, hb6.size, Nat.le_refl _⟩
    clear x5 hg6 hb6 Hm4 Hb5
    generalize w5.heap.size = b2 at *
    generalize hb3 : w6.heap.size = b3 at Q5
    clear hb3
    go_wp2_with (fail)
    with_reducible refine (cEo _ _ _ Q5.g.rd Q5.m.rd).mono ?_
    rintro e w7 ⟨rfl, hb7⟩
    have Q6 := Q5.kept hb7
    clear Q5 hb7
    go_wp2_with (fail)
    with_reducible refine (cT _ (hvb.below Q6.b)).mono ?_
    rintro e w8 ⟨rfl, ho8, hb8⟩
    have Q7 := Q6.kept hb8
    have y7 := ho8.rd
    clear Q6 hb8 ho8
    go_wp2_with (fail)
    with_reducible refine (cE _ _ _ Q7.x.rd y7).mono ?_
    rintro e w9 ⟨rfl, hb9⟩
    have Q8 := Q7.kept hb9
    clear Q7 hb9 y7
    have cm := mark_maps _ ms w9 b1 b2 1 Q8.x (by omega) (by omega)
    have ck := fun g W h => mark_maps g os W b2 b3 1 h hol (by omega)
    have ch := fun g W h => held_maps g 1 os.length W h hol (by omega)
    rw [show (((1 : Nat) : Int)) = (1 : Int) from rfl] at cm ck ch
    have hq1 : ¬ ((1 + ms.length * 3 : Nat) : Int) < 0 := by omega
    have hq2 : ¬ ((1 + os.length * 3 : Nat) : Int) < 0 := by omega
    generalize ((1 + ms.length * 3 : Nat) : Int) = k1 at *
    generalize ((1 + os.length * 3 : Nat) : Int) = k2 at *
    go_wp2_with (fail)
    with_reducible refine cm.mono ?_
    rintro e w10 ⟨rfl, hx10, hb10, hz10, ho10⟩
    have Q9 := Q8.markX hx10 hb10 hz10 ho10
    clear Q8 hx10 hb10 hz10 ho10 cm
    go_wp2_with (fail)
    with_reducible refine (cEo _ _ _ Q9.g.rd Q9.m.rd).mono ?_
    rintro e w11 ⟨rfl, hb11⟩
    have Q10 := Q9.kept hb11
    clear Q9 hb11
    go_wp2_with (fail)
    with_reducible refine (ck _ _ Q10.g).mono ?_
    rintro e w12 ⟨rfl, hg12, hb12, hz12, -⟩
    have Q11 := Q10.markG hg12 hb12 hz12
    clear Q10 hg12 hb12 hz12 ck
    go_wp2_with (fail)
    with_reducible refine (ch _ _ Q11.g.rd).mono ?_
    rintro e w13 ⟨rfl, rfl⟩
    go_wp2_with (fail)
    have Q12 := Q11.kept (Below.refl _ _).drew
    have HQ := Lib.hid Q12
    have hS2 := put3_keep (w1 := wb) (W := wb) HCB.out Q12.b
    clear Q11 Q12
    refine wp_region_held_drew (S := fun W => W.cell? ⟨w.heap.size, 0, none⟩ = some (.int .i64 m.sub) ∧ W.cell? ⟨w.heap.size, 1, none⟩ = some (.int .i64 m.seq) ∧ W.cell? ⟨w.heap.size, 2, none⟩ = some (.int .i64 m.len) ∧ Below wb.heap.size wb W) (by kernel_rfl) hS2 (fun hHeld => ?_)
    refine take_yes (i := 0) (oi := { dst := some 80, op := Op.move (Operand.tmp 0), type := 37, pos := "exact.go:3284", after := #[], guard := none }) (v := v) rfl (by kernel_rfl) (by kernel_rfl) (by kernel_rfl) (fun _ _ _ h => h) (by rfl) (fun w hSw => by (try dsimp only at hSw); go_simp) (by assumption) ?_
    try simp only [Act.put, List.setIfInBounds_toArray, List.set_cons_zero, List.set_cons_succ]
    refine take_yes (i := 2) (oi := { dst := some 82, op := Op.load 41 (Operand.tmp 3), type := 41, pos := "exact.go:3284", after := #[], guard := none }) (v := .agg #[.int .i64 m.sub, .int .i64 m.seq, .int .i64 m.len]) rfl (by kernel_rfl) (by kernel_rfl) (by kernel_rfl) (fun _ _ _ h => h) (by rfl) (fun w hSw => by (try dsimp only at hSw); go_simp) (by assumption) ?_
    try simp only [Act.put, List.setIfInBounds_toArray, List.set_cons_zero, List.set_cons_succ]
    refine wpAnyH_ready (rs := [1]) (by kernel_rfl) (by simp) ?_
    refine AllReadyH.cons (o := { dst := some 81, op := Op.call { callee := Callee.value (Operand.func 19), args := #[Operand.tmp 80], argTypes := #[37] }, type := 24, pos := "exact.go:3284", after := #[{ on := 0, ground := Ground.data }], guard := none }) rfl (fun K hK => ?_) AllReadyH.nil
    go_simp
    with_reducible refine (cT _ (hvb.below hHeld.2.2.2)).mono ?_
    rintro e wA ⟨rfl, howA, hA⟩
    refine hK.out _ _ (put3_keep (by assumption) hA) (fun hHeld => ?_)
    clear hK K
    try simp only [Act.put, List.setIfInBounds_toArray, List.set_cons_zero, List.set_cons_succ]
    refine wpAnyH_ready (rs := [3]) (by kernel_rfl) (by simp) ?_
    refine AllReadyH.cons (o := { dst := some 83, op := Op.call { callee := Callee.value (Operand.func 22), args := #[Operand.tmp 82], argTypes := #[41] }, type := 26, pos := "exact.go:3284", after := #[{ on := 2, ground := Ground.data }, { on := 1, ground := Ground.chain }], guard := none }) rfl (fun K hK => ?_) AllReadyH.nil
    go_simp
    with_reducible refine (cM _).mono ?_
    rintro e wB ⟨rfl, hB⟩
    refine hK.out _ _ (put3_keep (by assumption) hB) (fun hHeld => ?_)
    clear hK K
    try simp only [Act.put, List.setIfInBounds_toArray, List.set_cons_zero, List.set_cons_succ]
    refine wpAnyH_ready (rs := [4]) (by kernel_rfl) (by simp) ?_
    refine AllReadyH.cons (o := { dst := some 84, op := Op.call { callee := Callee.value (Operand.func 11), args := #[Operand.tmp 81, Operand.tmp 83], argTypes := #[24, 26] }, type := 29, pos := "exact.go:3284", after := #[{ on := 1, ground := Ground.data }, { on := 3, ground := Ground.data }, { on := 3, ground := Ground.chain }], guard := none }) rfl (fun K hK => ?_) AllReadyH.nil
    have hx : OwnM wB w12.heap.size (w12.heap.size + 1) (.slice (some ⟨w12.heap.size, 0, none⟩) ms.length ms.length) ms := howA.keep hB (own_lt howA)
    have hxl : w12.heap.size + 1 ≤ wB.heap.size := Nat.lt_of_lt_of_le (own_lt howA) hB.size
    clear hS2
    go_simp
    with_reducible refine (cI _ _ hx.rd).mono ?_
    rintro e wC ⟨h, rfl, hh14, hC⟩
    obtain ⟨ha, hc, rfl, -⟩ := hh14.form
    have y14 := hh14.rd
    refine hK.out _ _ (put3_keep (by assumption) hC) (fun hHeld => ?_)
    clear hK K
    try simp only [Act.put, List.setIfInBounds_toArray, List.set_cons_zero, List.set_cons_succ]
    refine take_yes (i := 5) (oi := { dst := some 79, op := Op.move (Operand.tmp 84), type := 29, pos := "exact.go:3284", after := #[{ on := 4, ground := Ground.data }], guard := none }) (v := .tuple #[.slice ha os.length hc, .bool ok]) rfl (by kernel_rfl) (by kernel_rfl) (by kernel_rfl) (fun _ _ _ h => h) (by rfl) (fun w hSw => by (try dsimp only at hSw); go_simp) (by assumption) ?_
    try simp only [Act.put, List.setIfInBounds_toArray, List.set_cons_zero, List.set_cons_succ]
    refine take_yes (i := 6) (oi := { dst := some 85, op := Op.extract (Operand.tmp 79) 0, type := 24, pos := "exact.go:3284", after := #[{ on := 5, ground := Ground.data }], guard := none }) (v := .slice ha os.length hc) rfl (by kernel_rfl) (by kernel_rfl) (by kernel_rfl) (fun _ _ _ h => h) (by rfl) (fun w hSw => by (try dsimp only at hSw); go_simp) (by assumption) ?_
    try simp only [Act.put, List.setIfInBounds_toArray, List.set_cons_zero, List.set_cons_succ]
    refine take_yes (i := 7) (oi := { dst := some 86, op := Op.extract (Operand.tmp 79) 1, type := 4, pos := "exact.go:3284", after := #[{ on := 5, ground := Ground.data }, { on := 8, ground := Ground.gcOnly Departure.lateStores }], guard := none }) (v := .bool ok) rfl (by kernel_rfl) (by kernel_rfl) (by kernel_rfl) (fun _ _ _ h => h) (by rfl) (fun w hSw => by (try dsimp only at hSw); go_simp) (by assumption) ?_
    try simp only [Act.put, List.setIfInBounds_toArray, List.set_cons_zero, List.set_cons_succ]
    refine take_yes (i := 8) (oi := { dst := some 14, op := Op.assign (Operand.tmp 85), type := 24, pos := "exact.go:3284", after := #[{ on := 6, ground := Ground.data }, { on := 4, ground := Ground.chain }, { on := 0, ground := Ground.phase }, { on := 1, ground := Ground.phase }, { on := 2, ground := Ground.phase }, { on := 3, ground := Ground.phase }, { on := 4, ground := Ground.phase }, { on := 5, ground := Ground.phase }, { on := 6, ground := Ground.phase }, { on := 7, ground := Ground.textOnly Departure.lateStores }], guard := none }) (v := .slice ha os.length hc) rfl (by kernel_rfl) (by kernel_rfl) (by kernel_rfl) (fun _ _ _ h => h) (by rfl) (fun w hSw => by (try dsimp only at hSw); go_simp) (by assumption) ?_
    try simp only [Act.put, List.setIfInBounds_toArray, List.set_cons_zero, List.set_cons_succ]
    refine take_yes (i := 9) (oi := { dst := some 15, op := Op.assign (Operand.tmp 86), type := 4, pos := "exact.go:3284", after := #[{ on := 7, ground := Ground.data }, { on := 8, ground := Ground.chain }, { on := 0, ground := Ground.phase }, { on := 1, ground := Ground.phase }, { on := 2, ground := Ground.phase }, { on := 3, ground := Ground.phase }, { on := 4, ground := Ground.phase }, { on := 5, ground := Ground.phase }, { on := 6, ground := Ground.phase }, { on := 7, ground := Ground.phase }, { on := 8, ground := Ground.phase }], guard := none }) (v := .bool ok) rfl (by kernel_rfl) (by kernel_rfl) (by kernel_rfl) (fun _ _ _ h => h) (by rfl) (fun w hSw => by (try dsimp only at hSw); go_simp) (by assumption) ?_
    try simp only [Act.put, List.setIfInBounds_toArray, List.set_cons_zero, List.set_cons_succ]
    refine wpAnyH_done (by kernel_rfl) ?_ _
    have Q14 := ((HQ.out.kept hA).kept hB).kept hC
    clear hx hxl howA hA hB hC hHeld hh14 HQ
    go_wp2_with (fail)
    with_reducible refine (cEo _ _ _ y14 Q14.m.rd).mono ?_
    rintro e w15 ⟨rfl, hb15⟩
    have Q15 := Q14.kept hb15
    clear Q14 hb15 y14
    go_wp2_with (fail)
    with_reducible refine (ch _ _ Q15.g.rd).mono ?_
    rintro e w16 ⟨rfl, rfl⟩
    have HB := Lib.hid (Below.then_ HBX.out Q15.b)
    clear Q15
    go_wp2_with (fail)
    go_ret
    exact ⟨rfl, HB.out⟩
end Go.Proofs.Ytjnobggefofjcaa
