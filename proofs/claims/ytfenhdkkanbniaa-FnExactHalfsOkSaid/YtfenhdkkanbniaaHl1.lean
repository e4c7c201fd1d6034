import Derived.Test.YtfenhdkkanbniaaQdg
import Derived.Test.YtfenhdkkanbniaaHim
import Derived.Test.YtfenhdkkanbniaaHsp
namespace Go.Proofs.Ytfenhdkkanbniaa
open Go.RowKit

set_option linter.unusedSimpArgs false in
set_option maxRecDepth 100000 in
set_option maxHeartbeats 8000000 in
theorem halfsok_law (v : Value) (ms : List Hv) (w : World) (hv : RdH w v ms) (hn : ms.length ≤ 9223372036854775807) :
    Calls Try.prog 4 #[v] w fun e w' => e = .returned (.bool true) ∧ Below w.heap.size w w' := by
  have hbx := Below.refl w.heap.size w
  have hvb := hv.below hbx
  have z1 := sz_halfS v ms 1048576 w hvb hn (by omega) (by omega)
  obtain ⟨va, vc, rfl⟩ := hv.form
  clear hv
  have HBX := Lib.hid hbx
  by_cases h1 : (1048576 : Int) - (ms.length : Int) < 0
  · rw [if_pos h1] at z1
    clear h1 hbx hvb
    go_enter Try.func4, Try.ntmps4
    go_wp2_with (fail)
    with_reducible refine z1.mono ?_
    rintro e w1 ⟨rfl, rfl⟩
    go_wp2_with (fail)
    go_ret
    exact ⟨rfl, HBX.out⟩
  · rw [if_neg h1] at z1
    have hl := sz_lawG h1
    have q : ¬ ((1048576 : Int) - (ms.length : Int) < 0) := h1
    generalize (1048576 : Int) - (ms.length : Int) = r9 at *
    have cT := fun W h => to_halfS (.slice va ms.length vc) ms W h hl
    have cS := fun u W B C (h : OwnH W B C u ms) => spec_halfsOk u ms W h.rd (by omega)
    have cI := fun u W B C (h : OwnH W B C u ms) => impl_halfsOk u ms W h.rd (by omega)
    have cE := fun u1 u2 W h1 h2 => eq_halfS u1 u2 ms W h1 h2 hn
    generalize okH ms = ok at *
    clear h1 hbx
    go_enter Try.func4, Try.ntmps4
    go_wp2_with (fail)
    with_reducible refine z1.mono ?_
    rintro e w1 ⟨rfl, rfl⟩
    clear z1
    go_wp2_with (fail)
    with_reducible refine (cT _ hvb).mono ?_
    rintro e w2 ⟨rfl, ho2, hb2⟩
    go_wp2_with (fail)
    with_reducible refine (cS _ _ _ _ ho2).mono ?_
    rintro e w3 ⟨rfl, hb3⟩
    have H3 := Lib.hid (Below.then_ hb2 hb3)
    clear ho2 hb2 hb3
    go_wp2_with (fail)
    with_reducible refine (cT _ (hvb.below H3.out)).mono ?_
    rintro e w4 ⟨rfl, ho4, hb4⟩
    have hlt4 := ho4.lt
    have H5 := Lib.hid (And.intro (Below.then_ H3.out hb4) (And.intro ho4 hlt4))
    clear hb4 ho4 H3 hlt4
    generalize w3.heap.size = b1 at *
    go_wp2_with (fail)
    with_reducible refine (cI _ _ _ _ H5.out.2.1).mono ?_
    rintro e w6 ⟨rfl, hb6⟩
    have H6 := Lib.hid (And.intro (Below.then_ (H5.out.1) hb6) (And.intro (H5.out.2.1.keep hb6 (Nat.succ_le_of_lt H5.out.2.2)) (Nat.lt_of_lt_of_le H5.out.2.2 hb6.size)))
    clear hb6 H5
    go_wp2_with (fail)
    with_reducible refine (cT _ (hvb.below H6.out.1)).mono ?_
    rintro e w7 ⟨rfl, ho7, hb7⟩
    have H7 := Lib.hid (And.intro (Below.then_ H6.out.1 hb7) (And.intro (H6.out.2.1.keep hb7 (Nat.succ_le_of_lt H6.out.2.2)) ho7.rd))
    clear hb7 ho7 H6
    go_wp2_with (fail)
    with_reducible refine (cE _ _ _ H7.out.2.1.rd H7.out.2.2).mono ?_
    rintro e w8 ⟨rfl, hb8⟩
    have HB := Lib.hid (Below.then_ HBX.out (Below.then_ H7.out.1 hb8))
    clear hb8 H7
    go_wp2_with (fail)
    go_ret
    exact ⟨rfl, HB.out⟩

set_option linter.unusedSimpArgs false in
set_option maxRecDepth 100000 in
set_option maxHeartbeats 8000000 in
theorem halfat_law (v : Value) (ms : List Hv) (r : Rv) (w : World) (hv : RdH w v ms) (hn : ms.length ≤ 9223372036854775807) :
    Calls Try.prog 5 #[v, .agg #[.int .i64 r.own, .int .i64 r.far, .int .i64 r.port]] w fun e w' => e = .returned (.bool true) ∧ Below w.heap.size w w' := by
  have hbx := below_new w (.cells #[.int .i64 r.own, .int .i64 r.far, .int .i64 r.port] 42)
  have hcb := Cel.new w 42 #[.int .i64 r.own, .int .i64 r.far, .int .i64 r.port]
  obtain ⟨wb, hwb⟩ : ∃ wb, wb = w.alloc (.cells #[.int .i64 r.own, .int .i64 r.far, .int .i64 r.port] 42) := ⟨_, rfl⟩
  rw [← hwb] at hbx hcb
  have HWB := Lib.hid hwb
  clear hwb
  have hvb := hv.below hbx
  have z1 := sz_halfS v ms 1048576 wb hvb hn (by omega) (by omega)
  obtain ⟨va, vc, rfl⟩ := hv.form
  clear hv
  have HBX := Lib.hid hbx
  by_cases h1 : (1048576 : Int) - (ms.length : Int) < 0
  · rw [if_pos h1] at z1
    clear h1 hbx hvb hcb
    go_enter Try.func5, Try.ntmps5
    go_wp2_with (fail)
    rw [← HWB.out]
    with_reducible refine z1.mono ?_
    rintro e w1 ⟨rfl, rfl⟩
    go_wp2_with (fail)
    go_ret
    exact ⟨rfl, HBX.out⟩
  · rw [if_neg h1] at z1
    have hl := sz_lawG h1
    have q : ¬ ((1048576 : Int) - (ms.length : Int) < 0) := h1
    generalize (1048576 : Int) - (ms.length : Int) = r9 at *
    have cT := fun W h => to_halfS (.slice va ms.length vc) ms W h hl
    have cS := fun u W B C (h : OwnH W B C u ms) => spec_halfAt u ms r W h.rd (by omega)
    have cI := fun u W B C (h : OwnH W B C u ms) => impl_halfAt u ms r W h.rd (by omega)
    have cE := fun u1 u2 W h1 h2 => eq_halfS u1 u2 ms W h1 h2 hn
    have cM := fun W => to_road r W
    generalize atH ms r = ok at *
    clear h1 hbx
    have HCB := Lib.hid (And.intro hcb (Below.refl wb.heap.size wb))
    clear hcb
    go_enter Try.func5, Try.ntmps5
    go_wp2_with (fail)
    rw [← HWB.out]
    obtain ⟨h0, hh0⟩ : ∃ h0, w.heap.size = h0 := ⟨_, rfl⟩
    rw [hh0] at HCB ⊢
    have HCC := HCB
    clear hh0 HCB HWB
    with_reducible refine z1.mono ?_
    rintro e w1 ⟨rfl, rfl⟩
    clear z1
    go_wp2_with (fail)
    have hS1 : Cel _ h0 42 #[.int .i64 r.own, .int .i64 r.far, .int .i64 r.port] ∧ Below wb.heap.size wb _ := cb_keep HCC.out (show Below _ _ (World.drew _) from (Below.refl _ _).drew)
    refine wp_region_held_drew (S := fun W => Cel W h0 42 #[.int .i64 r.own, .int .i64 r.far, .int .i64 r.port] ∧ Below wb.heap.size wb W) (by kernel_rfl) hS1 (fun hHeld => ?_)
    refine take_yes (i := 0) (oi := { dst := some 14, op := Op.move (Operand.tmp 0), type := 38, pos := "exact.go:4081", after := #[], guard := none }) (v := .slice va ms.length vc) rfl (by kernel_rfl) (by kernel_rfl) (by kernel_rfl) (fun _ _ _ h => h) (by rfl) (fun w hSw => by (try dsimp only at hSw); go_simp) (by assumption) ?_
    try simp only [Act.put, List.setIfInBounds_toArray, List.set_cons_zero, List.set_cons_succ]
    refine take_yes (i := 2) (oi := { dst := some 16, op := Op.load 42 (Operand.tmp 3), type := 42, pos := "exact.go:4081", after := #[], guard := none }) (v := .agg #[.int .i64 r.own, .int .i64 r.far, .int .i64 r.port]) rfl (by kernel_rfl) (by kernel_rfl) (by kernel_rfl) (fun _ _ _ h => h) (by rfl) (fun w hSw => by (try dsimp only at hSw); obtain ⟨d0, d1, d2⟩ := cel3r hSw.1; go_simp) (by assumption) ?_
    try simp only [Act.put, List.setIfInBounds_toArray, List.set_cons_zero, List.set_cons_succ]
    refine wpAnyH_ready (rs := [1]) (by kernel_rfl) (by simp) ?_
    refine AllReadyH.cons (o := { dst := some 15, op := Op.call { callee := Callee.value (Operand.func 19), args := #[Operand.tmp 14], argTypes := #[38] }, type := 24, pos := "exact.go:4081", after := #[{ on := 0, ground := Ground.data }], guard := none }) rfl (fun K hK => ?_) AllReadyH.nil
    go_simp
    with_reducible refine (cT _ (hvb.below hHeld.2)).mono ?_
    rintro e wA ⟨rfl, hoA0, hA⟩
    have hoA : OwnH wA wb.heap.size (wb.heap.size + 1) (.slice (some ⟨wb.heap.size, 0, none⟩) ms.length ms.length) ms := hoA0
    have hCA := Nat.succ_le_of_lt hoA.lt
    clear hoA0
    have KA := cb_keep hHeld hA
    refine hK.out _ _ KA (fun hHeldN => ?_)
    clear hK K hHeld
    have hHeld := hHeldN
    clear hHeldN
    try simp only [Act.put, List.setIfInBounds_toArray, List.set_cons_zero, List.set_cons_succ]
    refine wpAnyH_ready (rs := [3]) (by kernel_rfl) (by simp) ?_
    refine AllReadyH.cons (o := { dst := some 17, op := Op.call { callee := Callee.value (Operand.func 22), args := #[Operand.tmp 16], argTypes := #[42] }, type := 26, pos := "exact.go:4081", after := #[{ on := 2, ground := Ground.data }, { on := 1, ground := Ground.chain }], guard := none }) rfl (fun K hK => ?_) AllReadyH.nil
    go_simp
    with_reducible refine (cM _).mono ?_
    rintro e wB ⟨rfl, hB⟩
    have KB := cb_keep hHeld hB
    have hoB := hoA.keep hB hCA
    refine hK.out _ _ KB (fun hHeldN => ?_)
    clear hK K hHeld
    have hHeld := hHeldN
    clear hHeldN
    try simp only [Act.put, List.setIfInBounds_toArray, List.set_cons_zero, List.set_cons_succ]
    refine wpAnyH_ready (rs := [4]) (by kernel_rfl) (by simp) ?_
    refine AllReadyH.cons (o := { dst := some 18, op := Op.call { callee := Callee.value (Operand.func 21), args := #[Operand.tmp 15, Operand.tmp 17], argTypes := #[24, 26] }, type := 3, pos := "exact.go:4081", after := #[{ on := 1, ground := Ground.data }, { on := 3, ground := Ground.data }, { on := 3, ground := Ground.chain }], guard := none }) rfl (fun K hK => ?_) AllReadyH.nil
    go_simp
    with_reducible refine (cS _ _ _ _ hoB).mono ?_
    rintro e w3 ⟨rfl, hb3⟩
    have K3 := cb_keep hHeld hb3
    clear hoA hoB
    refine hK.out _ _ K3 (fun hHeldN => ?_)
    clear hK K hHeld
    have hHeld := hHeldN
    clear hHeldN
    try simp only [Act.put, List.setIfInBounds_toArray, List.set_cons_zero, List.set_cons_succ]
    refine take_yes (i := 5) (oi := { dst := some 6, op := Op.assign (Operand.tmp 18), type := 3, pos := "exact.go:4081", after := #[{ on := 4, ground := Ground.data }, { on := 4, ground := Ground.chain }, { on := 0, ground := Ground.phase }, { on := 1, ground := Ground.phase }, { on := 2, ground := Ground.phase }, { on := 3, ground := Ground.phase }, { on := 4, ground := Ground.phase }], guard := none }) (v := .int .i64 ok) rfl (by kernel_rfl) (by kernel_rfl) (by kernel_rfl) (fun _ _ _ h => h) (by rfl) (fun w hSw => by (try dsimp only at hSw); go_simp) (by assumption) ?_
    try simp only [Act.put, List.setIfInBounds_toArray, List.set_cons_zero, List.set_cons_succ]
    refine wpAnyH_done (by kernel_rfl) ?_ _
    have hHeld2 := hHeld
    clear hHeld
    clear hS1
    have H3 := Lib.hid hHeld2
    clear hHeld2 KA KB K3 hA hB hb3 hCA
    go_wp2_with (fail)
    with_reducible refine (cT _ (hvb.below H3.out.2)).mono ?_
    rintro e w4 ⟨rfl, ho4, hb4⟩
    have hlt4 := ho4.lt
    have H4 := Lib.hid (And.intro (cb_keep H3.out hb4) (And.intro ho4 hlt4))
    obtain ⟨d0, d1, d2⟩ := cel3r H4.out.1.1
    clear hb4 ho4 H3 hlt4
    generalize w3.heap.size = b1 at *
    go_wp2_with (fail)
    with_reducible refine (cM _).mono ?_
    rintro e w5 ⟨rfl, hb5⟩
    have H5 := Lib.hid (And.intro (cb_keep H4.out.1 hb5) (And.intro (H4.out.2.1.keep hb5 (Nat.succ_le_of_lt H4.out.2.2)) (Nat.lt_of_lt_of_le H4.out.2.2 hb5.size)))
    clear d0 d1 d2 hb5 H4
    go_wp2_with (fail)
    with_reducible refine (cI _ _ _ _ H5.out.2.1).mono ?_
    rintro e w6 ⟨rfl, hb6⟩
    have H6 := Lib.hid (And.intro (Below.then_ (H5.out.1.2) hb6) (And.intro (H5.out.2.1.keep hb6 (Nat.succ_le_of_lt H5.out.2.2)) (Nat.lt_of_lt_of_le H5.out.2.2 hb6.size)))
    clear hb6 H5
    go_wp2_with (fail)
    with_reducible refine (cT _ (hvb.below H6.out.1)).mono ?_
    rintro e w7 ⟨rfl, ho7, hb7⟩
    have H7 := Lib.hid (And.intro (Below.then_ H6.out.1 hb7) (And.intro (H6.out.2.1.keep hb7 (Nat.succ_le_of_lt H6.out.2.2)) ho7.rd))
    clear hb7 ho7 H6
    go_wp2_with (fail)
    with_reducible refine (cE _ _ _ H7.out.2.1.rd H7.out.2.2).mono ?_
    rintro e w8 ⟨rfl, hb8⟩
    have HB := Lib.hid (Below.then_ HBX.out (Below.then_ H7.out.1 hb8))
    clear hb8 H7
    go_wp2_with (fail)
    go_ret
    exact ⟨rfl, HB.out⟩
end Go.Proofs.Ytfenhdkkanbniaa
