import Derived.Test.YtgfkmnadbcbfkaaTkn
import Derived.Test.YtgfkmnadbcbfkaaTim
import Derived.Test.YtgfkmnadbcbfkaaTto
import Derived.Test.YtgfkmnadbcbfkaaLaw
namespace Go.Proofs.Ytgfkmnadbcbfkaa
open Go.RowKit

theorem lw_keep {W0 W W' : World} {b : Nat} {x1 x2 : Value} {ks : List Int} {ts : List Tv} (h : Below W0.heap.size W0 W ∧ Cel W b 27 #[x1, x2] ∧ KnR W x1 x2 ks ts) (hb : Below W.heap.size W W') : Below W0.heap.size W0 W' ∧ Cel W' b 27 #[x1, x2] ∧ KnR W' x1 x2 ks ts :=
  ⟨Below.then_ h.1 hb, h.2.1.kept hb, h.2.2.below hb⟩

set_option linter.unusedSimpArgs false in
set_option maxRecDepth 100000 in
set_option maxHeartbeats 8000000 in
theorem canmake_law (ku tu : Value) (ks : List Int) (ts : List Tv) (t : Tv) (w : World) (h : KnR w ku tu ks ts) (hkn : ks.length ≤ 9223372036854775807) (htn : ts.length ≤ 9223372036854775807) (hkw : KnW ks ts) (htw : TvW t) :
    Calls Try.prog 7 #[.agg #[ku, tu], .agg #[.int .i64 t.kind, .int .i64 t.one, .int .i64 t.two, .int .i64 t.a, .int .i64 t.b]] w fun e w' => e = .returned (.bool true) ∧ Below w.heap.size w w' := by
  obtain ⟨ka, kc, rfl⟩ := h.k.form
  obtain ⟨ta, tc, rfl⟩ := h.t.form
  have hA0 := (Cel.new w 41 #[.slice ka ks.length kc, .slice ta ts.length tc]).alloc (.cells #[.int .i64 t.kind, .int .i64 t.one, .int .i64 t.two, .int .i64 t.a, .int .i64 t.b] 42)
  have hZ0 := Cel.new (w.alloc (.cells #[.slice ka ks.length kc, .slice ta ts.length tc] 41)) 42 #[.int .i64 t.kind, .int .i64 t.one, .int .i64 t.two, .int .i64 t.a, .int .i64 t.b]
  have hB0 : Below w.heap.size w ((w.alloc (.cells #[.slice ka ks.length kc, .slice ta ts.length tc] 41)).alloc (.cells #[.int .i64 t.kind, .int .i64 t.one, .int .i64 t.two, .int .i64 t.a, .int .i64 t.b] 42)) := ((Below.refl _ _).alloc (Nat.le_refl _) _).alloc (by simp) _
  simp only [World.size_alloc] at hZ0
  obtain ⟨W0, hW0⟩ : ∃ W0, ((w.alloc (.cells #[.slice ka ks.length kc, .slice ta ts.length tc] 41)).alloc (.cells #[.int .i64 t.kind, .int .i64 t.one, .int .i64 t.two, .int .i64 t.a, .int .i64 t.b] 42)) = W0 := ⟨_, rfl⟩
  rw [hW0] at hA0 hZ0 hB0
  obtain ⟨h1, hh1⟩ : ∃ h1, w.heap.size + 1 = h1 := ⟨_, rfl⟩
  rw [hh1] at hZ0
  have HD := Lib.hid (show ∀ W, Below W0.heap.size W0 W → (Below w.heap.size w W ∧ KnR W (.slice ka ks.length kc) (.slice ta ts.length tc) ks ts ∧ (W.cell? ⟨w.heap.size, 0, none⟩ = some (.slice ka ks.length kc) ∧ W.cell? ⟨w.heap.size, 1, none⟩ = some (.slice ta ts.length tc)) ∧ (W.cell? ⟨h1, 0, none⟩ = some (.int .i64 t.kind) ∧ W.cell? ⟨h1, 1, none⟩ = some (.int .i64 t.one) ∧ W.cell? ⟨h1, 2, none⟩ = some (.int .i64 t.two) ∧ W.cell? ⟨h1, 3, none⟩ = some (.int .i64 t.a) ∧ W.cell? ⟨h1, 4, none⟩ = some (.int .i64 t.b))) from fun W hW => ⟨Below.then_ hB0 hW, h.below (Below.then_ hB0 hW), cel2k (hA0.kept hW), cel5tv (hZ0.kept hW)⟩)
  have HW := Lib.hid (And.intro hW0 hh1)
  have cZ := fun W h => sz_known (.slice ka ks.length kc) (.slice ta ts.length tc) ks ts W h hkn htn
  clear hA0 hZ0 hB0 hW0 hh1 h
  obtain ⟨-, hr0, ⟨c0, c1⟩, -⟩ := HD.out W0 (Below.refl _ _)
  have HR0 := Lib.hid hr0
  clear hr0
  go_enter Try.func7, Try.ntmps7
  go_upto_region 1 with (fail)
  rw [HW.out.1, HW.out.2]
  clear HW
  go_wp2_with (fail)
  with_reducible refine (cZ W0 HR0.out).mono ?_
  rintro e w1 ⟨r9, rfl, hr, hr2, b1⟩
  clear c0 c1 HR0 cZ
  by_cases q : r9 < 0
  · have HB := Lib.hid (HD.out _ b1).1
    clear hr b1
    go_wp2_with (fail)
    go_ret
    exact ⟨rfl, HB.out⟩
  · have hl := hr (by omega)
    have HB1 := Lib.hid (show Below W0.heap.size W0 w1.drew from b1.drew)
    have cK := fun W h => to_known (.slice ka ks.length kc) (.slice ta ts.length tc) ks ts W h hl
    have cM := fun W => to_tag t W
    have cS := fun u1 u2 W (h : KnR W u1 u2 ks ts) => spec_canMake u1 u2 ks ts t W h.k h.t hkn htn
    have cI := fun u1 u2 W (h : KnR W u1 u2 ks ts) => impl_canMake u1 u2 ks ts t W h hkn htn hkw htw
    have cE := fun u1 u2 u3 u4 W (h : KnR W u1 u2 ks ts) (h' : KnR W u3 u4 ks ts) => eq_known u1 u2 u3 u4 ks ts W h h' (by omega) (by omega)
    generalize canMk ks ts t = ok at *
    clear hr hr2 b1 hl
    go_wp2_with (fail)
    refine wp_region_held_drew (S := fun W => Below W0.heap.size W0 W) (by kernel_rfl) HB1.out (fun hHeld => ?_)
    refine take_yes (i := 0) (oi := { dst := some 14, op := Op.load 41 (Operand.tmp 2), type := 41, pos := "exact.go:4268", after := #[], guard := none }) (v := .agg #[.slice ka ks.length kc, .slice ta ts.length tc]) rfl (by kernel_rfl) (by kernel_rfl) (by kernel_rfl) (fun _ _ _ h => h) (by rfl) (fun w hSw => by (try dsimp only at hSw); obtain ⟨-, -, ⟨c0, c1⟩, -⟩ := HD.out _ hSw; go_simp) (by assumption) ?_
    try simp only [Act.put, List.setIfInBounds_toArray, List.set_cons_zero, List.set_cons_succ]
    refine take_yes (i := 2) (oi := { dst := some 16, op := Op.load 42 (Operand.tmp 3), type := 42, pos := "exact.go:4268", after := #[], guard := none }) (v := .agg #[.int .i64 t.kind, .int .i64 t.one, .int .i64 t.two, .int .i64 t.a, .int .i64 t.b]) rfl (by kernel_rfl) (by kernel_rfl) (by kernel_rfl) (fun _ _ _ h => h) (by rfl) (fun w hSw => by (try dsimp only at hSw); obtain ⟨-, -, -, ⟨t0, t1, t2, t3, t4⟩⟩ := HD.out _ hSw; go_simp) (by assumption) ?_
    try simp only [Act.put, List.setIfInBounds_toArray, List.set_cons_zero, List.set_cons_succ]
    refine wpAnyH_ready (rs := [1]) (by kernel_rfl) (by simp) ?_
    refine AllReadyH.cons (o := { dst := some 15, op := Op.call { callee := Callee.value (Operand.func 25), args := #[Operand.tmp 14], argTypes := #[41] }, type := 27, pos := "exact.go:4268", after := #[{ on := 0, ground := Ground.data }], guard := none }) rfl (fun K hK => ?_) AllReadyH.nil
    go_simp
    with_reducible refine (cK _ (HD.out _ hHeld).2.1).mono ?_
    rintro e wA ⟨a1, e1, a2, e2, rfl, oA, bA⟩
    have KA := Below.then_ hHeld bA
    refine hK.out _ _ KA (fun hHeldN => ?_)
    clear hK K hHeld
    have hHeld := hHeldN
    clear hHeldN
    try simp only [Act.put, List.setIfInBounds_toArray, List.set_cons_zero, List.set_cons_succ]
    refine wpAnyH_ready (rs := [3]) (by kernel_rfl) (by simp) ?_
    refine AllReadyH.cons (o := { dst := some 17, op := Op.call { callee := Callee.value (Operand.func 26), args := #[Operand.tmp 16], argTypes := #[42] }, type := 29, pos := "exact.go:4268", after := #[{ on := 2, ground := Ground.data }, { on := 1, ground := Ground.chain }], guard := none }) rfl (fun K hK => ?_) AllReadyH.nil
    go_simp
    with_reducible refine (cM _).mono ?_
    rintro e wB ⟨rfl, bB⟩
    have KB := Below.then_ hHeld bB
    have oB := oA.keep bB (Nat.le_refl _)
    refine hK.out _ _ KB (fun hHeldN => ?_)
    clear hK K hHeld
    have hHeld := hHeldN
    clear hHeldN
    try simp only [Act.put, List.setIfInBounds_toArray, List.set_cons_zero, List.set_cons_succ]
    refine wpAnyH_ready (rs := [4]) (by kernel_rfl) (by simp) ?_
    refine AllReadyH.cons (o := { dst := some 18, op := Op.call { callee := Callee.value (Operand.func 24), args := #[Operand.tmp 15, Operand.tmp 17], argTypes := #[27, 29] }, type := 4, pos := "exact.go:4268", after := #[{ on := 1, ground := Ground.data }, { on := 3, ground := Ground.data }, { on := 3, ground := Ground.chain }], guard := none }) rfl (fun K hK => ?_) AllReadyH.nil
    go_simp
    with_reducible refine (cS _ _ _ oB.rd).mono ?_
    rintro e wC ⟨rfl, bC⟩
    have KC := Below.then_ hHeld bC
    refine hK.out _ _ KC (fun hHeldN => ?_)
    clear hK K hHeld
    have hHeld := hHeldN
    clear hHeldN
    try simp only [Act.put, List.setIfInBounds_toArray, List.set_cons_zero, List.set_cons_succ]
    refine take_yes (i := 5) (oi := { dst := some 6, op := Op.assign (Operand.tmp 18), type := 4, pos := "exact.go:4268", after := #[{ on := 4, ground := Ground.data }, { on := 4, ground := Ground.chain }, { on := 0, ground := Ground.phase }, { on := 1, ground := Ground.phase }, { on := 2, ground := Ground.phase }, { on := 3, ground := Ground.phase }, { on := 4, ground := Ground.phase }], guard := none }) (v := .bool ok) rfl (by kernel_rfl) (by kernel_rfl) (by kernel_rfl) (fun _ _ _ h => h) (by rfl) (fun w hSw => by (try dsimp only at hSw); go_simp) (by assumption) ?_
    try simp only [Act.put, List.setIfInBounds_toArray, List.set_cons_zero, List.set_cons_succ]
    refine wpAnyH_done (by kernel_rfl) ?_ _
    have hHeld2 := hHeld
    clear hHeld
    have HB2 := Lib.hid hHeld2
    clear hHeld2 KA KB KC oA oB bA bB bC HB1
    obtain ⟨-, hr3, ⟨c0, c1⟩, -⟩ := HD.out _ HB2.out
    have HR3 := Lib.hid hr3
    clear hr3
    go_wp2_with (fail)
    with_reducible refine (cK _ HR3.out).mono ?_
    rintro e w5 ⟨x1, z1, x2, z2, rfl, o5, b5⟩
    have hS7 : Below W0.heap.size W0 (w5.alloc (.cells #[.slice x1 ks.length z1, .slice x2 ts.length z2] 27)).drew ∧ Cel (w5.alloc (.cells #[.slice x1 ks.length z1, .slice x2 ts.length z2] 27)).drew w5.heap.size 27 #[.slice x1 ks.length z1, .slice x2 ts.length z2] ∧ KnR (w5.alloc (.cells #[.slice x1 ks.length z1, .slice x2 ts.length z2] 27)).drew (.slice x1 ks.length z1) (.slice x2 ts.length z2) ks ts :=
      ⟨(Below.then_ (Below.then_ HB2.out b5) (below_new _ _)).drew, (Cel.new _ _ _).drew, o5.rd.below (below_new _ _).drew⟩
    clear HB2 HR3 c0 c1 o5 b5
    go_wp2_with (fail)
    generalize w5.heap.size = b7 at *
    refine wp_region_held_drew (S := fun W => Below W0.heap.size W0 W ∧ Cel W b7 27 #[.slice x1 ks.length z1, .slice x2 ts.length z2] ∧ KnR W (.slice x1 ks.length z1) (.slice x2 ts.length z2) ks ts) (by kernel_rfl) hS7 (fun hHeld => ?_)
    refine take_yes (i := 0) (oi := { dst := some 21, op := Op.load 27 (Operand.tmp 7), type := 27, pos := "exact.go:4270", after := #[], guard := none }) (v := .agg #[.slice x1 ks.length z1, .slice x2 ts.length z2]) rfl (by kernel_rfl) (by kernel_rfl) (by kernel_rfl) (fun _ _ _ h => h) (by rfl) (fun w hSw => by (try dsimp only at hSw); obtain ⟨k0, k1⟩ := cel2k hSw.2.1; go_simp) (by assumption) ?_
    try simp only [Act.put, List.setIfInBounds_toArray, List.set_cons_zero, List.set_cons_succ]
    refine take_yes (i := 1) (oi := { dst := some 22, op := Op.load 42 (Operand.tmp 3), type := 42, pos := "exact.go:4270", after := #[], guard := none }) (v := .agg #[.int .i64 t.kind, .int .i64 t.one, .int .i64 t.two, .int .i64 t.a, .int .i64 t.b]) rfl (by kernel_rfl) (by kernel_rfl) (by kernel_rfl) (fun _ _ _ h => h) (by rfl) (fun w hSw => by (try dsimp only at hSw); obtain ⟨-, -, -, ⟨t0, t1, t2, t3, t4⟩⟩ := HD.out _ hSw.1; go_simp) (by assumption) ?_
    try simp only [Act.put, List.setIfInBounds_toArray, List.set_cons_zero, List.set_cons_succ]
    refine wpAnyH_ready (rs := [2]) (by kernel_rfl) (by simp) ?_
    refine AllReadyH.cons (o := { dst := some 23, op := Op.call { callee := Callee.value (Operand.func 26), args := #[Operand.tmp 22], argTypes := #[42] }, type := 29, pos := "exact.go:4270", after := #[{ on := 1, ground := Ground.data }], guard := none }) rfl (fun K hK => ?_) AllReadyH.nil
    go_simp
    with_reducible refine (cM _).mono ?_
    rintro e wB ⟨rfl, bB⟩
    have KB := lw_keep hHeld bB
    refine hK.out _ _ KB (fun hHeldN => ?_)
    clear hK K hHeld
    have hHeld := hHeldN
    clear hHeldN
    try simp only [Act.put, List.setIfInBounds_toArray, List.set_cons_zero, List.set_cons_succ]
    refine wpAnyH_ready (rs := [3]) (by kernel_rfl) (by simp) ?_
    refine AllReadyH.cons (o := { dst := some 24, op := Op.call { callee := Callee.value (Operand.func 17), args := #[Operand.tmp 21, Operand.tmp 23], argTypes := #[27, 29] }, type := 4, pos := "exact.go:4270", after := #[{ on := 0, ground := Ground.data }, { on := 2, ground := Ground.data }, { on := 2, ground := Ground.chain }], guard := none }) rfl (fun K hK => ?_) AllReadyH.nil
    go_simp
    with_reducible refine (cI _ _ _ hHeld.2.2).mono ?_
    rintro e wC ⟨rfl, bC⟩
    have KC := lw_keep hHeld bC
    refine hK.out _ _ KC (fun hHeldN => ?_)
    clear hK K hHeld
    have hHeld := hHeldN
    clear hHeldN
    try simp only [Act.put, List.setIfInBounds_toArray, List.set_cons_zero, List.set_cons_succ]
    refine take_yes (i := 4) (oi := { dst := some 8, op := Op.assign (Operand.tmp 24), type := 4, pos := "exact.go:4270", after := #[{ on := 3, ground := Ground.data }, { on := 3, ground := Ground.chain }, { on := 0, ground := Ground.phase }, { on := 1, ground := Ground.phase }, { on := 2, ground := Ground.phase }, { on := 3, ground := Ground.phase }], guard := none }) (v := .bool ok) rfl (by kernel_rfl) (by kernel_rfl) (by kernel_rfl) (fun _ _ _ h => h) (by rfl) (fun w hSw => by (try dsimp only at hSw); go_simp) (by assumption) ?_
    try simp only [Act.put, List.setIfInBounds_toArray, List.set_cons_zero, List.set_cons_succ]
    refine wpAnyH_done (by kernel_rfl) ?_ _
    have hHeld2 := hHeld
    clear hHeld
    have HB8 := Lib.hid (lw_keep hHeld2 (show Below _ _ (World.drew _) from (Below.refl _ _).drew))
    clear hHeld2 KB KC bB bC hS7
    go_wp2_with (fail)
    refine wp_region_held_drew (S := fun W => Below W0.heap.size W0 W ∧ Cel W b7 27 #[.slice x1 ks.length z1, .slice x2 ts.length z2] ∧ KnR W (.slice x1 ks.length z1) (.slice x2 ts.length z2) ks ts) (by kernel_rfl) HB8.out (fun hHeld => ?_)
    refine take_yes (i := 0) (oi := { dst := some 28, op := Op.load 27 (Operand.tmp 7), type := 27, pos := "exact.go:4274", after := #[], guard := none }) (v := .agg #[.slice x1 ks.length z1, .slice x2 ts.length z2]) rfl (by kernel_rfl) (by kernel_rfl) (by kernel_rfl) (fun _ _ _ h => h) (by rfl) (fun w hSw => by (try dsimp only at hSw); obtain ⟨k0, k1⟩ := cel2k hSw.2.1; go_simp) (by assumption) ?_
    try simp only [Act.put, List.setIfInBounds_toArray, List.set_cons_zero, List.set_cons_succ]
    refine take_yes (i := 1) (oi := { dst := some 29, op := Op.load 41 (Operand.tmp 2), type := 41, pos := "exact.go:4274", after := #[], guard := none }) (v := .agg #[.slice ka ks.length kc, .slice ta ts.length tc]) rfl (by kernel_rfl) (by kernel_rfl) (by kernel_rfl) (fun _ _ _ h => h) (by rfl) (fun w hSw => by (try dsimp only at hSw); obtain ⟨-, -, ⟨c0, c1⟩, -⟩ := HD.out _ hSw.1; go_simp) (by assumption) ?_
    try simp only [Act.put, List.setIfInBounds_toArray, List.set_cons_zero, List.set_cons_succ]
    refine wpAnyH_ready (rs := [2]) (by kernel_rfl) (by simp) ?_
    refine AllReadyH.cons (o := { dst := some 30, op := Op.call { callee := Callee.value (Operand.func 25), args := #[Operand.tmp 29], argTypes := #[41] }, type := 27, pos := "exact.go:4274", after := #[{ on := 1, ground := Ground.data }], guard := none }) rfl (fun K hK => ?_) AllReadyH.nil
    go_simp
    with_reducible refine (cK _ (HD.out _ hHeld.1).2.1).mono ?_
    rintro e wA ⟨a1, e1, a2, e2, rfl, oA, bA⟩
    have KA := lw_keep hHeld bA
    refine hK.out _ _ KA (fun hHeldN => ?_)
    clear hK K hHeld
    have hHeld := hHeldN
    clear hHeldN
    try simp only [Act.put, List.setIfInBounds_toArray, List.set_cons_zero, List.set_cons_succ]
    refine wpAnyH_ready (rs := [3]) (by kernel_rfl) (by simp) ?_
    refine AllReadyH.cons (o := { dst := some 31, op := Op.call { callee := Callee.value (Operand.func 27), args := #[Operand.tmp 28, Operand.tmp 30], argTypes := #[27, 27] }, type := 4, pos := "exact.go:4274", after := #[{ on := 0, ground := Ground.data }, { on := 2, ground := Ground.data }, { on := 2, ground := Ground.chain }], guard := none }) rfl (fun K hK => ?_) AllReadyH.nil
    go_simp
    with_reducible refine (cE _ _ _ _ _ hHeld.2.2 oA.rd).mono ?_
    rintro e wC ⟨rfl, bC⟩
    have KC := lw_keep hHeld bC
    refine hK.out _ _ KC (fun hHeldN => ?_)
    clear hK K hHeld
    have hHeld := hHeldN
    clear hHeldN
    try simp only [Act.put, List.setIfInBounds_toArray, List.set_cons_zero, List.set_cons_succ]
    refine take_yes (i := 4) (oi := { dst := some 32, op := Op.unOp UnOp.not 4 (Operand.tmp 31), type := 4, pos := "exact.go:4274", after := #[{ on := 3, ground := Ground.data }], guard := none }) (v := .bool false) rfl (by kernel_rfl) (by kernel_rfl) (by kernel_rfl) (fun _ _ _ h => h) (by rfl) (fun w hSw => by (try dsimp only at hSw); go_simp) (by assumption) ?_
    try simp only [Act.put, List.setIfInBounds_toArray, List.set_cons_zero, List.set_cons_succ]
    refine wpAnyH_done (by kernel_rfl) ?_ _
    have hHeld2 := hHeld
    clear hHeld
    have HB11 := Lib.hid (HD.out _ hHeld2.1).1
    clear hHeld2 KA KC oA bA bC
    go_wp2_with (fail)
    go_ret
    exact ⟨rfl, HB11.out⟩
end Go.Proofs.Ytgfkmnadbcbfkaa
