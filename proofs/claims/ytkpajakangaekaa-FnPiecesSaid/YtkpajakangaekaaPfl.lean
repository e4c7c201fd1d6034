import Derived.Test.YtkpajakangaekaaPwy
import Derived.Test.YtkpajakangaekaaTyn
namespace Go.Proofs.Ytkpajakangaekaa
open Go.RowKit

theorem good_len {s : ByteArray} {r : Int} {t : ByteArray} {m : List Pc} (h : Good s ⟨r, t, m⟩) (hs : s.size ≤ 60) : m.length ≤ 60 ∧ t.size + sumP m ≤ 60 := by
  have h1 := good_held h
  unfold heldP at h1
  have h2 := good_ok h hs
  unfold piecesOk at h2
  split at h2
  · rename_i h3
    exact ⟨by have := h3.2.2.1; simp only at this; omega, by simp only at h1; omega⟩
  · cases h2

set_option maxRecDepth 100000 in
set_option maxHeartbeats 16000000 in
set_option linter.unusedSimpArgs false in
theorem fnpieces_law (v : Value) (w : World) (n : Nat) (hr : RdB w v n) :
    Calls Try.prog 3 #[v] w fun e w' => e = .returned (.bool true) ∧ Below w.heap.size w w' := by
  have cb := big_call v n w hr
  by_cases hn : 1048576 < n
  · rw [decide_eq_true hn] at cb
    clear hn hr
    go_enter Try.func3, Try.ntmps3
    go_wp2_with (fail)
    with_reducible refine cb.mono ?_
    rintro e w1 ⟨rfl, rfl⟩
    go_wp2_with (fail)
    go_ret
    exact ⟨rfl, Below.refl _ _⟩
  · rw [decide_eq_false hn] at cb
    have cp := draw_cuts v n w hr (by omega)
    clear hn hr
    go_enter Try.func3, Try.ntmps3
    go_wp2_with (fail)
    with_reducible refine cb.mono ?_
    rintro e w0 ⟨rfl, rfl⟩
    clear cb
    go_wp2_with (fail)
    with_reducible refine cp.mono ?_
    rintro e w1 ⟨s, u, xs, rfl, hO, hs60, hx60, hW, hb1⟩
    clear cp
    obtain ⟨xa, xc, rfl, hform⟩ := hO.form
    have hp1 := Cel.new w1 28 #[.int .i64 0, .string ⟨#[]⟩, .slice none 0 0]
    have hb2 := below_new w1 (.cells #[.int .i64 0, .string ⟨#[]⟩, .slice none 0 0] 28)
    have hp2 := hp1.alloc (.cells #[.int .i64 0, .string ⟨#[]⟩, .slice none 0 0] 28)
    have hq2 := Cel.new (w1.alloc (.cells #[.int .i64 0, .string ⟨#[]⟩, .slice none 0 0] 28)) 28 #[.int .i64 0, .string ⟨#[]⟩, .slice none 0 0]
    rw [World.size_alloc] at hq2
    have hb3 := Below.then_ hb2 (below_new (w1.alloc (.cells #[.int .i64 0, .string ⟨#[]⟩, .slice none 0 0] 28)) (.cells #[.int .i64 0, .string ⟨#[]⟩, .slice none 0 0] 28))
    have K : Wy w ((w1.alloc (.cells #[.int .i64 0, .string ⟨#[]⟩, .slice none 0 0] 28)).alloc (.cells #[.int .i64 0, .string ⟨#[]⟩, .slice none 0 0] 28)) w1.heap.size (.slice xa xs.length xc) xs 0 ⟨#[]⟩ (.slice none 0 0) [] 0 ⟨#[]⟩ (.slice none 0 0) [] :=
      ⟨hO.keep hb3 (Nat.le_refl _), hp2, ⟨none, 0, rfl, Nat.le_refl _, fun h => absurd h (by simp)⟩, hq2, ⟨none, 0, rfl, Nat.le_refl _, fun h => absurd h (by simp)⟩, Below.then_ hb1 hb3, hb1.size⟩
    have HK := Lib.hid K
    clear hp1 hb2 hp2 hq2 hb3 K hO hb1
    go_wp2_with (fail)
    go_loopw [7] (fun i wr => ∃ (k : Nat) (r r' : Int) (t t' : ByteArray) (pa qa : Option Addr) (pc qc : Nat) (ms ms' : List Pc), k ≤ xs.length ∧ i = .int .i64 (k : Int) ∧ Way s xs k ⟨r, t, ms⟩ ⟨r', t', ms'⟩ ∧ Wy w wr w1.heap.size (.slice xa xs.length xc) xs r t (.slice pa ms.length pc) ms r' t' (.slice qa ms'.length qc) ms') (fun i _ => xs.length - (intOf i).toNat)
    case atStart => exact ⟨0, 0, 0, ⟨#[]⟩, ⟨#[]⟩, none, none, 0, 0, [], [], Nat.zero_le _, rfl, Way.nil s xs, HK.out⟩
    case round =>
      clear HK
      obtain ⟨i, r, r', t, t', pa, qa, pc, qc, ms, ms', hk, rfl, hY, K⟩ := hrel
      generalize w1.heap.size = gp at *
      by_cases hi : i < xs.length
      · have q1 : (i : Int) < (xs.length : Int) := by omega
        have q2 : (0 : Int) ≤ (i : Int) := by omega
        obtain ⟨b, rfl, hg1, hg2⟩ := hform (by omega)
        obtain ⟨j, hj0⟩ : ∃ j, j = xs.length - 1 - i := ⟨_, rfl⟩
        have hj : j < xs.length := by omega
        obtain ⟨l1, hl1⟩ : ∃ l1, l1 = xs.length - 1 := ⟨_, rfl⟩
        have e1 : IntKind.i64.wrap ((xs.length : Int) - 1) = (l1 : Int) := by rw [IntWalk.i64_in _ (by omega)]; omega
        have e2 : IntKind.i64.wrap ((l1 : Int) - (i : Int)) = (j : Int) := by rw [IntWalk.i64_in _ (by omega)]; omega
        have q3 : (0 : Int) ≤ (j : Int) ∧ (j : Int) < (xs.length : Int) := by omega
        have hst := hY.step hs60 hW hi (by omega)
        simp only [← hj0] at hst
        obtain ⟨hG1, hG2, hY2⟩ := hst
        have hxl := pieces_len hW hs60 _ (List.getElem_mem hi)
        have hyl := pieces_len hW hs60 _ (List.getElem_mem hj)
        obtain ⟨x, hx⟩ : ∃ x, x = xs[i] := ⟨_, rfl⟩
        obtain ⟨y, hy⟩ : ∃ y, y = xs[j] := ⟨_, rfl⟩
        have EX : ∀ {W : World} {r r' : Int} {t t' : ByteArray} {u u' : Value} {m m' : List Pc}, Wy w W gp (.slice (some ⟨b, 0, none⟩) xs.length xc) xs r t u m r' t' u' m' → W.cell? ⟨b, i * 2, none⟩ = some (.int .i64 x.pos) ∧ W.cell? ⟨b, i * 2 + 1, none⟩ = some (.string x.text) := fun h => by rw [hx]; exact h.el i hi
        have EY : ∀ {W : World} {r r' : Int} {t t' : ByteArray} {u u' : Value} {m m' : List Pc}, Wy w W gp (.slice (some ⟨b, 0, none⟩) xs.length xc) xs r t u m r' t' u' m' → W.cell? ⟨b, j * 2, none⟩ = some (.int .i64 y.pos) ∧ W.cell? ⟨b, j * 2 + 1, none⟩ = some (.string y.text) := fun h => by rw [hy]; exact h.el j hj
        rw [← hx] at hG1 hY2 hxl
        rw [← hy] at hG2 hY2 hyl
        clear hx hy hl1 hj0
        obtain ⟨r2, t2, m2, eP⟩ : ∃ r2 t2 m2, putPiece ⟨r, t, ms⟩ x.pos x.text = ⟨r2, t2, m2⟩ := ⟨_, _, _, rfl⟩
        obtain ⟨r3, t3, m3, eQ⟩ : ∃ r2 t2 m2, putPiece ⟨r', t', ms'⟩ y.pos y.text = ⟨r2, t2, m2⟩ := ⟨_, _, _, rfl⟩
        obtain ⟨r4, t4, m4, eR⟩ : ∃ r2 t2 m2, putPiece ⟨r3, t3, m3⟩ y.pos y.text = ⟨r2, t2, m2⟩ := ⟨_, _, _, rfl⟩
        rw [eP] at hG1 hY2
        rw [eQ] at hG2 hY2
        rw [eR] at hY2
        obtain ⟨z1, z2⟩ := good_len hY.gp hs60
        obtain ⟨z3, z4⟩ := good_len hY.gq hs60
        obtain ⟨z5, z6⟩ := good_len hG2 hs60
        obtain ⟨z7, z8⟩ := good_len hG1 hs60
        have hok := good_ok hG1 hs60
        have cP := fun u W h => impl_putPiece r t u ms x.pos x.text (gp + 2) W.heap.size W h (by omega) (by omega) (by omega)
        have cQ := fun u W h => impl_putPiece r' t' u ms' y.pos y.text (gp + 2) W.heap.size W h (by omega) (by omega) (by omega)
        have cR := fun u W h => impl_putPiece r3 t3 u m3 y.pos y.text (gp + 2) W.heap.size W h (by omega) (by omega) (by omega)
        have cO := fun u W h => spec_piecesOk r2 t2 u m2 W h (by omega) (by omega)
        have cH := fun u W h => impl_heldOf r2 t2 u m2 W h (by omega) (by omega)
        simp only [eP] at cP
        simp only [eQ] at cQ
        simp only [eR] at cR
        simp only [hok] at cO
        generalize t2.size + sumP m2 = hh at cH z8
        have q4 : ¬ (200 : Int) < (hh : Int) := by omega
        have HY := Lib.hid hY2
        clear eP eQ eR z1 z2 z3 z4 z5 z6 z7 hok hG1 hG2 hY hY2 hxl hyl hk
        have k0 := Lib.hid K.drew
        have e0 := EX k0.out
        clear K
        go_wp2_with (fail)
        refine wp_region_held_drew (S := fun W => W.cell? ⟨b, i * 2, none⟩ = some (.int .i64 x.pos) ∧ W.cell? ⟨b, i * 2 + 1, none⟩ = some (.string x.text)) (by kernel_rfl) e0 (fun hHeld => ?_)
        refine take_yes (i := 1) (oi := { dst := some 26, op := Op.move (Operand.tmp 4), type := 24, pos := "laws.go:437", after := #[], guard := none }) (v := .slice (some ⟨b, 0, none⟩) xs.length xc) rfl (by kernel_rfl) (by kernel_rfl) (by kernel_rfl) (fun _ _ _ h => h) (by rfl) (fun w hSw => by (try dsimp only at hSw); go_simp) (by assumption) ?_
        try simp only [Act.put, List.setIfInBounds_toArray, List.set_cons_zero, List.set_cons_succ]
        refine take_yes (i := 2) (oi := { dst := some 27, op := Op.move (Operand.tmp 7), type := 3, pos := "laws.go:437", after := #[], guard := none }) (v := .int .i64 (i : Int)) rfl (by kernel_rfl) (by kernel_rfl) (by kernel_rfl) (fun _ _ _ h => h) (by rfl) (fun w hSw => by (try dsimp only at hSw); go_simp) (by assumption) ?_
        try simp only [Act.put, List.setIfInBounds_toArray, List.set_cons_zero, List.set_cons_succ]
        refine take_yes (i := 3) (oi := { dst := some 28, op := Op.indexAddr 24 (Operand.tmp 26) (Operand.tmp 27), type := 0, pos := "laws.go:437", after := #[{ on := 1, ground := Ground.data }, { on := 2, ground := Ground.data }], guard := none }) (v := .pointer (some ⟨b, i * 2, none⟩)) rfl (by kernel_rfl) (by kernel_rfl) (by kernel_rfl) (fun _ _ _ h => h) (by rfl) (fun w hSw => by (try dsimp only at hSw); go_simp) (by assumption) ?_
        try simp only [Act.put, List.setIfInBounds_toArray, List.set_cons_zero, List.set_cons_succ]
        refine take_yes (i := 4) (oi := { dst := some 29, op := Op.fieldAddr 31 (Operand.tmp 28) 0, type := 0, pos := "laws.go:437", after := #[{ on := 3, ground := Ground.data }], guard := none }) (v := .pointer (some ⟨b, i * 2, none⟩)) rfl (by kernel_rfl) (by kernel_rfl) (by kernel_rfl) (fun _ _ _ h => h) (by rfl) (fun w hSw => by (try dsimp only at hSw); go_simp) (by assumption) ?_
        try simp only [Act.put, List.setIfInBounds_toArray, List.set_cons_zero, List.set_cons_succ]
        refine take_yes (i := 5) (oi := { dst := some 30, op := Op.load 3 (Operand.tmp 29), type := 3, pos := "laws.go:437", after := #[{ on := 4, ground := Ground.data }], guard := none }) (v := .int .i64 x.pos) rfl (by kernel_rfl) (by kernel_rfl) (by kernel_rfl) (fun _ _ _ h => h) (by rfl) (fun w hSw => by (try dsimp only at hSw); go_simp) (by assumption) ?_
        try simp only [Act.put, List.setIfInBounds_toArray, List.set_cons_zero, List.set_cons_succ]
        refine take_yes (i := 6) (oi := { dst := some 31, op := Op.move (Operand.tmp 4), type := 24, pos := "laws.go:437", after := #[], guard := none }) (v := .slice (some ⟨b, 0, none⟩) xs.length xc) rfl (by kernel_rfl) (by kernel_rfl) (by kernel_rfl) (fun _ _ _ h => h) (by rfl) (fun w hSw => by (try dsimp only at hSw); go_simp) (by assumption) ?_
        try simp only [Act.put, List.setIfInBounds_toArray, List.set_cons_zero, List.set_cons_succ]
        refine take_yes (i := 7) (oi := { dst := some 32, op := Op.move (Operand.tmp 7), type := 3, pos := "laws.go:437", after := #[], guard := none }) (v := .int .i64 (i : Int)) rfl (by kernel_rfl) (by kernel_rfl) (by kernel_rfl) (fun _ _ _ h => h) (by rfl) (fun w hSw => by (try dsimp only at hSw); go_simp) (by assumption) ?_
        try simp only [Act.put, List.setIfInBounds_toArray, List.set_cons_zero, List.set_cons_succ]
        refine take_yes (i := 8) (oi := { dst := some 33, op := Op.indexAddr 24 (Operand.tmp 31) (Operand.tmp 32), type := 0, pos := "laws.go:437", after := #[{ on := 6, ground := Ground.data }, { on := 7, ground := Ground.data }], guard := none }) (v := .pointer (some ⟨b, i * 2, none⟩)) rfl (by kernel_rfl) (by kernel_rfl) (by kernel_rfl) (fun _ _ _ h => h) (by rfl) (fun w hSw => by (try dsimp only at hSw); go_simp) (by assumption) ?_
        try simp only [Act.put, List.setIfInBounds_toArray, List.set_cons_zero, List.set_cons_succ]
        refine take_yes (i := 9) (oi := { dst := some 34, op := Op.fieldAddr 31 (Operand.tmp 33) 1, type := 0, pos := "laws.go:437", after := #[{ on := 8, ground := Ground.data }], guard := none }) (v := .pointer (some ⟨b, i * 2 + 1, none⟩)) rfl (by kernel_rfl) (by kernel_rfl) (by kernel_rfl) (fun _ _ _ h => h) (by rfl) (fun w hSw => by (try dsimp only at hSw); go_simp) (by assumption) ?_
        try simp only [Act.put, List.setIfInBounds_toArray, List.set_cons_zero, List.set_cons_succ]
        refine take_yes (i := 10) (oi := { dst := some 35, op := Op.load 9 (Operand.tmp 34), type := 9, pos := "laws.go:437", after := #[{ on := 9, ground := Ground.data }], guard := none }) (v := .string x.text) rfl (by kernel_rfl) (by kernel_rfl) (by kernel_rfl) (fun _ _ _ h => h) (by rfl) (fun w hSw => by (try dsimp only at hSw); go_simp) (by assumption) ?_
        try simp only [Act.put, List.setIfInBounds_toArray, List.set_cons_zero, List.set_cons_succ]
        refine wpAnyH_ready (rs := [0]) (by kernel_rfl) (by simp) ?_
        refine AllReadyH.cons (o := { dst := some 25, op := Op.load 28 (Operand.tmp 5), type := 28, pos := "laws.go:437", after := #[], guard := none }) rfl (fun K hK => ?_) AllReadyH.nil
        obtain ⟨a0, a1, a2⟩ := cel3' k0.out.p
        go_simp
        clear a0 a1 a2
        refine hK.out _ _ hHeld (fun hHeldN => ?_)
        clear hK K hHeld
        have hHeld := hHeldN
        clear hHeldN
        try simp only [Act.put, List.setIfInBounds_toArray, List.set_cons_zero, List.set_cons_succ]
        refine wpAnyH_ready (rs := [11]) (by kernel_rfl) (by simp) ?_
        refine AllReadyH.cons (o := { dst := some 36, op := Op.call { callee := Callee.value (Operand.func 12), args := #[Operand.tmp 25, Operand.tmp 30, Operand.tmp 35], argTypes := #[28, 3, 9] }, type := 28, pos := "laws.go:437", after := #[{ on := 0, ground := Ground.data }, { on := 5, ground := Ground.data }, { on := 10, ground := Ground.data }], guard := none }) rfl (fun K hK => ?_) AllReadyH.nil
        go_simp
        with_reducible refine (cP _ _ k0.out.pr).mono ?_
        rintro e wA ⟨u2, rfl, hO1, hb1⟩
        obtain ⟨u2a, u2c, rfl, -⟩ := hO1.form
        have k0b := k0.out.kept hb1
        have L1 := k0.out.own hO1
        have x1 := EX k0b
        have y1 := Lib.hid (And.intro k0b (And.intro L1 (k0b.putp (r2 := r2) (t2 := t2) L1)))
        clear k0b L1 hO1 hb1 cP
        refine hK.out _ _ x1 (fun hHeldN => ?_)
        clear hK K hHeld
        have hHeld := hHeldN
        clear hHeldN
        try simp only [Act.put, List.setIfInBounds_toArray, List.set_cons_zero, List.set_cons_succ]
        refine wpAnyH_ready (rs := [12]) (by kernel_rfl) (by simp) ?_
        refine AllReadyH.cons (o := { dst := none, op := Op.store 28 (Operand.tmp 5) (Operand.tmp 36), type := 0, pos := "laws.go:437", after := #[{ on := 11, ground := Ground.data }, { on := 11, ground := Ground.chain }, { on := 0, ground := Ground.phase }, { on := 1, ground := Ground.phase }, { on := 2, ground := Ground.phase }, { on := 3, ground := Ground.phase }, { on := 4, ground := Ground.phase }, { on := 5, ground := Ground.phase }, { on := 6, ground := Ground.phase }, { on := 7, ground := Ground.phase }, { on := 8, ground := Ground.phase }, { on := 9, ground := Ground.phase }, { on := 10, ground := Ground.phase }, { on := 11, ground := Ground.phase }], guard := none }) rfl (fun K hK => ?_) AllReadyH.nil
        obtain ⟨a0, a1, a2⟩ := cel3' y1.out.1.p
        have j0 := y1.out.1.p.frozen 0
        have j1 := y1.out.1.p.frozen 1
        have j2 := y1.out.1.p.frozen 2
        go_simp
        clear a0 a1 a2 j0 j1 j2
        have k1 := Lib.hid y1.out.2.2
        clear y1
        have z1 := EX k1.out
        refine hK.out _ _ z1 (fun hHeldN => ?_)
        clear hK K hHeld
        have hHeld := hHeldN
        clear hHeldN
        try simp only [Act.put, List.setIfInBounds_toArray, List.set_cons_zero, List.set_cons_succ]
        refine wpAnyH_done (by kernel_rfl) ?_ _
        clear hHeld
        clear z1
        go_wp2_with (fail)
        have k1 := Lib.hid k1.out.drew
        have e0 := EY k1.out
        refine wp_region_held_drew (S := fun W => W.cell? ⟨b, j * 2, none⟩ = some (.int .i64 y.pos) ∧ W.cell? ⟨b, j * 2 + 1, none⟩ = some (.string y.text)) (by kernel_rfl) e0 (fun hHeld => ?_)
        refine take_yes (i := 1) (oi := { dst := some 38, op := Op.move (Operand.tmp 4), type := 24, pos := "laws.go:438", after := #[], guard := none }) (v := .slice (some ⟨b, 0, none⟩) xs.length xc) rfl (by kernel_rfl) (by kernel_rfl) (by kernel_rfl) (fun _ _ _ h => h) (by rfl) (fun w hSw => by (try dsimp only at hSw); go_simp) (by assumption) ?_
        try simp only [Act.put, List.setIfInBounds_toArray, List.set_cons_zero, List.set_cons_succ]
        refine take_yes (i := 2) (oi := { dst := some 39, op := Op.move (Operand.tmp 4), type := 24, pos := "laws.go:438", after := #[], guard := none }) (v := .slice (some ⟨b, 0, none⟩) xs.length xc) rfl (by kernel_rfl) (by kernel_rfl) (by kernel_rfl) (fun _ _ _ h => h) (by rfl) (fun w hSw => by (try dsimp only at hSw); go_simp) (by assumption) ?_
        try simp only [Act.put, List.setIfInBounds_toArray, List.set_cons_zero, List.set_cons_succ]
        refine take_yes (i := 3) (oi := { dst := some 40, op := Op.call { callee := Callee.builtin Builtin.len, args := #[Operand.tmp 39], argTypes := #[24] }, type := 3, pos := "laws.go:438", after := #[{ on := 2, ground := Ground.data }], guard := none }) (v := .int .i64 (xs.length : Int)) rfl (by kernel_rfl) (by kernel_rfl) (by kernel_rfl) (fun _ _ _ h => h) (by rfl) (fun w hSw => by (try dsimp only at hSw); go_simp) (by assumption) ?_
        try simp only [Act.put, List.setIfInBounds_toArray, List.set_cons_zero, List.set_cons_succ]
        refine take_yes (i := 4) (oi := { dst := some 41, op := Op.binOp BinOp.sub 3 (Operand.tmp 40) (Operand.const (Value.int IntKind.i64 1)) 3, type := 3, pos := "laws.go:438", after := #[{ on := 3, ground := Ground.data }], guard := none }) (v := .int .i64 (l1 : Int)) rfl (by kernel_rfl) (by kernel_rfl) (by kernel_rfl) (fun _ _ _ h => h) (by rfl) (fun w hSw => by (try dsimp only at hSw); go_simp) (by assumption) ?_
        try simp only [Act.put, List.setIfInBounds_toArray, List.set_cons_zero, List.set_cons_succ]
        refine take_yes (i := 5) (oi := { dst := some 42, op := Op.move (Operand.tmp 7), type := 3, pos := "laws.go:438", after := #[], guard := none }) (v := .int .i64 (i : Int)) rfl (by kernel_rfl) (by kernel_rfl) (by kernel_rfl) (fun _ _ _ h => h) (by rfl) (fun w hSw => by (try dsimp only at hSw); go_simp) (by assumption) ?_
        try simp only [Act.put, List.setIfInBounds_toArray, List.set_cons_zero, List.set_cons_succ]
        refine take_yes (i := 6) (oi := { dst := some 43, op := Op.binOp BinOp.sub 3 (Operand.tmp 41) (Operand.tmp 42) 3, type := 3, pos := "laws.go:438", after := #[{ on := 4, ground := Ground.data }, { on := 5, ground := Ground.data }], guard := none }) (v := .int .i64 (j : Int)) rfl (by kernel_rfl) (by kernel_rfl) (by kernel_rfl) (fun _ _ _ h => h) (by rfl) (fun w hSw => by (try dsimp only at hSw); go_simp) (by assumption) ?_
        try simp only [Act.put, List.setIfInBounds_toArray, List.set_cons_zero, List.set_cons_succ]
        refine take_yes (i := 7) (oi := { dst := some 44, op := Op.indexAddr 24 (Operand.tmp 38) (Operand.tmp 43), type := 0, pos := "laws.go:438", after := #[{ on := 1, ground := Ground.data }, { on := 6, ground := Ground.data }], guard := none }) (v := .pointer (some ⟨b, j * 2, none⟩)) rfl (by kernel_rfl) (by kernel_rfl) (by kernel_rfl) (fun _ _ _ h => h) (by rfl) (fun w hSw => by (try dsimp only at hSw); go_simp) (by assumption) ?_
        try simp only [Act.put, List.setIfInBounds_toArray, List.set_cons_zero, List.set_cons_succ]
        refine take_yes (i := 8) (oi := { dst := some 45, op := Op.fieldAddr 31 (Operand.tmp 44) 0, type := 0, pos := "laws.go:438", after := #[{ on := 7, ground := Ground.data }], guard := none }) (v := .pointer (some ⟨b, j * 2, none⟩)) rfl (by kernel_rfl) (by kernel_rfl) (by kernel_rfl) (fun _ _ _ h => h) (by rfl) (fun w hSw => by (try dsimp only at hSw); go_simp) (by assumption) ?_
        try simp only [Act.put, List.setIfInBounds_toArray, List.set_cons_zero, List.set_cons_succ]
        refine take_yes (i := 9) (oi := { dst := some 46, op := Op.load 3 (Operand.tmp 45), type := 3, pos := "laws.go:438", after := #[{ on := 8, ground := Ground.data }], guard := none }) (v := .int .i64 y.pos) rfl (by kernel_rfl) (by kernel_rfl) (by kernel_rfl) (fun _ _ _ h => h) (by rfl) (fun w hSw => by (try dsimp only at hSw); go_simp) (by assumption) ?_
        try simp only [Act.put, List.setIfInBounds_toArray, List.set_cons_zero, List.set_cons_succ]
        refine take_yes (i := 10) (oi := { dst := some 47, op := Op.move (Operand.tmp 4), type := 24, pos := "laws.go:438", after := #[], guard := none }) (v := .slice (some ⟨b, 0, none⟩) xs.length xc) rfl (by kernel_rfl) (by kernel_rfl) (by kernel_rfl) (fun _ _ _ h => h) (by rfl) (fun w hSw => by (try dsimp only at hSw); go_simp) (by assumption) ?_
        try simp only [Act.put, List.setIfInBounds_toArray, List.set_cons_zero, List.set_cons_succ]
        refine take_yes (i := 11) (oi := { dst := some 48, op := Op.move (Operand.tmp 4), type := 24, pos := "laws.go:438", after := #[], guard := none }) (v := .slice (some ⟨b, 0, none⟩) xs.length xc) rfl (by kernel_rfl) (by kernel_rfl) (by kernel_rfl) (fun _ _ _ h => h) (by rfl) (fun w hSw => by (try dsimp only at hSw); go_simp) (by assumption) ?_
        try simp only [Act.put, List.setIfInBounds_toArray, List.set_cons_zero, List.set_cons_succ]
        refine take_yes (i := 12) (oi := { dst := some 49, op := Op.call { callee := Callee.builtin Builtin.len, args := #[Operand.tmp 48], argTypes := #[24] }, type := 3, pos := "laws.go:438", after := #[{ on := 11, ground := Ground.data }], guard := none }) (v := .int .i64 (xs.length : Int)) rfl (by kernel_rfl) (by kernel_rfl) (by kernel_rfl) (fun _ _ _ h => h) (by rfl) (fun w hSw => by (try dsimp only at hSw); go_simp) (by assumption) ?_
        try simp only [Act.put, List.setIfInBounds_toArray, List.set_cons_zero, List.set_cons_succ]
        refine take_yes (i := 13) (oi := { dst := some 50, op := Op.binOp BinOp.sub 3 (Operand.tmp 49) (Operand.const (Value.int IntKind.i64 1)) 3, type := 3, pos := "laws.go:438", after := #[{ on := 12, ground := Ground.data }], guard := none }) (v := .int .i64 (l1 : Int)) rfl (by kernel_rfl) (by kernel_rfl) (by kernel_rfl) (fun _ _ _ h => h) (by rfl) (fun w hSw => by (try dsimp only at hSw); go_simp) (by assumption) ?_
        try simp only [Act.put, List.setIfInBounds_toArray, List.set_cons_zero, List.set_cons_succ]
        refine take_yes (i := 14) (oi := { dst := some 51, op := Op.move (Operand.tmp 7), type := 3, pos := "laws.go:438", after := #[], guard := none }) (v := .int .i64 (i : Int)) rfl (by kernel_rfl) (by kernel_rfl) (by kernel_rfl) (fun _ _ _ h => h) (by rfl) (fun w hSw => by (try dsimp only at hSw); go_simp) (by assumption) ?_
        try simp only [Act.put, List.setIfInBounds_toArray, List.set_cons_zero, List.set_cons_succ]
        refine take_yes (i := 15) (oi := { dst := some 52, op := Op.binOp BinOp.sub 3 (Operand.tmp 50) (Operand.tmp 51) 3, type := 3, pos := "laws.go:438", after := #[{ on := 13, ground := Ground.data }, { on := 14, ground := Ground.data }], guard := none }) (v := .int .i64 (j : Int)) rfl (by kernel_rfl) (by kernel_rfl) (by kernel_rfl) (fun _ _ _ h => h) (by rfl) (fun w hSw => by (try dsimp only at hSw); go_simp) (by assumption) ?_
        try simp only [Act.put, List.setIfInBounds_toArray, List.set_cons_zero, List.set_cons_succ]
        refine take_yes (i := 16) (oi := { dst := some 53, op := Op.indexAddr 24 (Operand.tmp 47) (Operand.tmp 52), type := 0, pos := "laws.go:438", after := #[{ on := 10, ground := Ground.data }, { on := 15, ground := Ground.data }], guard := none }) (v := .pointer (some ⟨b, j * 2, none⟩)) rfl (by kernel_rfl) (by kernel_rfl) (by kernel_rfl) (fun _ _ _ h => h) (by rfl) (fun w hSw => by (try dsimp only at hSw); go_simp) (by assumption) ?_
        try simp only [Act.put, List.setIfInBounds_toArray, List.set_cons_zero, List.set_cons_succ]
        refine take_yes (i := 17) (oi := { dst := some 54, op := Op.fieldAddr 31 (Operand.tmp 53) 1, type := 0, pos := "laws.go:438", after := #[{ on := 16, ground := Ground.data }], guard := none }) (v := .pointer (some ⟨b, j * 2 + 1, none⟩)) rfl (by kernel_rfl) (by kernel_rfl) (by kernel_rfl) (fun _ _ _ h => h) (by rfl) (fun w hSw => by (try dsimp only at hSw); go_simp) (by assumption) ?_
        try simp only [Act.put, List.setIfInBounds_toArray, List.set_cons_zero, List.set_cons_succ]
        refine take_yes (i := 18) (oi := { dst := some 55, op := Op.load 9 (Operand.tmp 54), type := 9, pos := "laws.go:438", after := #[{ on := 17, ground := Ground.data }], guard := none }) (v := .string y.text) rfl (by kernel_rfl) (by kernel_rfl) (by kernel_rfl) (fun _ _ _ h => h) (by rfl) (fun w hSw => by (try dsimp only at hSw); go_simp) (by assumption) ?_
        try simp only [Act.put, List.setIfInBounds_toArray, List.set_cons_zero, List.set_cons_succ]
        refine wpAnyH_ready (rs := [0]) (by kernel_rfl) (by simp) ?_
        refine AllReadyH.cons (o := { dst := some 37, op := Op.load 28 (Operand.tmp 6), type := 28, pos := "laws.go:438", after := #[], guard := none }) rfl (fun K hK => ?_) AllReadyH.nil
        obtain ⟨a0, a1, a2⟩ := cel3' k1.out.q
        go_simp
        clear a0 a1 a2
        refine hK.out _ _ hHeld (fun hHeldN => ?_)
        clear hK K hHeld
        have hHeld := hHeldN
        clear hHeldN
        try simp only [Act.put, List.setIfInBounds_toArray, List.set_cons_zero, List.set_cons_succ]
        refine wpAnyH_ready (rs := [19]) (by kernel_rfl) (by simp) ?_
        refine AllReadyH.cons (o := { dst := some 56, op := Op.call { callee := Callee.value (Operand.func 12), args := #[Operand.tmp 37, Operand.tmp 46, Operand.tmp 55], argTypes := #[28, 3, 9] }, type := 28, pos := "laws.go:438", after := #[{ on := 0, ground := Ground.data }, { on := 9, ground := Ground.data }, { on := 18, ground := Ground.data }], guard := none }) rfl (fun K hK => ?_) AllReadyH.nil
        go_simp
        with_reducible refine (cQ _ _ k1.out.qr).mono ?_
        rintro e wB ⟨u3, rfl, hO2, hb2⟩
        obtain ⟨u3a, u3c, rfl, -⟩ := hO2.form
        have k1b := k1.out.kept hb2
        have L2 := k1.out.own hO2
        have x2 := EY k1b
        have y2 := Lib.hid (And.intro k1b (And.intro L2 (k1b.putq (r2 := r3) (t2 := t3) L2)))
        clear k1b L2 hO2 hb2 cQ
        refine hK.out _ _ x2 (fun hHeldN => ?_)
        clear hK K hHeld
        have hHeld := hHeldN
        clear hHeldN
        try simp only [Act.put, List.setIfInBounds_toArray, List.set_cons_zero, List.set_cons_succ]
        refine wpAnyH_ready (rs := [20]) (by kernel_rfl) (by simp) ?_
        refine AllReadyH.cons (o := { dst := none, op := Op.store 28 (Operand.tmp 6) (Operand.tmp 56), type := 0, pos := "laws.go:438", after := #[{ on := 19, ground := Ground.data }, { on := 19, ground := Ground.chain }, { on := 0, ground := Ground.phase }, { on := 1, ground := Ground.phase }, { on := 2, ground := Ground.phase }, { on := 3, ground := Ground.phase }, { on := 4, ground := Ground.phase }, { on := 5, ground := Ground.phase }, { on := 6, ground := Ground.phase }, { on := 7, ground := Ground.phase }, { on := 8, ground := Ground.phase }, { on := 9, ground := Ground.phase }, { on := 10, ground := Ground.phase }, { on := 11, ground := Ground.phase }, { on := 12, ground := Ground.phase }, { on := 13, ground := Ground.phase }, { on := 14, ground := Ground.phase }, { on := 15, ground := Ground.phase }, { on := 16, ground := Ground.phase }, { on := 17, ground := Ground.phase }, { on := 18, ground := Ground.phase }, { on := 19, ground := Ground.phase }], guard := none }) rfl (fun K hK => ?_) AllReadyH.nil
        obtain ⟨a0, a1, a2⟩ := cel3' y2.out.1.q
        have j0 := y2.out.1.q.frozen 0
        have j1 := y2.out.1.q.frozen 1
        have j2 := y2.out.1.q.frozen 2
        go_simp
        clear a0 a1 a2 j0 j1 j2
        have k2 := Lib.hid y2.out.2.2
        clear y2
        have z2 := EY k2.out
        refine hK.out _ _ z2 (fun hHeldN => ?_)
        clear hK K hHeld
        have hHeld := hHeldN
        clear hHeldN
        try simp only [Act.put, List.setIfInBounds_toArray, List.set_cons_zero, List.set_cons_succ]
        refine wpAnyH_done (by kernel_rfl) ?_ _
        clear hHeld
        clear z2
        go_wp2_with (fail)
        have k2 := Lib.hid k2.out.drew
        have e0 := EY k2.out
        refine wp_region_held_drew (S := fun W => W.cell? ⟨b, j * 2, none⟩ = some (.int .i64 y.pos) ∧ W.cell? ⟨b, j * 2 + 1, none⟩ = some (.string y.text)) (by kernel_rfl) e0 (fun hHeld => ?_)
        refine take_yes (i := 1) (oi := { dst := some 58, op := Op.move (Operand.tmp 4), type := 24, pos := "laws.go:439", after := #[], guard := none }) (v := .slice (some ⟨b, 0, none⟩) xs.length xc) rfl (by kernel_rfl) (by kernel_rfl) (by kernel_rfl) (fun _ _ _ h => h) (by rfl) (fun w hSw => by (try dsimp only at hSw); go_simp) (by assumption) ?_
        try simp only [Act.put, List.setIfInBounds_toArray, List.set_cons_zero, List.set_cons_succ]
        refine take_yes (i := 2) (oi := { dst := some 59, op := Op.move (Operand.tmp 4), type := 24, pos := "laws.go:439", after := #[], guard := none }) (v := .slice (some ⟨b, 0, none⟩) xs.length xc) rfl (by kernel_rfl) (by kernel_rfl) (by kernel_rfl) (fun _ _ _ h => h) (by rfl) (fun w hSw => by (try dsimp only at hSw); go_simp) (by assumption) ?_
        try simp only [Act.put, List.setIfInBounds_toArray, List.set_cons_zero, List.set_cons_succ]
        refine take_yes (i := 3) (oi := { dst := some 60, op := Op.call { callee := Callee.builtin Builtin.len, args := #[Operand.tmp 59], argTypes := #[24] }, type := 3, pos := "laws.go:439", after := #[{ on := 2, ground := Ground.data }], guard := none }) (v := .int .i64 (xs.length : Int)) rfl (by kernel_rfl) (by kernel_rfl) (by kernel_rfl) (fun _ _ _ h => h) (by rfl) (fun w hSw => by (try dsimp only at hSw); go_simp) (by assumption) ?_
        try simp only [Act.put, List.setIfInBounds_toArray, List.set_cons_zero, List.set_cons_succ]
        refine take_yes (i := 4) (oi := { dst := some 61, op := Op.binOp BinOp.sub 3 (Operand.tmp 60) (Operand.const (Value.int IntKind.i64 1)) 3, type := 3, pos := "laws.go:439", after := #[{ on := 3, ground := Ground.data }], guard := none }) (v := .int .i64 (l1 : Int)) rfl (by kernel_rfl) (by kernel_rfl) (by kernel_rfl) (fun _ _ _ h => h) (by rfl) (fun w hSw => by (try dsimp only at hSw); go_simp) (by assumption) ?_
        try simp only [Act.put, List.setIfInBounds_toArray, List.set_cons_zero, List.set_cons_succ]
        refine take_yes (i := 5) (oi := { dst := some 62, op := Op.move (Operand.tmp 7), type := 3, pos := "laws.go:439", after := #[], guard := none }) (v := .int .i64 (i : Int)) rfl (by kernel_rfl) (by kernel_rfl) (by kernel_rfl) (fun _ _ _ h => h) (by rfl) (fun w hSw => by (try dsimp only at hSw); go_simp) (by assumption) ?_
        try simp only [Act.put, List.setIfInBounds_toArray, List.set_cons_zero, List.set_cons_succ]
        refine take_yes (i := 6) (oi := { dst := some 63, op := Op.binOp BinOp.sub 3 (Operand.tmp 61) (Operand.tmp 62) 3, type := 3, pos := "laws.go:439", after := #[{ on := 4, ground := Ground.data }, { on := 5, ground := Ground.data }], guard := none }) (v := .int .i64 (j : Int)) rfl (by kernel_rfl) (by kernel_rfl) (by kernel_rfl) (fun _ _ _ h => h) (by rfl) (fun w hSw => by (try dsimp only at hSw); go_simp) (by assumption) ?_
        try simp only [Act.put, List.setIfInBounds_toArray, List.set_cons_zero, List.set_cons_succ]
        refine take_yes (i := 7) (oi := { dst := some 64, op := Op.indexAddr 24 (Operand.tmp 58) (Operand.tmp 63), type := 0, pos := "laws.go:439", after := #[{ on := 1, ground := Ground.data }, { on := 6, ground := Ground.data }], guard := none }) (v := .pointer (some ⟨b, j * 2, none⟩)) rfl (by kernel_rfl) (by kernel_rfl) (by kernel_rfl) (fun _ _ _ h => h) (by rfl) (fun w hSw => by (try dsimp only at hSw); go_simp) (by assumption) ?_
        try simp only [Act.put, List.setIfInBounds_toArray, List.set_cons_zero, List.set_cons_succ]
        refine take_yes (i := 8) (oi := { dst := some 65, op := Op.fieldAddr 31 (Operand.tmp 64) 0, type := 0, pos := "laws.go:439", after := #[{ on := 7, ground := Ground.data }], guard := none }) (v := .pointer (some ⟨b, j * 2, none⟩)) rfl (by kernel_rfl) (by kernel_rfl) (by kernel_rfl) (fun _ _ _ h => h) (by rfl) (fun w hSw => by (try dsimp only at hSw); go_simp) (by assumption) ?_
        try simp only [Act.put, List.setIfInBounds_toArray, List.set_cons_zero, List.set_cons_succ]
        refine take_yes (i := 9) (oi := { dst := some 66, op := Op.load 3 (Operand.tmp 65), type := 3, pos := "laws.go:439", after := #[{ on := 8, ground := Ground.data }], guard := none }) (v := .int .i64 y.pos) rfl (by kernel_rfl) (by kernel_rfl) (by kernel_rfl) (fun _ _ _ h => h) (by rfl) (fun w hSw => by (try dsimp only at hSw); go_simp) (by assumption) ?_
        try simp only [Act.put, List.setIfInBounds_toArray, List.set_cons_zero, List.set_cons_succ]
        refine take_yes (i := 10) (oi := { dst := some 67, op := Op.move (Operand.tmp 4), type := 24, pos := "laws.go:439", after := #[], guard := none }) (v := .slice (some ⟨b, 0, none⟩) xs.length xc) rfl (by kernel_rfl) (by kernel_rfl) (by kernel_rfl) (fun _ _ _ h => h) (by rfl) (fun w hSw => by (try dsimp only at hSw); go_simp) (by assumption) ?_
        try simp only [Act.put, List.setIfInBounds_toArray, List.set_cons_zero, List.set_cons_succ]
        refine take_yes (i := 11) (oi := { dst := some 68, op := Op.move (Operand.tmp 4), type := 24, pos := "laws.go:439", after := #[], guard := none }) (v := .slice (some ⟨b, 0, none⟩) xs.length xc) rfl (by kernel_rfl) (by kernel_rfl) (by kernel_rfl) (fun _ _ _ h => h) (by rfl) (fun w hSw => by (try dsimp only at hSw); go_simp) (by assumption) ?_
        try simp only [Act.put, List.setIfInBounds_toArray, List.set_cons_zero, List.set_cons_succ]
        refine take_yes (i := 12) (oi := { dst := some 69, op := Op.call { callee := Callee.builtin Builtin.len, args := #[Operand.tmp 68], argTypes := #[24] }, type := 3, pos := "laws.go:439", after := #[{ on := 11, ground := Ground.data }], guard := none }) (v := .int .i64 (xs.length : Int)) rfl (by kernel_rfl) (by kernel_rfl) (by kernel_rfl) (fun _ _ _ h => h) (by rfl) (fun w hSw => by (try dsimp only at hSw); go_simp) (by assumption) ?_
        try simp only [Act.put, List.setIfInBounds_toArray, List.set_cons_zero, List.set_cons_succ]
        refine take_yes (i := 13) (oi := { dst := some 70, op := Op.binOp BinOp.sub 3 (Operand.tmp 69) (Operand.const (Value.int IntKind.i64 1)) 3, type := 3, pos := "laws.go:439", after := #[{ on := 12, ground := Ground.data }], guard := none }) (v := .int .i64 (l1 : Int)) rfl (by kernel_rfl) (by kernel_rfl) (by kernel_rfl) (fun _ _ _ h => h) (by rfl) (fun w hSw => by (try dsimp only at hSw); go_simp) (by assumption) ?_
        try simp only [Act.put, List.setIfInBounds_toArray, List.set_cons_zero, List.set_cons_succ]
        refine take_yes (i := 14) (oi := { dst := some 71, op := Op.move (Operand.tmp 7), type := 3, pos := "laws.go:439", after := #[], guard := none }) (v := .int .i64 (i : Int)) rfl (by kernel_rfl) (by kernel_rfl) (by kernel_rfl) (fun _ _ _ h => h) (by rfl) (fun w hSw => by (try dsimp only at hSw); go_simp) (by assumption) ?_
        try simp only [Act.put, List.setIfInBounds_toArray, List.set_cons_zero, List.set_cons_succ]
        refine take_yes (i := 15) (oi := { dst := some 72, op := Op.binOp BinOp.sub 3 (Operand.tmp 70) (Operand.tmp 71) 3, type := 3, pos := "laws.go:439", after := #[{ on := 13, ground := Ground.data }, { on := 14, ground := Ground.data }], guard := none }) (v := .int .i64 (j : Int)) rfl (by kernel_rfl) (by kernel_rfl) (by kernel_rfl) (fun _ _ _ h => h) (by rfl) (fun w hSw => by (try dsimp only at hSw); go_simp) (by assumption) ?_
        try simp only [Act.put, List.setIfInBounds_toArray, List.set_cons_zero, List.set_cons_succ]
        refine take_yes (i := 16) (oi := { dst := some 73, op := Op.indexAddr 24 (Operand.tmp 67) (Operand.tmp 72), type := 0, pos := "laws.go:439", after := #[{ on := 10, ground := Ground.data }, { on := 15, ground := Ground.data }], guard := none }) (v := .pointer (some ⟨b, j * 2, none⟩)) rfl (by kernel_rfl) (by kernel_rfl) (by kernel_rfl) (fun _ _ _ h => h) (by rfl) (fun w hSw => by (try dsimp only at hSw); go_simp) (by assumption) ?_
        try simp only [Act.put, List.setIfInBounds_toArray, List.set_cons_zero, List.set_cons_succ]
        refine take_yes (i := 17) (oi := { dst := some 74, op := Op.fieldAddr 31 (Operand.tmp 73) 1, type := 0, pos := "laws.go:439", after := #[{ on := 16, ground := Ground.data }], guard := none }) (v := .pointer (some ⟨b, j * 2 + 1, none⟩)) rfl (by kernel_rfl) (by kernel_rfl) (by kernel_rfl) (fun _ _ _ h => h) (by rfl) (fun w hSw => by (try dsimp only at hSw); go_simp) (by assumption) ?_
        try simp only [Act.put, List.setIfInBounds_toArray, List.set_cons_zero, List.set_cons_succ]
        refine take_yes (i := 18) (oi := { dst := some 75, op := Op.load 9 (Operand.tmp 74), type := 9, pos := "laws.go:439", after := #[{ on := 17, ground := Ground.data }], guard := none }) (v := .string y.text) rfl (by kernel_rfl) (by kernel_rfl) (by kernel_rfl) (fun _ _ _ h => h) (by rfl) (fun w hSw => by (try dsimp only at hSw); go_simp) (by assumption) ?_
        try simp only [Act.put, List.setIfInBounds_toArray, List.set_cons_zero, List.set_cons_succ]
        refine wpAnyH_ready (rs := [0]) (by kernel_rfl) (by simp) ?_
        refine AllReadyH.cons (o := { dst := some 57, op := Op.load 28 (Operand.tmp 6), type := 28, pos := "laws.go:439", after := #[], guard := none }) rfl (fun K hK => ?_) AllReadyH.nil
        obtain ⟨a0, a1, a2⟩ := cel3' k2.out.q
        go_simp
        clear a0 a1 a2
        refine hK.out _ _ hHeld (fun hHeldN => ?_)
        clear hK K hHeld
        have hHeld := hHeldN
        clear hHeldN
        try simp only [Act.put, List.setIfInBounds_toArray, List.set_cons_zero, List.set_cons_succ]
        refine wpAnyH_ready (rs := [19]) (by kernel_rfl) (by simp) ?_
        refine AllReadyH.cons (o := { dst := some 76, op := Op.call { callee := Callee.value (Operand.func 12), args := #[Operand.tmp 57, Operand.tmp 66, Operand.tmp 75], argTypes := #[28, 3, 9] }, type := 28, pos := "laws.go:439", after := #[{ on := 0, ground := Ground.data }, { on := 9, ground := Ground.data }, { on := 18, ground := Ground.data }], guard := none }) rfl (fun K hK => ?_) AllReadyH.nil
        go_simp
        with_reducible refine (cR _ _ k2.out.qr).mono ?_
        rintro e wC ⟨u4, rfl, hO3, hb3⟩
        obtain ⟨u4a, u4c, rfl, -⟩ := hO3.form
        have k2b := k2.out.kept hb3
        have L3 := k2.out.own hO3
        have x3 := EY k2b
        have y3 := Lib.hid (And.intro k2b (And.intro L3 (k2b.putq (r2 := r4) (t2 := t4) L3)))
        clear k2b L3 hO3 hb3 cR
        refine hK.out _ _ x3 (fun hHeldN => ?_)
        clear hK K hHeld
        have hHeld := hHeldN
        clear hHeldN
        try simp only [Act.put, List.setIfInBounds_toArray, List.set_cons_zero, List.set_cons_succ]
        refine wpAnyH_ready (rs := [20]) (by kernel_rfl) (by simp) ?_
        refine AllReadyH.cons (o := { dst := none, op := Op.store 28 (Operand.tmp 6) (Operand.tmp 76), type := 0, pos := "laws.go:439", after := #[{ on := 19, ground := Ground.data }, { on := 19, ground := Ground.chain }, { on := 0, ground := Ground.phase }, { on := 1, ground := Ground.phase }, { on := 2, ground := Ground.phase }, { on := 3, ground := Ground.phase }, { on := 4, ground := Ground.phase }, { on := 5, ground := Ground.phase }, { on := 6, ground := Ground.phase }, { on := 7, ground := Ground.phase }, { on := 8, ground := Ground.phase }, { on := 9, ground := Ground.phase }, { on := 10, ground := Ground.phase }, { on := 11, ground := Ground.phase }, { on := 12, ground := Ground.phase }, { on := 13, ground := Ground.phase }, { on := 14, ground := Ground.phase }, { on := 15, ground := Ground.phase }, { on := 16, ground := Ground.phase }, { on := 17, ground := Ground.phase }, { on := 18, ground := Ground.phase }, { on := 19, ground := Ground.phase }], guard := none }) rfl (fun K hK => ?_) AllReadyH.nil
        obtain ⟨a0, a1, a2⟩ := cel3' y3.out.1.q
        have j0 := y3.out.1.q.frozen 0
        have j1 := y3.out.1.q.frozen 1
        have j2 := y3.out.1.q.frozen 2
        go_simp
        clear a0 a1 a2 j0 j1 j2
        have k3 := Lib.hid y3.out.2.2
        clear y3
        have z3 := EY k3.out
        refine hK.out _ _ z3 (fun hHeldN => ?_)
        clear hK K hHeld
        have hHeld := hHeldN
        clear hHeldN
        try simp only [Act.put, List.setIfInBounds_toArray, List.set_cons_zero, List.set_cons_succ]
        refine wpAnyH_done (by kernel_rfl) ?_ _
        clear hHeld
        clear z3
        obtain ⟨a0, a1, a2⟩ := cel3' k3.out.p
        go_wp2_with (fail)
        with_reducible refine (cO _ _ k3.out.pr.rd).mono ?_
        rintro e wD ⟨rfl, hb4⟩
        have k4 := Lib.hid (k3.out.kept hb4)
        clear k3 hb4 a0 a1 a2 cO
        obtain ⟨a0, a1, a2⟩ := cel3' k4.out.p
        go_wp2_with (fail)
        with_reducible refine (cH _ _ k4.out.pr.rd).mono ?_
        rintro e wE ⟨rfl, hb5⟩
        have k5 := Lib.hid (k4.out.kept hb5)
        clear k4 hb5 a0 a1 a2 cH
        go_wp2_with (fail)
        go_roundw
        case rel => exact ⟨i + 1, r2, r4, t2, t4, _, _, _, _, m2, m4, by omega, by go_num, HY.out, k5.out⟩
        case measure => simp [intOf]; omega
      · obtain rfl : i = xs.length := by omega
        obtain ⟨f1, f2⟩ := hY.fin hW
        injection f1 with f1 f3 f4
        injection f2 with f2 f5 f6
        subst f1 f2 f4 f6
        obtain rfl : t' = t := f5.trans f3.symm
        obtain rfl : s = t' := f3.symm
        have q1 : ¬ (xs.length : Int) < (xs.length : Int) := by omega
        simp only [List.length_nil] at K
        have hsz : s.size + sumP [] ≤ 4194304 := by simp only [sumP]; omega
        have hzz : sumP [] = 0 := rfl
        have cT := fun u W h => impl_takeReady 0 s u [] (s.size : Int) W h hsz (Nat.zero_le _)
        simp only [take_all s hs60] at cT
        have cN := fun u W => impl_nextOf 0 s u W
        rw [show IntKind.i64.wrap (0 + (s.size : Int)) = (s.size : Int) by rw [Int.zero_add]; exact IntWalk.i64_in _ (by omega)] at cN
        have cM := fun u W => impl_nextOf (s.size : Int) ⟨#[]⟩ u W
        rw [show IntKind.i64.wrap ((s.size : Int) + ((ByteArray.mk #[]).size : Int)) = (s.size : Int) by rw [show ((ByteArray.mk #[]).size : Int) = 0 from rfl, Int.add_zero]; exact IntWalk.i64_in _ (by omega)] at cM
        have cH := fun u W h => impl_heldOf (s.size : Int) ⟨#[]⟩ u [] W h (by show 0 ≤ 4194304; omega) (Nat.zero_le _)
        rw [show (((ByteArray.mk #[]).size + sumP [] : Nat) : Int) = 0 from rfl] at cH
        have HK := Lib.hid K
        obtain ⟨a0, a1, a2⟩ := cel3' K.p
        clear K hY hW hsz hzz hk hi hform hx60
        go_wp2_with (fail)
        with_reducible refine (cT _ _ HK.out.pr.rd).mono ?_
        rintro e wA ⟨u, rfl, hO1, hb1⟩
        obtain ⟨ua, uc, rfl, -⟩ := hO1.form
        have hbn := below_new wA (.cells #[.int .i64 (s.size : Int), .string ⟨#[]⟩, .slice ua ([] : List Pc).length uc] 28)
        have hC := Cel.new wA 28 #[.int .i64 (s.size : Int), .string ⟨#[]⟩, .slice ua ([] : List Pc).length uc]
        have K2 := (HK.out.kept hb1).kept hbn
        have hO2 := (hO1.keep hbn (Nat.le_refl _)).rd
        simp only [List.length_nil] at hC K2 hO2 hbn
        have H2 := Lib.hid (And.intro K2 (And.intro hC hO2))
        have hbz : gp < wA.heap.size := (HK.out.kept hb1).p.lt
        clear hO1 hb1 hbn hC K2 hO2 HK a0 a1 a2 cT
        go_upto_region 15 with (fail)
        obtain ⟨K2, hC, hO2⟩ := H2.out
        clear H2
        obtain ⟨a0, a1, a2⟩ := cel3' K2.p
        obtain ⟨b0, b1, b2⟩ := cel3' K2.q
        generalize wA.alloc (.cells #[.int .i64 (s.size : Int), .string ⟨#[]⟩, .slice ua 0 uc] 28) = wB at *
        generalize wA.heap.size = h8 at *
        have H2 := Lib.hid (And.intro K2 (And.intro hC hO2))
        clear K2 hC hO2
        go_wp2_with (fail)
        with_reducible refine (cN _ _).mono ?_
        rintro e wC ⟨rfl, hbC⟩
        have H3 := Lib.hid (And.intro (H2.out.1.kept hbC) (And.intro (H2.out.2.1.kept hbC) (RdE.below H2.out.2.2 hbC)))
        clear H2 hbC cN a0 a1 a2 b0 b1 b2
        obtain ⟨a0, a1, a2⟩ := cel3' H3.out.2.1
        go_wp2_with (fail)
        with_reducible refine (cM _ _).mono ?_
        rintro e wD ⟨rfl, hbD⟩
        have H4 := Lib.hid (And.intro (H3.out.1.kept hbD) (And.intro (H3.out.2.1.kept hbD) (RdE.below H3.out.2.2 hbD)))
        clear H3 hbD cM a0 a1 a2
        obtain ⟨a0, a1, a2⟩ := cel3' H4.out.2.1
        go_wp2_with (fail)
        with_reducible refine (cH _ _ H4.out.2.2).mono ?_
        rintro e wE ⟨rfl, hbE⟩
        have H5 := Lib.hid (H4.out.1.kept hbE)
        clear H4 hbE cH a0 a1 a2
        obtain ⟨a0, a1, a2⟩ := cel3' H5.out.p
        go_wp2_with (fail)
        go_ret
        exact ⟨rfl, H5.out.b⟩
end Go.Proofs.Ytkpajakangaekaa
