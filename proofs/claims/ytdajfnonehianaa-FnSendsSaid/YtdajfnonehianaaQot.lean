import Derived.Test.YtdajfnonehianaaQos
namespace Go.Proofs.Ytdajfnonehianaa
open Go.RowKit

set_option maxRecDepth 100000 in
set_option maxHeartbeats 4000000 in
theorem spec_accept (o : Ot) (x : ByteArray) (w : World) (hs : o.text.size ≤ 100000000000) (hx : x.size ≤ 100000000000) :
    Calls Try.prog 28 #[.agg #[.string o.text, .int .i64 o.base, .int .i64 o.sent, .int .i64 o.room], .string x] w fun e w' => e = .returned (.tuple #[.agg #[.string (acc o x).1.text, .int .i64 (acc o x).1.base, .int .i64 (acc o x).1.sent, .int .i64 (acc o x).1.room], .int .i64 (acc o x).2]) ∧ Below w.heap.size w w' := by
  obtain ⟨t, b, s, r⟩ := o
  simp only at hs
  have HX := Lib.hid (Bx.new w (.string t) (.int .i64 b) (.int .i64 s) (.int .i64 r))
  have cO := fun W => spec_outOk ⟨t, b, s, r⟩ W (by simp only; omega)
  simp only at cO
  unfold acc accN
  by_cases hok : Ot.Ok (Ot.mk t b s r)
  · rw [decide_eq_true hok] at cO
    have hok' := hok
    unfold Ot.Ok at hok'
    simp only at hok' ⊢
    have e1 : IntKind.i64.wrap (r - (t.size : Int)) = r - (t.size : Int) := IntWalk.i64_in _ (by omega)
    have e4 : IntKind.i64.wrap (1000000000 - (t.size : Int)) = 1000000000 - (t.size : Int) := IntWalk.i64_in _ (by omega)
    obtain ⟨n, hn⟩ : ∃ n, min (x.size : Int) (r - (t.size : Int)) = n := ⟨_, rfl⟩
    have hn0 : 0 ≤ n ∧ n ≤ (x.size : Int) ∧ n ≤ 200 := by omega
    have e5 : IntKind.i64.wrap (1000000000 - (t.size : Int) - n) = 1000000000 - (t.size : Int) - n := IntWalk.i64_in _ (by omega)
    have hsl := cut_to x n hn0.1 hn0.2.1
    have hsz : ((x.extract 0 n.toNat).size : Int) = n := by simp only [ByteArray.size_extract]; omega
    rw [hn]
    obtain ⟨y, hy⟩ : ∃ y, x.extract 0 n.toNat = y := ⟨_, rfl⟩
    rw [hy] at hsl hsz ⊢
    have hcat : t.size + y.size ≤ 9223372036854775807 := by omega
    obtain ⟨rr, hrr⟩ : ∃ rr, r - (t.size : Int) = rr := ⟨_, rfl⟩
    obtain ⟨lim, hlim⟩ : ∃ lim, 1000000000 - (t.size : Int) - n = lim := ⟨_, rfl⟩
    have e1' : IntKind.i64.wrap (r - (t.size : Int)) = rr := e1.trans hrr
    have e5' : IntKind.i64.wrap (1000000000 - (t.size : Int) - n) = lim := e5.trans hlim
    have hgt : (x.size : Int) < rr → n = (x.size : Int) := by omega
    have hle : ¬ (x.size : Int) < rr → n = rr := by omega
    by_cases hm : b + (t.size : Int) + n ≤ 1000000000
    · rw [if_pos ⟨hok, hm⟩]
      have q1 : ¬ lim < b := by omega
      clear hok hok' hm hs hx hy hsz e1 hn e5 hn0 hlim hrr
      by_cases hc : (x.size : Int) < rr
      · obtain rfl := hgt hc
        clear hgt hle
        go_enter Try.func28, Try.ntmps28
        go_upto_region 1 with (fail)
        generalize (w.alloc _).alloc _ = w0 at *
        obtain ⟨a0, a1, a2, a3⟩ := HX.out.all
        go_wp2_with (fail)
        with_reducible refine (cO _).mono ?_
        rintro e w1 ⟨rfl, hb_w1⟩
        have H1 := Lib.hid (HX.out.kept hb_w1)
        clear hb_w1 HX
        clear a0 a1 a2 a3
        obtain ⟨a0, a1, a2, a3⟩ := H1.out.all
        go_upto_region 8 with (fail)
        have k7 := H1
        have e0 : w1.drew.cell? ⟨w.heap.size, 1, none⟩ = some (.int .i64 b) ∧ w1.drew.cell? ⟨w.heap.size, 2, none⟩ = some (.int .i64 s) ∧ w1.drew.cell? ⟨w.heap.size, 3, none⟩ = some (.int .i64 r) := ⟨a1, a2, a3⟩
        refine wp_region_held_drew (S := fun W => W.cell? ⟨w.heap.size, 1, none⟩ = some (.int .i64 b) ∧ W.cell? ⟨w.heap.size, 2, none⟩ = some (.int .i64 s) ∧ W.cell? ⟨w.heap.size, 3, none⟩ = some (.int .i64 r)) (by kernel_rfl) e0 (fun hHeld => ?_)
        refine take_yes (i := 0) (oi := { dst := some 33, op := Op.fieldAddr 33 (Operand.tmp 2) 0, type := 0, pos := "l10_sends.go:20", after := #[], guard := none }) (v := .pointer (some ⟨w.heap.size, 0, none⟩)) rfl (by kernel_rfl) (by kernel_rfl) (by kernel_rfl) (fun _ _ _ h => h) (by rfl) (fun w hSw => by (try dsimp only at hSw); go_simp) (by assumption) ?_
        try simp only [Act.put, List.setIfInBounds_toArray, List.set_cons_zero, List.set_cons_succ]
        refine take_yes (i := 2) (oi := { dst := some 35, op := Op.move (Operand.tmp 1), type := 9, pos := "l10_sends.go:20", after := #[], guard := none }) (v := .string x) rfl (by kernel_rfl) (by kernel_rfl) (by kernel_rfl) (fun _ _ _ h => h) (by rfl) (fun w hSw => by (try dsimp only at hSw); go_simp) (by assumption) ?_
        try simp only [Act.put, List.setIfInBounds_toArray, List.set_cons_zero, List.set_cons_succ]
        refine take_yes (i := 3) (oi := { dst := some 36, op := Op.move (Operand.tmp 6), type := 3, pos := "l10_sends.go:20", after := #[], guard := none }) (v := .int .i64 (x.size : Int)) rfl (by kernel_rfl) (by kernel_rfl) (by kernel_rfl) (fun _ _ _ h => h) (by rfl) (fun w hSw => by (try dsimp only at hSw); go_simp) (by assumption) ?_
        try simp only [Act.put, List.setIfInBounds_toArray, List.set_cons_zero, List.set_cons_succ]
        refine take_yes (i := 4) (oi := { dst := some 37, op := Op.slice 9 (Operand.tmp 35) none (some (Operand.tmp 36)) none, type := 9, pos := "l10_sends.go:20", after := #[{ on := 2, ground := Ground.data }, { on := 3, ground := Ground.data }], guard := none }) (v := .string y) rfl (by kernel_rfl) (by kernel_rfl) (by kernel_rfl) (fun _ _ _ h => h) (by rfl) (fun w hSw => by (try dsimp only at hSw); go_simp) (by assumption) ?_
        try simp only [Act.put, List.setIfInBounds_toArray, List.set_cons_zero, List.set_cons_succ]
        refine wpAnyH_ready (rs := [1]) (by kernel_rfl) (by simp) ?_
        refine AllReadyH.cons (o := { dst := some 34, op := Op.load 9 (Operand.tmp 33), type := 9, pos := "l10_sends.go:20", after := #[{ on := 0, ground := Ground.data }], guard := none }) rfl (fun K hK => ?_) AllReadyH.nil
        go_simp
        refine hK.out _ _ hHeld (fun hHeldN => ?_)
        clear hK K hHeld
        have hHeld := hHeldN
        clear hHeldN
        try simp only [Act.put, List.setIfInBounds_toArray, List.set_cons_zero, List.set_cons_succ]
        refine take_yes (i := 5) (oi := { dst := some 38, op := Op.binOp BinOp.add 9 (Operand.tmp 34) (Operand.tmp 37) 9, type := 9, pos := "l10_sends.go:20", after := #[{ on := 1, ground := Ground.data }, { on := 4, ground := Ground.data }], guard := none }) (v := .string (t ++ y)) rfl (by kernel_rfl) (by kernel_rfl) (by kernel_rfl) (fun _ _ _ h => h) (by rfl) (fun w hSw => by (try dsimp only at hSw); go_simp) (by assumption) ?_
        try simp only [Act.put, List.setIfInBounds_toArray, List.set_cons_zero, List.set_cons_succ]
        refine take_yes (i := 6) (oi := { dst := some 39, op := Op.fieldAddr 33 (Operand.tmp 2) 0, type := 0, pos := "l10_sends.go:20", after := #[{ on := 0, ground := Ground.phase }, { on := 1, ground := Ground.phase }, { on := 2, ground := Ground.phase }, { on := 3, ground := Ground.phase }, { on := 4, ground := Ground.phase }, { on := 5, ground := Ground.phase }], guard := none }) (v := .pointer (some ⟨w.heap.size, 0, none⟩)) rfl (by kernel_rfl) (by kernel_rfl) (by kernel_rfl) (fun _ _ _ h => h) (by rfl) (fun w hSw => by (try dsimp only at hSw); go_simp) (by assumption) ?_
        try simp only [Act.put, List.setIfInBounds_toArray, List.set_cons_zero, List.set_cons_succ]
        refine wpAnyH_ready (rs := [7]) (by kernel_rfl) (by simp) ?_
        refine AllReadyH.cons (o := { dst := none, op := Op.store 9 (Operand.tmp 39) (Operand.tmp 38), type := 0, pos := "l10_sends.go:20", after := #[{ on := 6, ground := Ground.data }, { on := 5, ground := Ground.data }, { on := 0, ground := Ground.phase }, { on := 1, ground := Ground.phase }, { on := 2, ground := Ground.phase }, { on := 3, ground := Ground.phase }, { on := 4, ground := Ground.phase }, { on := 5, ground := Ground.phase }], guard := none }) rfl (fun K hK => ?_) AllReadyH.nil
        have f0 := (k7.out.drew.fr 0).1
        go_simp
        have h8 := k7.out.set 0 (.string (t ++ y))
        simp only [if_true, if_false, Nat.reduceEqDiff] at h8
        have e8 := h8.drew.all
        have K8 := Lib.hid h8.drew
        clear h8
        refine hK.out _ _ e8.2 (fun hHeldN => ?_)
        clear hK K hHeld
        have hHeld := hHeldN
        clear hHeldN
        try simp only [Act.put, List.setIfInBounds_toArray, List.set_cons_zero, List.set_cons_succ]
        refine wpAnyH_done (by kernel_rfl) ?_ _
        clear hHeld
        clear a0 a1 a2 a3 f0 e0 e8 k7 H1
        generalize (w1.setCell ⟨w.heap.size, 0, none⟩ (.string (t ++ y))).drew = w8 at *
        obtain ⟨a0, a1, a2, a3⟩ := K8.out.all
        obtain ⟨r0, r1, r2, r3, b0, b1, b2, b3⟩ := K8.out.rs
        have f0 := (K8.out.fr 0).2
        have f1 := (K8.out.fr 1).2
        have f2 := (K8.out.fr 2).2
        have f3 := (K8.out.fr 3).2
        have HG := Lib.hid (K8.out.give (.string (t ++ y)) (.int .i64 b) (.int .i64 s) (.int .i64 r))
        clear K8
        go_wp2_with (fail)
        exact bodyPost_ret (out_result2 HG.out.1 rfl _ rfl) rfl ⟨rfl, HG.out.2⟩
      · obtain rfl := hle hc
        clear hgt hle
        go_enter Try.func28, Try.ntmps28
        go_upto_region 1 with (fail)
        generalize (w.alloc _).alloc _ = w0 at *
        obtain ⟨a0, a1, a2, a3⟩ := HX.out.all
        go_wp2_with (fail)
        with_reducible refine (cO _).mono ?_
        rintro e w1 ⟨rfl, hb_w1⟩
        have H1 := Lib.hid (HX.out.kept hb_w1)
        clear hb_w1 HX
        clear a0 a1 a2 a3
        obtain ⟨a0, a1, a2, a3⟩ := H1.out.all
        go_upto_region 8 with (fail)
        have k7 := H1
        have e0 : w1.drew.cell? ⟨w.heap.size, 1, none⟩ = some (.int .i64 b) ∧ w1.drew.cell? ⟨w.heap.size, 2, none⟩ = some (.int .i64 s) ∧ w1.drew.cell? ⟨w.heap.size, 3, none⟩ = some (.int .i64 r) := ⟨a1, a2, a3⟩
        refine wp_region_held_drew (S := fun W => W.cell? ⟨w.heap.size, 1, none⟩ = some (.int .i64 b) ∧ W.cell? ⟨w.heap.size, 2, none⟩ = some (.int .i64 s) ∧ W.cell? ⟨w.heap.size, 3, none⟩ = some (.int .i64 r)) (by kernel_rfl) e0 (fun hHeld => ?_)
        refine take_yes (i := 0) (oi := { dst := some 33, op := Op.fieldAddr 33 (Operand.tmp 2) 0, type := 0, pos := "l10_sends.go:20", after := #[], guard := none }) (v := .pointer (some ⟨w.heap.size, 0, none⟩)) rfl (by kernel_rfl) (by kernel_rfl) (by kernel_rfl) (fun _ _ _ h => h) (by rfl) (fun w hSw => by (try dsimp only at hSw); go_simp) (by assumption) ?_
        try simp only [Act.put, List.setIfInBounds_toArray, List.set_cons_zero, List.set_cons_succ]
        refine take_yes (i := 2) (oi := { dst := some 35, op := Op.move (Operand.tmp 1), type := 9, pos := "l10_sends.go:20", after := #[], guard := none }) (v := .string x) rfl (by kernel_rfl) (by kernel_rfl) (by kernel_rfl) (fun _ _ _ h => h) (by rfl) (fun w hSw => by (try dsimp only at hSw); go_simp) (by assumption) ?_
        try simp only [Act.put, List.setIfInBounds_toArray, List.set_cons_zero, List.set_cons_succ]
        refine take_yes (i := 3) (oi := { dst := some 36, op := Op.move (Operand.tmp 6), type := 3, pos := "l10_sends.go:20", after := #[], guard := none }) (v := .int .i64 n) rfl (by kernel_rfl) (by kernel_rfl) (by kernel_rfl) (fun _ _ _ h => h) (by rfl) (fun w hSw => by (try dsimp only at hSw); go_simp) (by assumption) ?_
        try simp only [Act.put, List.setIfInBounds_toArray, List.set_cons_zero, List.set_cons_succ]
        refine take_yes (i := 4) (oi := { dst := some 37, op := Op.slice 9 (Operand.tmp 35) none (some (Operand.tmp 36)) none, type := 9, pos := "l10_sends.go:20", after := #[{ on := 2, ground := Ground.data }, { on := 3, ground := Ground.data }], guard := none }) (v := .string y) rfl (by kernel_rfl) (by kernel_rfl) (by kernel_rfl) (fun _ _ _ h => h) (by rfl) (fun w hSw => by (try dsimp only at hSw); go_simp) (by assumption) ?_
        try simp only [Act.put, List.setIfInBounds_toArray, List.set_cons_zero, List.set_cons_succ]
        refine wpAnyH_ready (rs := [1]) (by kernel_rfl) (by simp) ?_
        refine AllReadyH.cons (o := { dst := some 34, op := Op.load 9 (Operand.tmp 33), type := 9, pos := "l10_sends.go:20", after := #[{ on := 0, ground := Ground.data }], guard := none }) rfl (fun K hK => ?_) AllReadyH.nil
        go_simp
        refine hK.out _ _ hHeld (fun hHeldN => ?_)
        clear hK K hHeld
        have hHeld := hHeldN
        clear hHeldN
        try simp only [Act.put, List.setIfInBounds_toArray, List.set_cons_zero, List.set_cons_succ]
        refine take_yes (i := 5) (oi := { dst := some 38, op := Op.binOp BinOp.add 9 (Operand.tmp 34) (Operand.tmp 37) 9, type := 9, pos := "l10_sends.go:20", after := #[{ on := 1, ground := Ground.data }, { on := 4, ground := Ground.data }], guard := none }) (v := .string (t ++ y)) rfl (by kernel_rfl) (by kernel_rfl) (by kernel_rfl) (fun _ _ _ h => h) (by rfl) (fun w hSw => by (try dsimp only at hSw); go_simp) (by assumption) ?_
        try simp only [Act.put, List.setIfInBounds_toArray, List.set_cons_zero, List.set_cons_succ]
        refine take_yes (i := 6) (oi := { dst := some 39, op := Op.fieldAddr 33 (Operand.tmp 2) 0, type := 0, pos := "l10_sends.go:20", after := #[{ on := 0, ground := Ground.phase }, { on := 1, ground := Ground.phase }, { on := 2, ground := Ground.phase }, { on := 3, ground := Ground.phase }, { on := 4, ground := Ground.phase }, { on := 5, ground := Ground.phase }], guard := none }) (v := .pointer (some ⟨w.heap.size, 0, none⟩)) rfl (by kernel_rfl) (by kernel_rfl) (by kernel_rfl) (fun _ _ _ h => h) (by rfl) (fun w hSw => by (try dsimp only at hSw); go_simp) (by assumption) ?_
        try simp only [Act.put, List.setIfInBounds_toArray, List.set_cons_zero, List.set_cons_succ]
        refine wpAnyH_ready (rs := [7]) (by kernel_rfl) (by simp) ?_
        refine AllReadyH.cons (o := { dst := none, op := Op.store 9 (Operand.tmp 39) (Operand.tmp 38), type := 0, pos := "l10_sends.go:20", after := #[{ on := 6, ground := Ground.data }, { on := 5, ground := Ground.data }, { on := 0, ground := Ground.phase }, { on := 1, ground := Ground.phase }, { on := 2, ground := Ground.phase }, { on := 3, ground := Ground.phase }, { on := 4, ground := Ground.phase }, { on := 5, ground := Ground.phase }], guard := none }) rfl (fun K hK => ?_) AllReadyH.nil
        have f0 := (k7.out.drew.fr 0).1
        go_simp
        have h8 := k7.out.set 0 (.string (t ++ y))
        simp only [if_true, if_false, Nat.reduceEqDiff] at h8
        have e8 := h8.drew.all
        have K8 := Lib.hid h8.drew
        clear h8
        refine hK.out _ _ e8.2 (fun hHeldN => ?_)
        clear hK K hHeld
        have hHeld := hHeldN
        clear hHeldN
        try simp only [Act.put, List.setIfInBounds_toArray, List.set_cons_zero, List.set_cons_succ]
        refine wpAnyH_done (by kernel_rfl) ?_ _
        clear hHeld
        clear a0 a1 a2 a3 f0 e0 e8 k7 H1
        generalize (w1.setCell ⟨w.heap.size, 0, none⟩ (.string (t ++ y))).drew = w8 at *
        obtain ⟨a0, a1, a2, a3⟩ := K8.out.all
        obtain ⟨r0, r1, r2, r3, b0, b1, b2, b3⟩ := K8.out.rs
        have f0 := (K8.out.fr 0).2
        have f1 := (K8.out.fr 1).2
        have f2 := (K8.out.fr 2).2
        have f3 := (K8.out.fr 3).2
        have HG := Lib.hid (K8.out.give (.string (t ++ y)) (.int .i64 b) (.int .i64 s) (.int .i64 r))
        clear K8
        go_wp2_with (fail)
        exact bodyPost_ret (out_result2 HG.out.1 rfl _ rfl) rfl ⟨rfl, HG.out.2⟩
    · rw [if_neg (fun h => hm h.2)]
      have q1 : lim < b := by omega
      clear hok hok' hm hs hx hy hsz e1 hn e5 hn0 hsl hcat hlim hrr
      by_cases hc : (x.size : Int) < rr
      · obtain rfl := hgt hc
        clear hgt hle
        go_enter Try.func28, Try.ntmps28
        go_upto_region 1 with (fail)
        generalize (w.alloc _).alloc _ = w0 at *
        obtain ⟨a0, a1, a2, a3⟩ := HX.out.all
        go_wp2_with (fail)
        with_reducible refine (cO _).mono ?_
        rintro e w1 ⟨rfl, hb_w1⟩
        have H1 := Lib.hid (HX.out.kept hb_w1)
        clear hb_w1 HX
        clear a0 a1 a2 a3
        obtain ⟨a0, a1, a2, a3⟩ := H1.out.all
        go_upto_region 7 with (fail)
        clear a0 a1 a2 a3
        obtain ⟨a0, a1, a2, a3⟩ := H1.out.all
        obtain ⟨r0, r1, r2, r3, b0, b1, b2, b3⟩ := H1.out.rs
        have f0 := (H1.out.fr 0).2
        have f1 := (H1.out.fr 1).2
        have f2 := (H1.out.fr 2).2
        have f3 := (H1.out.fr 3).2
        have HG := Lib.hid (H1.out.give (.string t) (.int .i64 b) (.int .i64 s) (.int .i64 r))
        clear H1
        go_wp2_with (fail)
        exact bodyPost_ret (out_result2 HG.out.1 rfl _ rfl) rfl ⟨rfl, HG.out.2⟩
      · obtain rfl := hle hc
        clear hgt hle
        go_enter Try.func28, Try.ntmps28
        go_upto_region 1 with (fail)
        generalize (w.alloc _).alloc _ = w0 at *
        obtain ⟨a0, a1, a2, a3⟩ := HX.out.all
        go_wp2_with (fail)
        with_reducible refine (cO _).mono ?_
        rintro e w1 ⟨rfl, hb_w1⟩
        have H1 := Lib.hid (HX.out.kept hb_w1)
        clear hb_w1 HX
        clear a0 a1 a2 a3
        obtain ⟨a0, a1, a2, a3⟩ := H1.out.all
        go_upto_region 7 with (fail)
        clear a0 a1 a2 a3
        obtain ⟨a0, a1, a2, a3⟩ := H1.out.all
        obtain ⟨r0, r1, r2, r3, b0, b1, b2, b3⟩ := H1.out.rs
        have f0 := (H1.out.fr 0).2
        have f1 := (H1.out.fr 1).2
        have f2 := (H1.out.fr 2).2
        have f3 := (H1.out.fr 3).2
        have HG := Lib.hid (H1.out.give (.string t) (.int .i64 b) (.int .i64 s) (.int .i64 r))
        clear H1
        go_wp2_with (fail)
        exact bodyPost_ret (out_result2 HG.out.1 rfl _ rfl) rfl ⟨rfl, HG.out.2⟩
  · rw [decide_eq_false hok] at cO
    rw [if_neg (fun h => hok h.1)]
    clear hok hs hx
    go_enter Try.func28, Try.ntmps28
    go_upto_region 1 with (fail)
    generalize (w.alloc _).alloc _ = w0 at *
    obtain ⟨a0, a1, a2, a3⟩ := HX.out.all
    go_wp2_with (fail)
    with_reducible refine (cO _).mono ?_
    rintro e w1 ⟨rfl, hb_w1⟩
    have H1 := Lib.hid (HX.out.kept hb_w1)
    clear hb_w1 HX
    clear a0 a1 a2 a3
    obtain ⟨a0, a1, a2, a3⟩ := H1.out.all
    clear a0 a1 a2 a3
    obtain ⟨a0, a1, a2, a3⟩ := H1.out.all
    obtain ⟨r0, r1, r2, r3, b0, b1, b2, b3⟩ := H1.out.rs
    have f0 := (H1.out.fr 0).2
    have f1 := (H1.out.fr 1).2
    have f2 := (H1.out.fr 2).2
    have f3 := (H1.out.fr 3).2
    have HG := Lib.hid (H1.out.give (.string t) (.int .i64 b) (.int .i64 s) (.int .i64 r))
    clear H1
    go_wp2_with (fail)
    exact bodyPost_ret (out_result2 HG.out.1 rfl _ rfl) rfl ⟨rfl, HG.out.2⟩

set_option maxRecDepth 100000 in
set_option maxHeartbeats 4000000 in
theorem spec_anew (o : Ot) (w : World) (hs : o.text.size ≤ 100000000000) :
    Calls Try.prog 34 #[.agg #[.string o.text, .int .i64 o.base, .int .i64 o.sent, .int .i64 o.room]] w fun e w' => e = .returned (.agg #[.string (anw o).text, .int .i64 (anw o).base, .int .i64 (anw o).sent, .int .i64 (anw o).room]) ∧ Below w.heap.size w w' := by
  obtain ⟨t, b, s, r⟩ := o
  simp only at hs
  have HX := Lib.hid (Bx.new w (.string t) (.int .i64 b) (.int .i64 s) (.int .i64 r))
  have cO := fun W => spec_outOk ⟨t, b, s, r⟩ W (by simp only; omega)
  simp only at cO
  unfold anw
  by_cases hok : Ot.Ok (Ot.mk t b s r)
  · rw [decide_eq_true hok] at cO
    rw [if_pos hok]
    simp only
    clear hok hs
    go_enter Try.func34, Try.ntmps34
    go_upto_region 1 with (fail)
    generalize (w.alloc _).alloc _ = w0 at *
    obtain ⟨a0, a1, a2, a3⟩ := HX.out.all
    go_wp2_with (fail)
    with_reducible refine (cO _).mono ?_
    rintro e w1 ⟨rfl, hb_w1⟩
    have H1 := Lib.hid (HX.out.kept hb_w1)
    clear hb_w1 HX
    clear a0 a1 a2 a3
    obtain ⟨a0, a1, a2, a3⟩ := H1.out.all
    have fz := (H1.out.fr 2).1
    have hset := H1.out.set 2 (.int .i64 b)
    simp only [if_true, if_false, Nat.reduceEqDiff] at hset
    have H2 := Lib.hid hset
    clear H1 hset
    go_upto_region 3 with (fail)
    clear fz a0 a1 a2 a3
    generalize w1.setCell ⟨w.heap.size, 2, none⟩ (.int .i64 b) = w2 at *
    obtain ⟨a0, a1, a2, a3⟩ := H2.out.all
    clear a0 a1 a2 a3
    obtain ⟨a0, a1, a2, a3⟩ := H2.out.all
    obtain ⟨r0, r1, r2, r3, b0, b1, b2, b3⟩ := H2.out.rs
    have f0 := (H2.out.fr 0).2
    have f1 := (H2.out.fr 1).2
    have f2 := (H2.out.fr 2).2
    have f3 := (H2.out.fr 3).2
    have HG := Lib.hid (H2.out.give (.string t) (.int .i64 b) (.int .i64 b) (.int .i64 r))
    clear H2
    go_wp2_with (fail)
    exact bodyPost_ret (out_result HG.out.1 rfl _ rfl) rfl ⟨rfl, HG.out.2⟩
  · rw [decide_eq_false hok] at cO
    rw [if_neg hok]
    clear hok hs
    go_enter Try.func34, Try.ntmps34
    go_upto_region 1 with (fail)
    generalize (w.alloc _).alloc _ = w0 at *
    obtain ⟨a0, a1, a2, a3⟩ := HX.out.all
    go_wp2_with (fail)
    with_reducible refine (cO _).mono ?_
    rintro e w1 ⟨rfl, hb_w1⟩
    have H1 := Lib.hid (HX.out.kept hb_w1)
    clear hb_w1 HX
    clear a0 a1 a2 a3
    obtain ⟨a0, a1, a2, a3⟩ := H1.out.all
    clear a0 a1 a2 a3
    obtain ⟨a0, a1, a2, a3⟩ := H1.out.all
    obtain ⟨r0, r1, r2, r3, b0, b1, b2, b3⟩ := H1.out.rs
    have f0 := (H1.out.fr 0).2
    have f1 := (H1.out.fr 1).2
    have f2 := (H1.out.fr 2).2
    have f3 := (H1.out.fr 3).2
    have HG := Lib.hid (H1.out.give (.string t) (.int .i64 b) (.int .i64 s) (.int .i64 r))
    clear H1
    go_wp2_with (fail)
    exact bodyPost_ret (out_result HG.out.1 rfl _ rfl) rfl ⟨rfl, HG.out.2⟩

set_option maxRecDepth 100000 in
set_option maxHeartbeats 4000000 in
theorem spec_came (o : Ot) (u : Int) (w : World) (hs : o.text.size ≤ 100000000000) :
    Calls Try.prog 33 #[.agg #[.string o.text, .int .i64 o.base, .int .i64 o.sent, .int .i64 o.room], .int .i64 u] w fun e w' => e = .returned (.agg #[.string (came o u).text, .int .i64 (came o u).base, .int .i64 (came o u).sent, .int .i64 (came o u).room]) ∧ Below w.heap.size w w' := by
  obtain ⟨t, b, s, r⟩ := o
  simp only at hs
  have HX := Lib.hid (Bx.new w (.string t) (.int .i64 b) (.int .i64 s) (.int .i64 r))
  have cO := fun W => spec_outOk ⟨t, b, s, r⟩ W (by simp only; omega)
  simp only at cO
  unfold came
  by_cases hok : Ot.Ok (Ot.mk t b s r)
  · rw [decide_eq_true hok] at cO
    have hok' := hok
    unfold Ot.Ok at hok'
    simp only at hok' ⊢
    obtain ⟨en, hen⟩ : ∃ en, b + (t.size : Int) = en := ⟨_, rfl⟩
    have e2 : IntKind.i64.wrap (b + (t.size : Int)) = en := by rw [IntWalk.i64_in _ (by omega)]; exact hen
    rw [hen]
    by_cases hm : b + 1 ≤ u ∧ u ≤ en
    · rw [if_pos ⟨hok, hm⟩]
      have q1 : ¬ u ≤ b := by omega
      have q2 : ¬ en < u := by omega
      have hsl := cut_from t (u - b) (by omega) (by omega)
      obtain ⟨y, hy⟩ : ∃ y, t.extract (u - b).toNat t.size = y := ⟨_, rfl⟩
      rw [hy] at hsl ⊢
      obtain ⟨d, hd⟩ : ∃ d, u - b = d := ⟨_, rfl⟩
      have e4 : IntKind.i64.wrap (u - b) = d := by rw [IntWalk.i64_in _ (by omega)]; exact hd
      rw [hd] at hsl
      clear hok hok' hs hen hm hy hd
      by_cases hlt : s < u
      · rw [Int.max_eq_right (by omega)]
        go_enter Try.func33, Try.ntmps33
        go_upto_region 1 with (fail)
        generalize (w.alloc _).alloc _ = w0 at *
        obtain ⟨a0, a1, a2, a3⟩ := HX.out.all
        go_wp2_with (fail)
        with_reducible refine (cO _).mono ?_
        rintro e w1 ⟨rfl, hb_w1⟩
        have H1 := Lib.hid (HX.out.kept hb_w1)
        clear hb_w1 HX
        clear a0 a1 a2 a3
        obtain ⟨a0, a1, a2, a3⟩ := H1.out.all
        go_upto_region 3 with (fail)
        have fz := (H1.out.fr 0).1
        have hset := H1.out.set 0 (.string y)
        simp only [if_true, if_false, Nat.reduceEqDiff] at hset
        have H2 := Lib.hid hset
        clear H1 hset
        go_upto_region 4 with (fail)
        clear fz a0 a1 a2 a3
        generalize w1.setCell ⟨w.heap.size, 0, none⟩ (.string y) = w2 at *
        obtain ⟨a0, a1, a2, a3⟩ := H2.out.all
        have fz := (H2.out.fr 1).1
        have hset := H2.out.set 1 (.int .i64 u)
        simp only [if_true, if_false, Nat.reduceEqDiff] at hset
        have H3 := Lib.hid hset
        clear H2 hset
        go_upto_region 5 with (fail)
        clear fz a0 a1 a2 a3
        generalize w2.setCell ⟨w.heap.size, 1, none⟩ (.int .i64 u) = w3 at *
        obtain ⟨a0, a1, a2, a3⟩ := H3.out.all
        go_upto_region 6 with (fail)
        have fz := (H3.out.fr 2).1
        have hset := H3.out.set 2 (.int .i64 u)
        simp only [if_true, if_false, Nat.reduceEqDiff] at hset
        have H4 := Lib.hid hset
        clear H3 hset
        go_upto_region 7 with (fail)
        clear fz a0 a1 a2 a3
        generalize w3.setCell ⟨w.heap.size, 2, none⟩ (.int .i64 u) = w4 at *
        obtain ⟨a0, a1, a2, a3⟩ := H4.out.all
        clear a0 a1 a2 a3
        obtain ⟨a0, a1, a2, a3⟩ := H4.out.all
        obtain ⟨r0, r1, r2, r3, b0, b1, b2, b3⟩ := H4.out.rs
        have f0 := (H4.out.fr 0).2
        have f1 := (H4.out.fr 1).2
        have f2 := (H4.out.fr 2).2
        have f3 := (H4.out.fr 3).2
        have HG := Lib.hid (H4.out.give (.string y) (.int .i64 u) (.int .i64 u) (.int .i64 r))
        clear H4
        go_wp2_with (fail)
        exact bodyPost_ret (out_result HG.out.1 rfl _ rfl) rfl ⟨rfl, HG.out.2⟩
      · rw [Int.max_eq_left (by omega)]
        go_enter Try.func33, Try.ntmps33
        go_upto_region 1 with (fail)
        generalize (w.alloc _).alloc _ = w0 at *
        obtain ⟨a0, a1, a2, a3⟩ := HX.out.all
        go_wp2_with (fail)
        with_reducible refine (cO _).mono ?_
        rintro e w1 ⟨rfl, hb_w1⟩
        have H1 := Lib.hid (HX.out.kept hb_w1)
        clear hb_w1 HX
        clear a0 a1 a2 a3
        obtain ⟨a0, a1, a2, a3⟩ := H1.out.all
        go_upto_region 3 with (fail)
        have fz := (H1.out.fr 0).1
        have hset := H1.out.set 0 (.string y)
        simp only [if_true, if_false, Nat.reduceEqDiff] at hset
        have H2 := Lib.hid hset
        clear H1 hset
        go_upto_region 4 with (fail)
        clear fz a0 a1 a2 a3
        generalize w1.setCell ⟨w.heap.size, 0, none⟩ (.string y) = w2 at *
        obtain ⟨a0, a1, a2, a3⟩ := H2.out.all
        have fz := (H2.out.fr 1).1
        have hset := H2.out.set 1 (.int .i64 u)
        simp only [if_true, if_false, Nat.reduceEqDiff] at hset
        have H3 := Lib.hid hset
        clear H2 hset
        go_upto_region 5 with (fail)
        clear fz a0 a1 a2 a3
        generalize w2.setCell ⟨w.heap.size, 1, none⟩ (.int .i64 u) = w3 at *
        obtain ⟨a0, a1, a2, a3⟩ := H3.out.all
        clear a0 a1 a2 a3
        obtain ⟨a0, a1, a2, a3⟩ := H3.out.all
        obtain ⟨r0, r1, r2, r3, b0, b1, b2, b3⟩ := H3.out.rs
        have f0 := (H3.out.fr 0).2
        have f1 := (H3.out.fr 1).2
        have f2 := (H3.out.fr 2).2
        have f3 := (H3.out.fr 3).2
        have HG := Lib.hid (H3.out.give (.string y) (.int .i64 u) (.int .i64 s) (.int .i64 r))
        clear H3
        go_wp2_with (fail)
        exact bodyPost_ret (out_result HG.out.1 rfl _ rfl) rfl ⟨rfl, HG.out.2⟩
    · rw [if_neg (fun h => hm h.2)]
      clear hok hok' hs hen
      by_cases q1 : u ≤ b
      · clear hm
        go_enter Try.func33, Try.ntmps33
        go_upto_region 1 with (fail)
        generalize (w.alloc _).alloc _ = w0 at *
        obtain ⟨a0, a1, a2, a3⟩ := HX.out.all
        go_wp2_with (fail)
        with_reducible refine (cO _).mono ?_
        rintro e w1 ⟨rfl, hb_w1⟩
        have H1 := Lib.hid (HX.out.kept hb_w1)
        clear hb_w1 HX
        clear a0 a1 a2 a3
        obtain ⟨a0, a1, a2, a3⟩ := H1.out.all
        clear a0 a1 a2 a3
        obtain ⟨a0, a1, a2, a3⟩ := H1.out.all
        obtain ⟨r0, r1, r2, r3, b0, b1, b2, b3⟩ := H1.out.rs
        have f0 := (H1.out.fr 0).2
        have f1 := (H1.out.fr 1).2
        have f2 := (H1.out.fr 2).2
        have f3 := (H1.out.fr 3).2
        have HG := Lib.hid (H1.out.give (.string t) (.int .i64 b) (.int .i64 s) (.int .i64 r))
        clear H1
        go_wp2_with (fail)
        exact bodyPost_ret (out_result HG.out.1 rfl _ rfl) rfl ⟨rfl, HG.out.2⟩
      · have q2 : en < u := by omega
        clear hm
        go_enter Try.func33, Try.ntmps33
        go_upto_region 1 with (fail)
        generalize (w.alloc _).alloc _ = w0 at *
        obtain ⟨a0, a1, a2, a3⟩ := HX.out.all
        go_wp2_with (fail)
        with_reducible refine (cO _).mono ?_
        rintro e w1 ⟨rfl, hb_w1⟩
        have H1 := Lib.hid (HX.out.kept hb_w1)
        clear hb_w1 HX
        clear a0 a1 a2 a3
        obtain ⟨a0, a1, a2, a3⟩ := H1.out.all
        clear a0 a1 a2 a3
        obtain ⟨a0, a1, a2, a3⟩ := H1.out.all
        obtain ⟨r0, r1, r2, r3, b0, b1, b2, b3⟩ := H1.out.rs
        have f0 := (H1.out.fr 0).2
        have f1 := (H1.out.fr 1).2
        have f2 := (H1.out.fr 2).2
        have f3 := (H1.out.fr 3).2
        have HG := Lib.hid (H1.out.give (.string t) (.int .i64 b) (.int .i64 s) (.int .i64 r))
        clear H1
        go_wp2_with (fail)
        exact bodyPost_ret (out_result HG.out.1 rfl _ rfl) rfl ⟨rfl, HG.out.2⟩
  · rw [decide_eq_false hok] at cO
    rw [if_neg (fun h => hok h.1)]
    clear hok hs
    go_enter Try.func33, Try.ntmps33
    go_upto_region 1 with (fail)
    generalize (w.alloc _).alloc _ = w0 at *
    obtain ⟨a0, a1, a2, a3⟩ := HX.out.all
    go_wp2_with (fail)
    with_reducible refine (cO _).mono ?_
    rintro e w1 ⟨rfl, hb_w1⟩
    have H1 := Lib.hid (HX.out.kept hb_w1)
    clear hb_w1 HX
    clear a0 a1 a2 a3
    obtain ⟨a0, a1, a2, a3⟩ := H1.out.all
    clear a0 a1 a2 a3
    obtain ⟨a0, a1, a2, a3⟩ := H1.out.all
    obtain ⟨r0, r1, r2, r3, b0, b1, b2, b3⟩ := H1.out.rs
    have f0 := (H1.out.fr 0).2
    have f1 := (H1.out.fr 1).2
    have f2 := (H1.out.fr 2).2
    have f3 := (H1.out.fr 3).2
    have HG := Lib.hid (H1.out.give (.string t) (.int .i64 b) (.int .i64 s) (.int .i64 r))
    clear H1
    go_wp2_with (fail)
    exact bodyPost_ret (out_result HG.out.1 rfl _ rfl) rfl ⟨rfl, HG.out.2⟩

end Go.Proofs.Ytdajfnonehianaa
