import Derived.Test.YtdajfnonehianaaQoj
namespace Go.Proofs.Ytdajfnonehianaa
open Go.RowKit

/-- The box of a call's own buffer, and the block of the piece that it answers. -/
structure Bp (w W : World) (x y z u : Value) : Prop where
  box : Cel W w.heap.size 33 #[x, y, z, u]
  res : ∃ r0 r1, Cel W (w.heap.size + 1) 41 #[r0, r1]
  below : Below w.heap.size w W
theorem Bp.new (w : World) (x y z u : Value) : Bp w ((w.alloc (.cells #[x, y, z, u] 33)).alloc (.cells #[.int .i64 0, .string ⟨#[]⟩] 41)) x y z u := by
  refine ⟨(Cel.new w 33 #[x, y, z, u]).alloc _, ⟨.int .i64 0, .string ⟨#[]⟩, ?_⟩, ((Below.refl _ _).alloc (Nat.le_refl _) _).alloc (by simp) _⟩
  have := Cel.new (w.alloc (.cells #[x, y, z, u] 33)) 41 #[.int .i64 0, .string ⟨#[]⟩]
  rw [World.size_alloc] at this
  exact this
theorem Bp.kept {w W W' : World} {x y z u : Value} (h : Bp w W x y z u) (hb : Below W.heap.size W W') : Bp w W' x y z u := by
  obtain ⟨r0, r1, hz⟩ := h.res
  exact ⟨h.box.kept hb, ⟨r0, r1, hz.kept hb⟩, Below.then_ h.below hb⟩
theorem Bp.drew {w W : World} {x y z u : Value} (h : Bp w W x y z u) : Bp w W.drew x y z u := ⟨h.box, h.res, h.below.drew⟩
theorem Bp.all {w W : World} {x y z u : Value} (h : Bp w W x y z u) : W.cell? ⟨w.heap.size, 0, none⟩ = some (x) ∧ W.cell? ⟨w.heap.size, 1, none⟩ = some (y) ∧ W.cell? ⟨w.heap.size, 2, none⟩ = some (z) ∧ W.cell? ⟨w.heap.size, 3, none⟩ = some (u) := cel4 h.box
theorem Bp.give {w W : World} {x y z u : Value} (h : Bp w W x y z u) (a b : Value) : Cel ((W.setCell ⟨w.heap.size + 1, 0, none⟩ a).setCell ⟨w.heap.size + 1, 1, none⟩ b) (w.heap.size + 1) 41 #[a, b] ∧ Below w.heap.size w ((W.setCell ⟨w.heap.size + 1, 0, none⟩ a).setCell ⟨w.heap.size + 1, 1, none⟩ b) ∧ Cel ((W.setCell ⟨w.heap.size + 1, 0, none⟩ a).setCell ⟨w.heap.size + 1, 1, none⟩ b) w.heap.size 33 #[x, y, z, u] := by
  obtain ⟨r0, r1, hz⟩ := h.res
  refine ⟨?_, (h.below.setCell (p := ⟨w.heap.size + 1, 0, none⟩) (by simp) a).setCell (p := ⟨w.heap.size + 1, 1, none⟩) (by simp) b, (h.box.other _ _ (by simp)).other _ _ (by simp)⟩
  have := (hz.set 0 a).set 1 b
  simpa using this
theorem Bp.rs {w W : World} {x y z u : Value} (h : Bp w W x y z u) : ∃ r0 r1, W.cell? ⟨w.heap.size + 1, 0, none⟩ = some r0 ∧ W.cell? ⟨w.heap.size + 1, 1, none⟩ = some r1 ∧ W.frozen? ⟨w.heap.size + 1, 0, none⟩ = false ∧ W.frozen? ⟨w.heap.size + 1, 1, none⟩ = false := by
  obtain ⟨r0, r1, hz⟩ := h.res
  exact ⟨r0, r1, (cel2 hz).1, (cel2 hz).2, hz.frozen 0, hz.frozen 1⟩
/-- A piece in a block of its own, and a second result. -/
theorem pc_result2 {W : World} {g : Nat} {x y : Value} (h : Cel W g 41 #[x, y]) {fn : Func} {p u : Tmp} (hr : fn.results = #[.cell p 41, .tmp u]) (tmps : Array Value) (hp : tmps.getD p undef = .pointer (some ⟨g, 0, none⟩)) :
    (results fn tmps).run Try.prog W = .ok (.tuple #[.agg #[x, y], tmps.getD u undef]) W := by
  rw [results_cell_tmp hr, hp]
  simp [asAddr, run_loadVar_row W g 41 41 _ (0, 0) _ h Try.underlying41 rfl (show _ = some 2 by kernel_rfl), Result.andThen]

set_option maxRecDepth 100000 in
set_option maxHeartbeats 4000000 in
theorem impl_next (o : Ot) (w : World) (hs : o.text.size ≤ 100000000000) :
    Calls Try.prog 22 #[.agg #[.string o.text, .int .i64 o.base, .int .i64 o.sent, .int .i64 o.room]] w fun e w' => e = .returned (.tuple #[.agg #[.int .i64 (nxt o).1.pos, .string (nxt o).1.text], .bool (nxt o).2]) ∧ Below w.heap.size w w' := by
  obtain ⟨t, b, s, r⟩ := o
  simp only at hs
  have HX := Lib.hid (Bp.new w (.string t) (.int .i64 b) (.int .i64 s) (.int .i64 r))
  have cO := fun W => impl_outOk ⟨t, b, s, r⟩ W (by simp only; omega)
  have cC := fun W => copy_out ⟨t, b, s, r⟩ W (by simp only; omega)
  have cE := fun W => out_end ⟨t, b, s, r⟩ W
  simp only at cO cC cE
  unfold nxt
  by_cases hok : Ot.Ok (Ot.mk t b s r)
  · rw [decide_eq_true hok] at cO
    have hok' := hok
    unfold Ot.Ok at hok'
    simp only at hok' ⊢
    have e2 : IntKind.i64.wrap (b + (t.size : Int)) = b + (t.size : Int) := IntWalk.i64_in _ (by omega)
    rw [e2] at cE
    obtain ⟨en, hen⟩ : ∃ en, b + (t.size : Int) = en := ⟨_, rfl⟩
    rw [hen] at cE ⊢
    by_cases hm : s = en
    · rw [if_neg (fun h => h.2 hm)]
      have q1 : (s == en) = true := by simp [hm]
      clear hok hok' hs hen e2 cC hm
      go_enter Try.func22, Try.ntmps22
      go_upto_region 1 with (fail)
      generalize (w.alloc _).alloc _ = w0 at *
      have k1 := Lib.hid HX.out.drew
      have e0 := k1.out.all
      clear HX
      refine wp_region_held_drew (S := fun W => W.cell? ⟨w.heap.size, 0, none⟩ = some (.string t) ∧ W.cell? ⟨w.heap.size, 1, none⟩ = some (.int .i64 b) ∧ W.cell? ⟨w.heap.size, 2, none⟩ = some (.int .i64 s) ∧ W.cell? ⟨w.heap.size, 3, none⟩ = some (.int .i64 r)) (by kernel_rfl) e0 (fun hHeld => ?_)
      refine take_yes (i := 0) (oi := { dst := some 5, op := Op.load 33 (Operand.tmp 1), type := 33, pos := "l10_sends.go:32", after := #[], guard := none }) (v := .agg #[.string t, .int .i64 b, .int .i64 s, .int .i64 r]) rfl (by kernel_rfl) (by kernel_rfl) (by kernel_rfl) (fun _ _ _ h => h) (by rfl) (fun w hSw => by (try dsimp only at hSw); go_simp) (by assumption) ?_
      try simp only [Act.put, List.setIfInBounds_toArray, List.set_cons_zero, List.set_cons_succ]
      refine wpAnyH_ready (rs := [1]) (by kernel_rfl) (by simp) ?_
      refine AllReadyH.cons (o := { dst := some 6, op := Op.call { callee := Callee.value (Operand.func 25), args := #[Operand.tmp 5], argTypes := #[33] }, type := 4, pos := "l10_sends.go:32", after := #[{ on := 0, ground := Ground.data }], guard := none }) rfl (fun K hK => ?_) AllReadyH.nil
      go_simp
      with_reducible refine (cO _).mono ?_
      rintro e wA ⟨rfl, hbA⟩
      have k2 := Lib.hid (k1.out.kept hbA)
      have e2 := k2.out.all
      clear hbA cO k1 e0
      refine hK.out _ _ e2 (fun hHeldN => ?_)
      clear hK K hHeld
      have hHeld := hHeldN
      clear hHeldN
      try simp only [Act.put, List.setIfInBounds_toArray, List.set_cons_zero, List.set_cons_succ]
      refine take_yes (i := 2) (oi := { dst := some 7, op := Op.unOp UnOp.not 4 (Operand.tmp 6), type := 4, pos := "l10_sends.go:32", after := #[{ on := 1, ground := Ground.data }], guard := none }) (v := .bool false) rfl (by kernel_rfl) (by kernel_rfl) (by kernel_rfl) (fun _ _ _ h => h) (by rfl) (fun w hSw => by (try dsimp only at hSw); go_simp) (by assumption) ?_
      try simp only [Act.put, List.setIfInBounds_toArray, List.set_cons_zero, List.set_cons_succ]
      refine take_yes (i := 3) (oi := { dst := some 8, op := Op.move (Operand.tmp 7), type := 4, pos := "l10_sends.go:32", after := #[{ on := 2, ground := Ground.data }, { on := 1, ground := Ground.chain }], guard := none }) (v := .bool false) rfl (by kernel_rfl) (by kernel_rfl) (by kernel_rfl) (fun _ _ _ h => h) (by rfl) (fun w hSw => by (try dsimp only at hSw); go_simp) (by assumption) ?_
      try simp only [Act.put, List.setIfInBounds_toArray, List.set_cons_zero, List.set_cons_succ]
      refine take_yes (i := 4) (oi := { dst := some 9, op := Op.fieldAddr 33 (Operand.tmp 1) 2, type := 0, pos := "l10_sends.go:32", after := #[{ on := 3, ground := Ground.guard }], guard := some (3, false) }) (v := .pointer (some ⟨w.heap.size, 2, none⟩)) rfl (by kernel_rfl) (by kernel_rfl) (by kernel_rfl) (fun _ _ _ h => h) (by rfl) (fun w hSw => by (try dsimp only at hSw); go_simp) (by assumption) ?_
      try simp only [Act.put, List.setIfInBounds_toArray, List.set_cons_zero, List.set_cons_succ]
      refine take_yes (i := 5) (oi := { dst := some 10, op := Op.load 3 (Operand.tmp 9), type := 3, pos := "l10_sends.go:32", after := #[{ on := 4, ground := Ground.data }, { on := 3, ground := Ground.guard }], guard := some (3, false) }) (v := .int .i64 s) rfl (by kernel_rfl) (by kernel_rfl) (by kernel_rfl) (fun _ _ _ h => h) (by rfl) (fun w hSw => by (try dsimp only at hSw); go_simp) (by assumption) ?_
      try simp only [Act.put, List.setIfInBounds_toArray, List.set_cons_zero, List.set_cons_succ]
      refine take_yes (i := 6) (oi := { dst := some 11, op := Op.load 33 (Operand.tmp 1), type := 33, pos := "l10_sends.go:32", after := #[{ on := 3, ground := Ground.guard }], guard := some (3, false) }) (v := .agg #[.string t, .int .i64 b, .int .i64 s, .int .i64 r]) rfl (by kernel_rfl) (by kernel_rfl) (by kernel_rfl) (fun _ _ _ h => h) (by rfl) (fun w hSw => by (try dsimp only at hSw); go_simp) (by assumption) ?_
      try simp only [Act.put, List.setIfInBounds_toArray, List.set_cons_zero, List.set_cons_succ]
      refine wpAnyH_ready (rs := [7]) (by kernel_rfl) (by simp) ?_
      refine AllReadyH.cons (o := { dst := some 12, op := Op.call { callee := Callee.value (Operand.func 54), args := #[Operand.tmp 11], argTypes := #[33] }, type := 3, pos := "l10_sends.go:32", after := #[{ on := 6, ground := Ground.data }, { on := 3, ground := Ground.chain }, { on := 3, ground := Ground.guard }], guard := some (3, false) }) rfl (fun K hK => ?_) AllReadyH.nil
      go_simp
      with_reducible refine (cE _).mono ?_
      rintro e wB ⟨rfl, hbB⟩
      have k3 := Lib.hid (k2.out.kept hbB)
      have e3 := k3.out.all
      clear hbB cE k2 e2
      refine hK.out _ _ e3 (fun hHeldN => ?_)
      clear hK K hHeld
      have hHeld := hHeldN
      clear hHeldN
      try simp only [Act.put, List.setIfInBounds_toArray, List.set_cons_zero, List.set_cons_succ]
      refine take_yes (i := 8) (oi := { dst := some 13, op := Op.binOp BinOp.eql 3 (Operand.tmp 10) (Operand.tmp 12) 3, type := 4, pos := "l10_sends.go:32", after := #[{ on := 5, ground := Ground.data }, { on := 7, ground := Ground.data }, { on := 3, ground := Ground.guard }], guard := some (3, false) }) (v := .bool true) rfl (by kernel_rfl) (by kernel_rfl) (by kernel_rfl) (fun _ _ _ h => h) (by rfl) (fun w hSw => by (try dsimp only at hSw); go_simp) (by assumption) ?_
      try simp only [Act.put, List.setIfInBounds_toArray, List.set_cons_zero, List.set_cons_succ]
      refine take_yes (i := 9) (oi := { dst := some 14, op := Op.pick (Operand.tmp 8) (Operand.const (Value.bool true)) (Operand.tmp 13), type := 4, pos := "l10_sends.go:32", after := #[{ on := 3, ground := Ground.data }, { on := 8, ground := Ground.data }], guard := none }) (v := .bool true) rfl (by kernel_rfl) (by kernel_rfl) (by kernel_rfl) (fun _ _ _ h => h) (by rfl) (fun w hSw => by (try dsimp only at hSw); go_simp) (by assumption) ?_
      try simp only [Act.put, List.setIfInBounds_toArray, List.set_cons_zero, List.set_cons_succ]
      refine wpAnyH_done (by kernel_rfl) ?_ _
      clear hHeld
      obtain ⟨r0, r1, b0, b1, f0, f1⟩ := k3.out.rs
      have HG := Lib.hid (k3.out.give (.int .i64 0) (.string ⟨#[]⟩))
      clear k3
      go_wp2_with (fail)
      exact bodyPost_ret (pc_result2 HG.out.1 rfl _ rfl) rfl ⟨rfl, HG.out.2.1⟩
    · rw [if_pos ⟨hok, hm⟩]
      have q1 : (s == en) = false := by simp [hm]
      have hsl := cut_from t (s - b) (by omega) (by omega)
      have hzz := cut_size t (s - b).toNat t.size
      obtain ⟨y, hy⟩ : ∃ y, t.extract (s - b).toNat t.size = y := ⟨_, rfl⟩
      rw [hy] at hsl hzz ⊢
      have cF := fun W => impl_first y 20 W (by omega) (by omega)
      have hyz := firstOf_size y 20 (by omega)
      obtain ⟨u, hu⟩ : ∃ u, firstOf y 20 = u := ⟨_, rfl⟩
      rw [hu] at cF hyz ⊢
      have cL := fun W => clone_call u W (by omega)
      obtain ⟨d, hd⟩ : ∃ d, s - b = d := ⟨_, rfl⟩
      have e4 : IntKind.i64.wrap (s - b) = d := by rw [IntWalk.i64_in _ (by omega)]; exact hd
      rw [hd] at hsl
      clear hok hok' hs hen e2 cC hm hy hu hyz hzz hd
      go_enter Try.func22, Try.ntmps22
      go_upto_region 1 with (fail)
      generalize (w.alloc _).alloc _ = w0 at *
      have k1 := Lib.hid HX.out.drew
      have e0 := k1.out.all
      clear HX
      refine wp_region_held_drew (S := fun W => W.cell? ⟨w.heap.size, 0, none⟩ = some (.string t) ∧ W.cell? ⟨w.heap.size, 1, none⟩ = some (.int .i64 b) ∧ W.cell? ⟨w.heap.size, 2, none⟩ = some (.int .i64 s) ∧ W.cell? ⟨w.heap.size, 3, none⟩ = some (.int .i64 r)) (by kernel_rfl) e0 (fun hHeld => ?_)
      refine take_yes (i := 0) (oi := { dst := some 5, op := Op.load 33 (Operand.tmp 1), type := 33, pos := "l10_sends.go:32", after := #[], guard := none }) (v := .agg #[.string t, .int .i64 b, .int .i64 s, .int .i64 r]) rfl (by kernel_rfl) (by kernel_rfl) (by kernel_rfl) (fun _ _ _ h => h) (by rfl) (fun w hSw => by (try dsimp only at hSw); go_simp) (by assumption) ?_
      try simp only [Act.put, List.setIfInBounds_toArray, List.set_cons_zero, List.set_cons_succ]
      refine wpAnyH_ready (rs := [1]) (by kernel_rfl) (by simp) ?_
      refine AllReadyH.cons (o := { dst := some 6, op := Op.call { callee := Callee.value (Operand.func 25), args := #[Operand.tmp 5], argTypes := #[33] }, type := 4, pos := "l10_sends.go:32", after := #[{ on := 0, ground := Ground.data }], guard := none }) rfl (fun K hK => ?_) AllReadyH.nil
      go_simp
      with_reducible refine (cO _).mono ?_
      rintro e wA ⟨rfl, hbA⟩
      have k2 := Lib.hid (k1.out.kept hbA)
      have e2 := k2.out.all
      clear hbA cO k1 e0
      refine hK.out _ _ e2 (fun hHeldN => ?_)
      clear hK K hHeld
      have hHeld := hHeldN
      clear hHeldN
      try simp only [Act.put, List.setIfInBounds_toArray, List.set_cons_zero, List.set_cons_succ]
      refine take_yes (i := 2) (oi := { dst := some 7, op := Op.unOp UnOp.not 4 (Operand.tmp 6), type := 4, pos := "l10_sends.go:32", after := #[{ on := 1, ground := Ground.data }], guard := none }) (v := .bool false) rfl (by kernel_rfl) (by kernel_rfl) (by kernel_rfl) (fun _ _ _ h => h) (by rfl) (fun w hSw => by (try dsimp only at hSw); go_simp) (by assumption) ?_
      try simp only [Act.put, List.setIfInBounds_toArray, List.set_cons_zero, List.set_cons_succ]
      refine take_yes (i := 3) (oi := { dst := some 8, op := Op.move (Operand.tmp 7), type := 4, pos := "l10_sends.go:32", after := #[{ on := 2, ground := Ground.data }, { on := 1, ground := Ground.chain }], guard := none }) (v := .bool false) rfl (by kernel_rfl) (by kernel_rfl) (by kernel_rfl) (fun _ _ _ h => h) (by rfl) (fun w hSw => by (try dsimp only at hSw); go_simp) (by assumption) ?_
      try simp only [Act.put, List.setIfInBounds_toArray, List.set_cons_zero, List.set_cons_succ]
      refine take_yes (i := 4) (oi := { dst := some 9, op := Op.fieldAddr 33 (Operand.tmp 1) 2, type := 0, pos := "l10_sends.go:32", after := #[{ on := 3, ground := Ground.guard }], guard := some (3, false) }) (v := .pointer (some ⟨w.heap.size, 2, none⟩)) rfl (by kernel_rfl) (by kernel_rfl) (by kernel_rfl) (fun _ _ _ h => h) (by rfl) (fun w hSw => by (try dsimp only at hSw); go_simp) (by assumption) ?_
      try simp only [Act.put, List.setIfInBounds_toArray, List.set_cons_zero, List.set_cons_succ]
      refine take_yes (i := 5) (oi := { dst := some 10, op := Op.load 3 (Operand.tmp 9), type := 3, pos := "l10_sends.go:32", after := #[{ on := 4, ground := Ground.data }, { on := 3, ground := Ground.guard }], guard := some (3, false) }) (v := .int .i64 s) rfl (by kernel_rfl) (by kernel_rfl) (by kernel_rfl) (fun _ _ _ h => h) (by rfl) (fun w hSw => by (try dsimp only at hSw); go_simp) (by assumption) ?_
      try simp only [Act.put, List.setIfInBounds_toArray, List.set_cons_zero, List.set_cons_succ]
      refine take_yes (i := 6) (oi := { dst := some 11, op := Op.load 33 (Operand.tmp 1), type := 33, pos := "l10_sends.go:32", after := #[{ on := 3, ground := Ground.guard }], guard := some (3, false) }) (v := .agg #[.string t, .int .i64 b, .int .i64 s, .int .i64 r]) rfl (by kernel_rfl) (by kernel_rfl) (by kernel_rfl) (fun _ _ _ h => h) (by rfl) (fun w hSw => by (try dsimp only at hSw); go_simp) (by assumption) ?_
      try simp only [Act.put, List.setIfInBounds_toArray, List.set_cons_zero, List.set_cons_succ]
      refine wpAnyH_ready (rs := [7]) (by kernel_rfl) (by simp) ?_
      refine AllReadyH.cons (o := { dst := some 12, op := Op.call { callee := Callee.value (Operand.func 54), args := #[Operand.tmp 11], argTypes := #[33] }, type := 3, pos := "l10_sends.go:32", after := #[{ on := 6, ground := Ground.data }, { on := 3, ground := Ground.chain }, { on := 3, ground := Ground.guard }], guard := some (3, false) }) rfl (fun K hK => ?_) AllReadyH.nil
      go_simp
      with_reducible refine (cE _).mono ?_
      rintro e wB ⟨rfl, hbB⟩
      have k3 := Lib.hid (k2.out.kept hbB)
      have e3 := k3.out.all
      clear hbB cE k2 e2
      refine hK.out _ _ e3 (fun hHeldN => ?_)
      clear hK K hHeld
      have hHeld := hHeldN
      clear hHeldN
      try simp only [Act.put, List.setIfInBounds_toArray, List.set_cons_zero, List.set_cons_succ]
      refine take_yes (i := 8) (oi := { dst := some 13, op := Op.binOp BinOp.eql 3 (Operand.tmp 10) (Operand.tmp 12) 3, type := 4, pos := "l10_sends.go:32", after := #[{ on := 5, ground := Ground.data }, { on := 7, ground := Ground.data }, { on := 3, ground := Ground.guard }], guard := some (3, false) }) (v := .bool false) rfl (by kernel_rfl) (by kernel_rfl) (by kernel_rfl) (fun _ _ _ h => h) (by rfl) (fun w hSw => by (try dsimp only at hSw); go_simp) (by assumption) ?_
      try simp only [Act.put, List.setIfInBounds_toArray, List.set_cons_zero, List.set_cons_succ]
      refine take_yes (i := 9) (oi := { dst := some 14, op := Op.pick (Operand.tmp 8) (Operand.const (Value.bool true)) (Operand.tmp 13), type := 4, pos := "l10_sends.go:32", after := #[{ on := 3, ground := Ground.data }, { on := 8, ground := Ground.data }], guard := none }) (v := .bool false) rfl (by kernel_rfl) (by kernel_rfl) (by kernel_rfl) (fun _ _ _ h => h) (by rfl) (fun w hSw => by (try dsimp only at hSw); go_simp) (by assumption) ?_
      try simp only [Act.put, List.setIfInBounds_toArray, List.set_cons_zero, List.set_cons_succ]
      refine wpAnyH_done (by kernel_rfl) ?_ _
      clear hHeld
      obtain ⟨a0, a1, a2, a3⟩ := k3.out.all
      clear e3
      go_wp2_with (fail)
      with_reducible refine (cF _).mono ?_
      rintro e w4 ⟨rfl, rfl⟩
      go_upto_region 4 with (fail)
      have k4 := Lib.hid k3.out.drew
      have e4 := k4.out.all
      clear k3 cF a0 a1 a2 a3
      refine wp_region_held_drew (S := fun W => W.cell? ⟨w.heap.size, 0, none⟩ = some (.string t) ∧ W.cell? ⟨w.heap.size, 1, none⟩ = some (.int .i64 b) ∧ W.cell? ⟨w.heap.size, 2, none⟩ = some (.int .i64 s) ∧ W.cell? ⟨w.heap.size, 3, none⟩ = some (.int .i64 r)) (by kernel_rfl) e4 (fun hHeld => ?_)
      refine take_yes (i := 0) (oi := { dst := some 25, op := Op.fieldAddr 33 (Operand.tmp 1) 2, type := 0, pos := "l10_sends.go:36", after := #[], guard := none }) (v := .pointer (some ⟨w.heap.size, 2, none⟩)) rfl (by kernel_rfl) (by kernel_rfl) (by kernel_rfl) (fun _ _ _ h => h) (by rfl) (fun w hSw => by (try dsimp only at hSw); go_simp) (by assumption) ?_
      try simp only [Act.put, List.setIfInBounds_toArray, List.set_cons_zero, List.set_cons_succ]
      refine take_yes (i := 1) (oi := { dst := some 26, op := Op.load 3 (Operand.tmp 25), type := 3, pos := "l10_sends.go:36", after := #[{ on := 0, ground := Ground.data }], guard := none }) (v := .int .i64 s) rfl (by kernel_rfl) (by kernel_rfl) (by kernel_rfl) (fun _ _ _ h => h) (by rfl) (fun w hSw => by (try dsimp only at hSw); go_simp) (by assumption) ?_
      try simp only [Act.put, List.setIfInBounds_toArray, List.set_cons_zero, List.set_cons_succ]
      refine take_yes (i := 2) (oi := { dst := some 27, op := Op.move (Operand.tmp 4), type := 9, pos := "l10_sends.go:36", after := #[], guard := none }) (v := .string u) rfl (by kernel_rfl) (by kernel_rfl) (by kernel_rfl) (fun _ _ _ h => h) (by rfl) (fun w hSw => by (try dsimp only at hSw); go_simp) (by assumption) ?_
      try simp only [Act.put, List.setIfInBounds_toArray, List.set_cons_zero, List.set_cons_succ]
      refine wpAnyH_ready (rs := [3]) (by kernel_rfl) (by simp) ?_
      refine AllReadyH.cons (o := { dst := some 28, op := Op.call { callee := Callee.value (Operand.func 57), args := #[Operand.tmp 27], argTypes := #[9] }, type := 9, pos := "l10_sends.go:36", after := #[{ on := 2, ground := Ground.data }], guard := none }) rfl (fun K hK => ?_) AllReadyH.nil
      go_simp
      with_reducible refine (cL _).mono ?_
      rintro e w5 ⟨rfl, hb5⟩
      have k5 := Lib.hid (k4.out.kept hb5)
      have e5 := k5.out.all
      clear hb5 cL k4 e4
      refine hK.out _ _ e5 (fun hHeldN => ?_)
      clear hK K hHeld
      have hHeld := hHeldN
      clear hHeldN
      try simp only [Act.put, List.setIfInBounds_toArray, List.set_cons_zero, List.set_cons_succ]
      refine take_yes (i := 4) (oi := { dst := some 29, op := Op.build 41 #[(0, Operand.tmp 26), (1, Operand.tmp 28)], type := 41, pos := "l10_sends.go:36", after := #[{ on := 1, ground := Ground.data }, { on := 3, ground := Ground.data }], guard := none }) (v := .agg #[.int .i64 s, .string u]) rfl (by kernel_rfl) (by kernel_rfl) (by kernel_rfl) (fun _ _ _ h => h) (by rfl) (fun w hSw => by (try dsimp only at hSw); go_simp) (by assumption) ?_
      try simp only [Act.put, List.setIfInBounds_toArray, List.set_cons_zero, List.set_cons_succ]
      refine wpAnyH_ready (rs := [5]) (by kernel_rfl) (by simp) ?_
      refine AllReadyH.cons (o := { dst := none, op := Op.store 41 (Operand.tmp 2) (Operand.tmp 29), type := 0, pos := "l10_sends.go:36", after := #[{ on := 4, ground := Ground.data }, { on := 3, ground := Ground.chain }, { on := 0, ground := Ground.phase }, { on := 1, ground := Ground.phase }, { on := 2, ground := Ground.phase }, { on := 3, ground := Ground.phase }, { on := 4, ground := Ground.phase }], guard := none }) rfl (fun K hK => ?_) AllReadyH.nil
      obtain ⟨r0, r1, b0, b1, f0, f1⟩ := k5.out.rs
      go_simp
      have HG := Lib.hid (k5.out.give (.int .i64 s) (.string u))
      have e6 := cel4 HG.out.2.2
      clear b0 b1 f0 f1 k5 e5
      refine hK.out _ _ e6 (fun hHeldN => ?_)
      clear hK K hHeld
      have hHeld := hHeldN
      clear hHeldN
      try simp only [Act.put, List.setIfInBounds_toArray, List.set_cons_zero, List.set_cons_succ]
      refine take_yes (i := 6) (oi := { dst := some 3, op := Op.assign (Operand.const (Value.bool true)), type := 4, pos := "l10_sends.go:36", after := #[{ on := 5, ground := Ground.chain }, { on := 0, ground := Ground.phase }, { on := 1, ground := Ground.phase }, { on := 2, ground := Ground.phase }, { on := 3, ground := Ground.phase }, { on := 4, ground := Ground.phase }, { on := 5, ground := Ground.phase }], guard := none }) (v := .bool true) rfl (by kernel_rfl) (by kernel_rfl) (by kernel_rfl) (fun _ _ _ h => h) (by rfl) (fun w hSw => by (try dsimp only at hSw); go_simp) (by assumption) ?_
      try simp only [Act.put, List.setIfInBounds_toArray, List.set_cons_zero, List.set_cons_succ]
      refine wpAnyH_done (by kernel_rfl) ?_ _
      clear hHeld
      clear e6
      go_wp2_with (fail)
      exact bodyPost_ret (pc_result2 HG.out.1 rfl _ rfl) rfl ⟨rfl, HG.out.2.1⟩
  · rw [decide_eq_false hok] at cO
    rw [if_neg (fun h => hok h.1)]
    clear hok hs cE cC
    go_enter Try.func22, Try.ntmps22
    go_upto_region 1 with (fail)
    generalize (w.alloc _).alloc _ = w0 at *
    have k1 := Lib.hid HX.out.drew
    have e0 := k1.out.all
    clear HX
    refine wp_region_held_drew (S := fun W => W.cell? ⟨w.heap.size, 0, none⟩ = some (.string t) ∧ W.cell? ⟨w.heap.size, 1, none⟩ = some (.int .i64 b) ∧ W.cell? ⟨w.heap.size, 2, none⟩ = some (.int .i64 s) ∧ W.cell? ⟨w.heap.size, 3, none⟩ = some (.int .i64 r)) (by kernel_rfl) e0 (fun hHeld => ?_)
    refine take_yes (i := 0) (oi := { dst := some 5, op := Op.load 33 (Operand.tmp 1), type := 33, pos := "l10_sends.go:32", after := #[], guard := none }) (v := .agg #[.string t, .int .i64 b, .int .i64 s, .int .i64 r]) rfl (by kernel_rfl) (by kernel_rfl) (by kernel_rfl) (fun _ _ _ h => h) (by rfl) (fun w hSw => by (try dsimp only at hSw); go_simp) (by assumption) ?_
    try simp only [Act.put, List.setIfInBounds_toArray, List.set_cons_zero, List.set_cons_succ]
    refine wpAnyH_ready (rs := [1]) (by kernel_rfl) (by simp) ?_
    refine AllReadyH.cons (o := { dst := some 6, op := Op.call { callee := Callee.value (Operand.func 25), args := #[Operand.tmp 5], argTypes := #[33] }, type := 4, pos := "l10_sends.go:32", after := #[{ on := 0, ground := Ground.data }], guard := none }) rfl (fun K hK => ?_) AllReadyH.nil
    go_simp
    with_reducible refine (cO _).mono ?_
    rintro e wA ⟨rfl, hbA⟩
    have k2 := Lib.hid (k1.out.kept hbA)
    have e2 := k2.out.all
    clear hbA cO k1 e0
    refine hK.out _ _ e2 (fun hHeldN => ?_)
    clear hK K hHeld
    have hHeld := hHeldN
    clear hHeldN
    try simp only [Act.put, List.setIfInBounds_toArray, List.set_cons_zero, List.set_cons_succ]
    refine take_yes (i := 2) (oi := { dst := some 7, op := Op.unOp UnOp.not 4 (Operand.tmp 6), type := 4, pos := "l10_sends.go:32", after := #[{ on := 1, ground := Ground.data }], guard := none }) (v := .bool true) rfl (by kernel_rfl) (by kernel_rfl) (by kernel_rfl) (fun _ _ _ h => h) (by rfl) (fun w hSw => by (try dsimp only at hSw); go_simp) (by assumption) ?_
    try simp only [Act.put, List.setIfInBounds_toArray, List.set_cons_zero, List.set_cons_succ]
    refine take_yes (i := 3) (oi := { dst := some 8, op := Op.move (Operand.tmp 7), type := 4, pos := "l10_sends.go:32", after := #[{ on := 2, ground := Ground.data }, { on := 1, ground := Ground.chain }], guard := none }) (v := .bool true) rfl (by kernel_rfl) (by kernel_rfl) (by kernel_rfl) (fun _ _ _ h => h) (by rfl) (fun w hSw => by (try dsimp only at hSw); go_simp) (by assumption) ?_
    try simp only [Act.put, List.setIfInBounds_toArray, List.set_cons_zero, List.set_cons_succ]
    refine take_no (i := 4) (oi := { dst := some 9, op := Op.fieldAddr 33 (Operand.tmp 1) 2, type := 0, pos := "l10_sends.go:32", after := #[{ on := 3, ground := Ground.guard }], guard := some (3, false) }) rfl (by kernel_rfl) (by kernel_rfl) (by kernel_rfl) (fun _ _ _ h => h) (by rfl) (by assumption) ?_
    try simp only [Act.put, List.setIfInBounds_toArray, List.set_cons_zero, List.set_cons_succ]
    refine take_no (i := 5) (oi := { dst := some 10, op := Op.load 3 (Operand.tmp 9), type := 3, pos := "l10_sends.go:32", after := #[{ on := 4, ground := Ground.data }, { on := 3, ground := Ground.guard }], guard := some (3, false) }) rfl (by kernel_rfl) (by kernel_rfl) (by kernel_rfl) (fun _ _ _ h => h) (by rfl) (by assumption) ?_
    try simp only [Act.put, List.setIfInBounds_toArray, List.set_cons_zero, List.set_cons_succ]
    refine take_no (i := 6) (oi := { dst := some 11, op := Op.load 33 (Operand.tmp 1), type := 33, pos := "l10_sends.go:32", after := #[{ on := 3, ground := Ground.guard }], guard := some (3, false) }) rfl (by kernel_rfl) (by kernel_rfl) (by kernel_rfl) (fun _ _ _ h => h) (by rfl) (by assumption) ?_
    try simp only [Act.put, List.setIfInBounds_toArray, List.set_cons_zero, List.set_cons_succ]
    refine take_no (i := 7) (oi := { dst := some 12, op := Op.call { callee := Callee.value (Operand.func 54), args := #[Operand.tmp 11], argTypes := #[33] }, type := 3, pos := "l10_sends.go:32", after := #[{ on := 6, ground := Ground.data }, { on := 3, ground := Ground.chain }, { on := 3, ground := Ground.guard }], guard := some (3, false) }) rfl (by kernel_rfl) (by kernel_rfl) (by kernel_rfl) (fun _ _ _ h => h) (by rfl) (by assumption) ?_
    try simp only [Act.put, List.setIfInBounds_toArray, List.set_cons_zero, List.set_cons_succ]
    refine take_no (i := 8) (oi := { dst := some 13, op := Op.binOp BinOp.eql 3 (Operand.tmp 10) (Operand.tmp 12) 3, type := 4, pos := "l10_sends.go:32", after := #[{ on := 5, ground := Ground.data }, { on := 7, ground := Ground.data }, { on := 3, ground := Ground.guard }], guard := some (3, false) }) rfl (by kernel_rfl) (by kernel_rfl) (by kernel_rfl) (fun _ _ _ h => h) (by rfl) (by assumption) ?_
    try simp only [Act.put, List.setIfInBounds_toArray, List.set_cons_zero, List.set_cons_succ]
    refine take_yes (i := 9) (oi := { dst := some 14, op := Op.pick (Operand.tmp 8) (Operand.const (Value.bool true)) (Operand.tmp 13), type := 4, pos := "l10_sends.go:32", after := #[{ on := 3, ground := Ground.data }, { on := 8, ground := Ground.data }], guard := none }) (v := .bool true) rfl (by kernel_rfl) (by kernel_rfl) (by kernel_rfl) (fun _ _ _ h => h) (by rfl) (fun w hSw => by (try dsimp only at hSw); go_simp) (by assumption) ?_
    try simp only [Act.put, List.setIfInBounds_toArray, List.set_cons_zero, List.set_cons_succ]
    refine wpAnyH_done (by kernel_rfl) ?_ _
    clear hHeld
    obtain ⟨r0, r1, b0, b1, f0, f1⟩ := k2.out.rs
    have HG := Lib.hid (k2.out.give (.int .i64 0) (.string ⟨#[]⟩))
    clear k2
    go_wp2_with (fail)
    exact bodyPost_ret (pc_result2 HG.out.1 rfl _ rfl) rfl ⟨rfl, HG.out.2.1⟩
end Go.Proofs.Ytdajfnonehianaa
