import Derived.Test.YtmfbhejclmelaaaAbl
namespace Go.Proofs.Ytmfbhejclmelaaa
open Go.RowKit

/-- delete, at a step of a region that draws its order. -/
theorem step_mapDel {ops : Array Oper} {o : Oper} {a : Act} {W : World} {K' : Act → World → Prop} {Q : Exit → Act → World → Prop} {E : Prop} (hgd : o.guard = none) (m x : Operand)
    (ho : o.op = .call { callee := .builtin .delete, args := #[m, x], argTypes := #[54, 71] }) {b n : Nat} {F : Kk → Option Av} (k : Kk)
    (hm : a.eval m = .map (some b)) (hx : a.eval x = kvVal k) (hM : MapAt W b n F) (hk : OkK k)
    (h : ∀ W', MapAt W' b n (upd F k none) → W.grownBy W' (some b) → W'.heap.size = W.heap.size → K' (a.put o.dst (.tuple #[])) W') :
    if Region.wanted o (yielded ops a.tmps) = true then Oper.wp Try.prog o a W K' Q else E := by
  have hw : Region.wanted o (yielded ops a.tmps) = true := by simp [Region.wanted, hgd]
  rw [if_pos hw]
  obtain ⟨w', hr, h1, h2, h3⟩ := hM.del k hk o.type
  unfold Oper.wp execOp
  simp only [ho, resolve, invoke, builtin, Sem.run_bind, Sem.run_pure, Result.andThen_ok, List.map_toArray, List.map_cons, List.map_nil, hm, hx, hr]
  exact h w' h1 h2 h3
/-- m[k] = v, likewise. -/
theorem step_mapPut {ops : Array Oper} {o : Oper} {a : Act} {W : World} {K' : Act → World → Prop} {Q : Exit → Act → World → Prop} {E : Prop} (hgd : o.guard = none) (m x v : Operand)
    (ho : o.op = .mapUpdate 54 m x v) {b n : Nat} {F : Kk → Option Av} (k : Kk) (y : Av)
    (hm : a.eval m = .map (some b)) (hx : a.eval x = kvVal k) (hv : a.eval v = avVal y) (hM : MapAt W b n F) (hk : OkK k) (hn : n < maxLen)
    (h : ∀ W', MapAt W' b (n + 1) (upd F k (some y)) → W.grownBy W' (some b) → W'.heap.size = W.heap.size → K' (a.put o.dst undef) W') :
    if Region.wanted o (yielded ops a.tmps) = true then Oper.wp Try.prog o a W K' Q else E := by
  have hw : Region.wanted o (yielded ops a.tmps) = true := by simp [Region.wanted, hgd]
  rw [if_pos hw]
  obtain ⟨w', hr, h1, h2, h3⟩ := hM.put k hk y hn
  unfold Oper.wp execOp
  simp only [ho, hm, hx, hv, hr, Sem.run_bind, Sem.run_pure, Result.andThen_ok]
  exact h w' h1 h2 h3
/-- .. and where the order is written. -/
theorem wpList_mapPut {ops : Array Oper} {rest : List Oper} {o : Oper} {a : Act} {W : World} {Q : Exit → Act → World → Prop} (hgd : o.guard = none) (m x v : Operand)
    (ho : o.op = .mapUpdate 54 m x v) {b n : Nat} {F : Kk → Option Av} (k : Kk) (y : Av)
    (hm : a.eval m = .map (some b)) (hx : a.eval x = kvVal k) (hv : a.eval v = avVal y) (hM : MapAt W b n F) (hk : OkK k) (hn : n < maxLen)
    (h : ∀ W', MapAt W' b (n + 1) (upd F k (some y)) → W.grownBy W' (some b) → W'.heap.size = W.heap.size → wpList Try.prog ops Q rest (a.put o.dst undef) W') : wpList Try.prog ops Q (o :: rest) a W := by
  refine wpList_plain hgd fun K' hK => ?_
  obtain ⟨w', hr, h1, h2, h3⟩ := hM.put k hk y hn
  unfold Oper.wp execOp
  simp only [ho, hm, hx, hv, hr, Sem.run_bind, Sem.run_pure, Result.andThen_ok]
  exact hK _ _ (h w' h1 h2 h3)

/-- The book behind a turn of its map. -/
theorem BkW.turn {W W' : World} {B bb bm n n' : Nat} {u : Value} {order : List Kk} {F F' : Kk → Option Av} (h : BkW W B bb bm n u order F) (hm : MapAt W' bm n' F') (hg : W.grownBy W' (some bm)) (hz : W'.heap.size = W.heap.size) : BkW W' B bb bm n' u order F' :=
  ⟨h.c.grown hg (fun e => h.nbm (by injection e)), by rw [hz]; exact h.o.grown hg (Nat.le_refl _) (fun g hv e => (h.ob g hv).1 (by injection e)), hm, h.hb, h.hm, h.ok⟩
theorem BkW.turned {w W W' : World} {B bm : Nat} (hb : Below B w W) (hg : W.grownBy W' (some bm)) (hB : B ≤ W.heap.size) (hm : B ≤ bm) : Below B w W' := hb.grown hg hB (fun k hk => by injection hk with hk; omega)
theorem BkW.size {W : World} {B bb bm n : Nat} {u : Value} {order : List Kk} {F : Kk → Option Av} (h : BkW W B bb bm n u order F) : B ≤ W.heap.size := Nat.le_of_lt (Nat.lt_of_le_of_lt h.hb h.c.lt)

theorem bd_keep {w1 W W' : World} {bb bm bk n : Nat} {id : Int} {F : Kk → Option Av} (h : W.cell? ⟨bb, 1, none⟩ = some (.map (some bm)) ∧ W.cell? ⟨bk, 0, none⟩ = some (.int .i64 id) ∧ W.cell? ⟨bk, 1, none⟩ = some (.int .i64 0) ∧ MapAt W bm n F ∧ Below w1.heap.size w1 W) (hb : Below W.heap.size W W') :
    W'.cell? ⟨bb, 1, none⟩ = some (.map (some bm)) ∧ W'.cell? ⟨bk, 0, none⟩ = some (.int .i64 id) ∧ W'.cell? ⟨bk, 1, none⟩ = some (.int .i64 0) ∧ MapAt W' bm n F ∧ Below w1.heap.size w1 W' :=
  ⟨keepc' h.1 hb, keepc' h.2.1 hb, keepc' h.2.2.1 hb, h.2.2.2.1.kept hb, Below.then_ h.2.2.2.2 hb⟩

set_option linter.unusedSimpArgs false in
set_option maxRecDepth 100000 in
set_option maxHeartbeats 4000000 in
theorem impl_drop (bb bm n B : Nat) (u : Value) (order : List Kk) (F : Kk → Option Av) (id : Int) (w : World) (h : BkW w B bb bm n u order F) (hid : (Lit.int .i64 id).wf = true) :
    Calls Try.prog 42 #[.pointer (some ⟨bb, 0, none⟩), .int .i64 id] w fun e w' => e = .returned (.bool (F (id, 0)).isSome) ∧ BkW w' B bb bm n u order (upd F (id, 0) none) ∧ Below B w w' := by
  have hok := okK_zero hid
  have hbx := below_new w (.cells #[.int .i64 id, .int .i64 0] 71)
  obtain ⟨d0, d1⟩ := cel2a (Cel.new w 71 #[.int .i64 id, .int .i64 0])
  have h1 := h.kept hbx
  have hB1 : Below B w (w.alloc (.cells #[.int .i64 id, .int .i64 0] 71)) := hbx.mono h.size
  have hlk := fun W (h : MapAt W bm n F) => (show (Instr.lookup 54 (.map (some bm)) (.agg #[.int .i64 id, .int .i64 0]) true).run Try.prog W = .ok (.tuple #[avVal ((F (id, 0)).getD Av.zero), .bool (F (id, 0)).isSome]) W from h.look (id, 0) hok)
  obtain ⟨y, hy⟩ : ∃ y, (F (id, 0)).getD Av.zero = y := ⟨_, rfl⟩
  obtain ⟨hs, hhs⟩ : ∃ hs, (F (id, 0)).isSome = hs := ⟨_, rfl⟩
  rw [hy, hhs] at hlk
  rw [hhs]
  unfold avVal at hlk
  have HH := Lib.hid (And.intro h1 (And.intro hB1 (And.intro hok (Cel.new w 71 #[.int .i64 id, .int .i64 0]))))
  have c1 := h1.two.2
  have hM := h1.m
  clear h h1 hB1 hbx hok hy hhs hid
  go_enter Try.func42, Try.ntmps42
  go_wp2_with (fail)
  generalize hbk : w.heap.size = bk at *
  generalize w.alloc (.cells #[.int .i64 id, .int .i64 0] 71) = w1 at *
  clear hbk
  have hS := bd_keep (w1 := w1) ⟨c1, d0, d1, hM, Below.refl _ _⟩ (show Below _ _ (World.drew _) from (Below.refl _ _).drew)
  clear c1 d0 d1 hM
  refine wp_region_held_drew (S := fun W => W.cell? ⟨bb, 1, none⟩ = some (.map (some bm)) ∧ W.cell? ⟨bk, 0, none⟩ = some (.int .i64 id) ∧ W.cell? ⟨bk, 1, none⟩ = some (.int .i64 0) ∧ MapAt W bm n F ∧ Below w1.heap.size w1 W) (by kernel_rfl) hS (fun hHeld => ?_)
  refine take_yes (i := 0) (oi := { dst := some 11, op := Op.move (Operand.tmp 0), type := 72, pos := "l11_addrs.go:117", after := #[], guard := none }) (v := .pointer (some ⟨bb, 0, none⟩)) rfl (by kernel_rfl) (by kernel_rfl) (by kernel_rfl) (fun _ _ _ h => h) (by rfl) (fun w hSw => by (try dsimp only at hSw); go_simp) (by assumption) ?_
  try simp only [Act.put, List.setIfInBounds_toArray, List.set_cons_zero, List.set_cons_succ]
  refine take_yes (i := 1) (oi := { dst := some 12, op := Op.nilCheck (Operand.tmp 11), type := 0, pos := "l11_addrs.go:117", after := #[{ on := 0, ground := Ground.data }], guard := none }) (v := .pointer (some ⟨bb, 0, none⟩)) rfl (by kernel_rfl) (by kernel_rfl) (by kernel_rfl) (fun _ _ _ h => h) (by rfl) (fun w hSw => by (try dsimp only at hSw); go_simp) (by assumption) ?_
  try simp only [Act.put, List.setIfInBounds_toArray, List.set_cons_zero, List.set_cons_succ]
  refine take_yes (i := 2) (oi := { dst := some 13, op := Op.fieldAddr 56 (Operand.tmp 12) 1, type := 0, pos := "l11_addrs.go:117", after := #[{ on := 1, ground := Ground.data }], guard := none }) (v := .pointer (some ⟨bb, 1, none⟩)) rfl (by kernel_rfl) (by kernel_rfl) (by kernel_rfl) (fun _ _ _ h => h) (by rfl) (fun w hSw => by (try dsimp only at hSw); go_simp) (by assumption) ?_
  try simp only [Act.put, List.setIfInBounds_toArray, List.set_cons_zero, List.set_cons_succ]
  refine take_yes (i := 3) (oi := { dst := some 14, op := Op.load 54 (Operand.tmp 13), type := 54, pos := "l11_addrs.go:117", after := #[{ on := 2, ground := Ground.data }], guard := none }) (v := .map (some bm)) rfl (by kernel_rfl) (by kernel_rfl) (by kernel_rfl) (fun _ _ _ h => h) (by rfl) (fun w hSw => by (try dsimp only at hSw); go_simp) (by assumption) ?_
  try simp only [Act.put, List.setIfInBounds_toArray, List.set_cons_zero, List.set_cons_succ]
  refine take_yes (i := 4) (oi := { dst := some 15, op := Op.load 71 (Operand.tmp 5), type := 71, pos := "l11_addrs.go:117", after := #[], guard := none }) (v := .agg #[.int .i64 id, .int .i64 0]) rfl (by kernel_rfl) (by kernel_rfl) (by kernel_rfl) (fun _ _ _ h => h) (by rfl) (fun w hSw => by (try dsimp only at hSw); go_simp) (by assumption) ?_
  try simp only [Act.put, List.setIfInBounds_toArray, List.set_cons_zero, List.set_cons_succ]
  refine take_yes (i := 5) (oi := { dst := some 16, op := Op.lookup 54 (Operand.tmp 14) (Operand.tmp 15) true, type := 76, pos := "l11_addrs.go:117", after := #[{ on := 3, ground := Ground.data }, { on := 4, ground := Ground.data }], guard := none }) (v := .tuple #[.agg #[.int .i64 y.id, .int .i64 y.addr, .bool y.spare, .bool y.told], .bool hs]) rfl (by kernel_rfl) (by kernel_rfl) (by kernel_rfl) (fun _ _ _ h => h) (by rfl) (fun w hSw => by (try dsimp only at hSw); have hlw := hlk _ hSw.2.2.2.1; go_simp) (by assumption) ?_
  try simp only [Act.put, List.setIfInBounds_toArray, List.set_cons_zero, List.set_cons_succ]
  refine take_yes (i := 6) (oi := { dst := some 10, op := Op.move (Operand.tmp 16), type := 76, pos := "l11_addrs.go:117", after := #[{ on := 5, ground := Ground.data }], guard := none }) (v := .tuple #[.agg #[.int .i64 y.id, .int .i64 y.addr, .bool y.spare, .bool y.told], .bool hs]) rfl (by kernel_rfl) (by kernel_rfl) (by kernel_rfl) (fun _ _ _ h => h) (by rfl) (fun w hSw => by (try dsimp only at hSw); go_simp) (by assumption) ?_
  try simp only [Act.put, List.setIfInBounds_toArray, List.set_cons_zero, List.set_cons_succ]
  refine take_yes (i := 7) (oi := { dst := some 17, op := Op.extract (Operand.tmp 10) 0, type := 26, pos := "l11_addrs.go:117", after := #[{ on := 6, ground := Ground.data }], guard := none }) (v := .agg #[.int .i64 y.id, .int .i64 y.addr, .bool y.spare, .bool y.told]) rfl (by kernel_rfl) (by kernel_rfl) (by kernel_rfl) (fun _ _ _ h => h) (by rfl) (fun w hSw => by (try dsimp only at hSw); go_simp) (by assumption) ?_
  try simp only [Act.put, List.setIfInBounds_toArray, List.set_cons_zero, List.set_cons_succ]
  refine take_yes (i := 8) (oi := { dst := some 18, op := Op.extract (Operand.tmp 10) 1, type := 4, pos := "l11_addrs.go:117", after := #[{ on := 6, ground := Ground.data }, { on := 10, ground := Ground.gcOnly Departure.lateStores }], guard := none }) (v := .bool hs) rfl (by kernel_rfl) (by kernel_rfl) (by kernel_rfl) (fun _ _ _ h => h) (by rfl) (fun w hSw => by (try dsimp only at hSw); go_simp) (by assumption) ?_
  try simp only [Act.put, List.setIfInBounds_toArray, List.set_cons_zero, List.set_cons_succ]
  refine wpAnyH_ready (rs := [9]) (by kernel_rfl) (by simp) ?_
  refine AllReadyH.cons (o := { dst := some 6, op := Op.alloc 26, type := 0, pos := "l11_addrs.go:117", after := #[], guard := none }) rfl (fun K hK => ?_) AllReadyH.nil
  go_simp
  have K9 := bd_keep hHeld (below_new _ (.cells #[.int .i64 0, .int .i64 0, .bool false, .bool false] 26))
  refine hK.out _ _ K9 (fun hHeldN => ?_)
  clear hK K hHeld
  have hHeld := hHeldN
  clear hHeldN
  try simp only [Act.put, List.setIfInBounds_toArray, List.set_cons_zero, List.set_cons_succ]
  refine wpAnyH_ready (rs := [10]) (by kernel_rfl) (by simp) ?_
  refine AllReadyH.cons (o := { dst := none, op := Op.store 26 (Operand.tmp 6) (Operand.tmp 17), type := 0, pos := "l11_addrs.go:117", after := #[{ on := 9, ground := Ground.data }, { on := 7, ground := Ground.data }, { on := 0, ground := Ground.phase }, { on := 1, ground := Ground.phase }, { on := 2, ground := Ground.phase }, { on := 3, ground := Ground.phase }, { on := 4, ground := Ground.phase }, { on := 5, ground := Ground.phase }, { on := 6, ground := Ground.phase }, { on := 7, ground := Ground.phase }, { on := 8, ground := Ground.textOnly Departure.lateStores }, { on := 9, ground := Ground.phase }], guard := none }) rfl (fun K hK => ?_) AllReadyH.nil
  go_simp
  have K10 := bd_keep hS (show Below _ _ (World.alloc _ (.cells #[.int .i64 y.id, .int .i64 y.addr, .bool y.spare, .bool y.told] 26)) from below_new _ _)
  refine hK.out _ _ K10 (fun hHeldN => ?_)
  clear hK K hHeld
  have hHeld := hHeldN
  clear hHeldN
  try simp only [Act.put, List.setIfInBounds_toArray, List.set_cons_zero, List.set_cons_succ]
  refine take_yes (i := 11) (oi := { dst := some 7, op := Op.assign (Operand.tmp 18), type := 4, pos := "l11_addrs.go:117", after := #[{ on := 8, ground := Ground.data }, { on := 10, ground := Ground.chain }, { on := 0, ground := Ground.phase }, { on := 1, ground := Ground.phase }, { on := 2, ground := Ground.phase }, { on := 3, ground := Ground.phase }, { on := 4, ground := Ground.phase }, { on := 5, ground := Ground.phase }, { on := 6, ground := Ground.phase }, { on := 7, ground := Ground.phase }, { on := 8, ground := Ground.phase }, { on := 9, ground := Ground.phase }, { on := 10, ground := Ground.phase }], guard := none }) (v := .bool hs) rfl (by kernel_rfl) (by kernel_rfl) (by kernel_rfl) (fun _ _ _ h => h) (by rfl) (fun w hSw => by (try dsimp only at hSw); go_simp) (by assumption) ?_
  try simp only [Act.put, List.setIfInBounds_toArray, List.set_cons_zero, List.set_cons_succ]
  refine wpAnyH_done (by kernel_rfl) ?_ _
  have hHeld2 := hHeld
  clear hHeld
  generalize World.alloc _ (.cells #[.int .i64 y.id, .int .i64 y.addr, .bool y.spare, .bool y.told] 26) = w2 at *
  clear hlk hS
  go_wp2_with (fail)
  have hS := bd_keep hHeld2 (show Below _ _ (World.drew _) from (Below.refl _ _).drew)
  clear hHeld2
  have hM2 := hS.2.2.2.1
  have hB2 := hS.2.2.2.2
  replace hS := And.intro hS.1 (And.intro hS.2.1 hS.2.2.1)
  refine wp_region_held_drew (S := fun W => W.cell? ⟨bb, 1, none⟩ = some (.map (some bm)) ∧ W.cell? ⟨bk, 0, none⟩ = some (.int .i64 id) ∧ W.cell? ⟨bk, 1, none⟩ = some (.int .i64 0)) (by kernel_rfl) hS (fun hHeld => ?_)
  refine take_yes (i := 0) (oi := { dst := some 19, op := Op.move (Operand.tmp 0), type := 72, pos := "l11_addrs.go:118", after := #[], guard := none }) (v := .pointer (some ⟨bb, 0, none⟩)) rfl (by kernel_rfl) (by kernel_rfl) (by kernel_rfl) (fun _ _ _ h => h) (by rfl) (fun w hSw => by (try dsimp only at hSw); go_simp) (by assumption) ?_
  try simp only [Act.put, List.setIfInBounds_toArray, List.set_cons_zero, List.set_cons_succ]
  refine take_yes (i := 1) (oi := { dst := some 20, op := Op.nilCheck (Operand.tmp 19), type := 0, pos := "l11_addrs.go:118", after := #[{ on := 0, ground := Ground.data }], guard := none }) (v := .pointer (some ⟨bb, 0, none⟩)) rfl (by kernel_rfl) (by kernel_rfl) (by kernel_rfl) (fun _ _ _ h => h) (by rfl) (fun w hSw => by (try dsimp only at hSw); go_simp) (by assumption) ?_
  try simp only [Act.put, List.setIfInBounds_toArray, List.set_cons_zero, List.set_cons_succ]
  refine take_yes (i := 2) (oi := { dst := some 21, op := Op.fieldAddr 56 (Operand.tmp 20) 1, type := 0, pos := "l11_addrs.go:118", after := #[{ on := 1, ground := Ground.data }], guard := none }) (v := .pointer (some ⟨bb, 1, none⟩)) rfl (by kernel_rfl) (by kernel_rfl) (by kernel_rfl) (fun _ _ _ h => h) (by rfl) (fun w hSw => by (try dsimp only at hSw); go_simp) (by assumption) ?_
  try simp only [Act.put, List.setIfInBounds_toArray, List.set_cons_zero, List.set_cons_succ]
  refine take_yes (i := 3) (oi := { dst := some 22, op := Op.load 54 (Operand.tmp 21), type := 54, pos := "l11_addrs.go:118", after := #[{ on := 2, ground := Ground.data }], guard := none }) (v := .map (some bm)) rfl (by kernel_rfl) (by kernel_rfl) (by kernel_rfl) (fun _ _ _ h => h) (by rfl) (fun w hSw => by (try dsimp only at hSw); go_simp) (by assumption) ?_
  try simp only [Act.put, List.setIfInBounds_toArray, List.set_cons_zero, List.set_cons_succ]
  refine take_yes (i := 4) (oi := { dst := some 23, op := Op.load 71 (Operand.tmp 5), type := 71, pos := "l11_addrs.go:118", after := #[], guard := none }) (v := .agg #[.int .i64 id, .int .i64 0]) rfl (by kernel_rfl) (by kernel_rfl) (by kernel_rfl) (fun _ _ _ h => h) (by rfl) (fun w hSw => by (try dsimp only at hSw); go_simp) (by assumption) ?_
  try simp only [Act.put, List.setIfInBounds_toArray, List.set_cons_zero, List.set_cons_succ]
  refine wpAnyH_ready (rs := [5]) (by kernel_rfl) (by simp) ?_
  refine AllReadyH.cons (o := { dst := none, op := Op.call { callee := Callee.builtin Builtin.delete, args := #[Operand.tmp 22, Operand.tmp 23], argTypes := #[54, 71] }, type := 0, pos := "l11_addrs.go:118", after := #[{ on := 3, ground := Ground.data }, { on := 4, ground := Ground.data }], guard := none }) rfl (fun K hK => ?_) AllReadyH.nil
  refine step_mapDel rfl _ _ rfl (id, 0) (by simp [Act.eval, Act.put]) (by simp [Act.eval, Act.put]; rfl) hM2 HH.out.2.2.1 ?_
  intro w3 hm3 hg3 hz3
  have HX := Lib.hid (And.intro ((HH.out.1.kept hB2).turn hm3 hg3 hz3) (BkW.turned (HH.out.2.1.trans (hB2.mono HH.out.1.size)) hg3 (HH.out.1.kept hB2).size HH.out.1.hm))
  have hbkm := hM2.ne (HH.out.2.2.2.kept hB2)
  have hC3 := (HH.out.2.2.2.kept hB2).grown hg3 (fun e => hbkm (by injection e))
  have K9 := And.intro HX.out.1.two.2 (And.intro (cel2a hC3).1 (cel2a hC3).2)
  clear hm3 hg3 hz3 hbkm hC3
  refine hK.out _ _ K9 (fun hHeldN => ?_)
  clear hK K hHeld
  have hHeld := hHeldN
  clear hHeldN
  try simp only [Act.put, List.setIfInBounds_toArray, List.set_cons_zero, List.set_cons_succ]
  refine wpAnyH_done (by kernel_rfl) ?_ _
  have hHeld2 := hHeld
  clear hHeld
  clear hHeld2
  go_wp2_with (fail)
  go_ret
  exact ⟨rfl, HX.out.1, HX.out.2⟩
end Go.Proofs.Ytmfbhejclmelaaa
