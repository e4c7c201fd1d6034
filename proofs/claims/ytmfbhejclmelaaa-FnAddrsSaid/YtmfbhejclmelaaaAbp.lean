import Derived.Test.YtmfbhejclmelaaaAbd
namespace Go.Proofs.Ytmfbhejclmelaaa
open Go.RowKit

/-- While put goes on: the book, the address and its key in their boxes. -/
structure Pt (w W : World) (B bb bm ba bk n : Nat) (u : Value) (order : List Kk) (F : Kk → Option Av) (a : Av) : Prop where
  k : BkW W B bb bm n u order F
  ca : Cel W ba 26 #[.int .i64 a.id, .int .i64 a.addr, .bool a.spare, .bool a.told]
  ck : Cel W bk 71 #[.int .i64 a.id, .int .i64 0]
  b : Below B w W
  la : B ≤ ba
  lk : B ≤ bk
/-- Behind Insert: the new row is not stored yet. -/
structure Pi (w W : World) (B bb bm ba bk n : Nat) (u u' : Value) (order : List Kk) (F : Kk → Option Av) (a : Av) : Prop where
  c : Cel W bb 56 #[u, .map (some bm)]
  o : OwnE kvK W B W.heap.size u' order
  m : MapAt W bm n F
  hb : B ≤ bb
  hm : B ≤ bm
  ok : ∀ k ∈ order, OkK k
  ca : Cel W ba 26 #[.int .i64 a.id, .int .i64 a.addr, .bool a.spare, .bool a.told]
  ck : Cel W bk 71 #[.int .i64 a.id, .int .i64 0]
  b : Below B w W
  la : B ≤ ba
  lk : B ≤ bk
section
variable {w W W' : World} {B bb bm ba bk n : Nat} {u u' : Value} {order order' : List Kk} {F : Kk → Option Av} {a : Av}
theorem Pt.kept (h : Pt w W B bb bm ba bk n u order F a) (hb : Below W.heap.size W W') : Pt w W' B bb bm ba bk n u order F a := ⟨h.k.kept hb, h.ca.kept hb, h.ck.kept hb, h.b.trans (hb.mono h.k.size), h.la, h.lk⟩
theorem Pt.s3 (h : Pt w W B bb bm ba bk n u order F a) : W.cell? ⟨ba, 0, none⟩ = some (.int .i64 a.id) ∧ W.cell? ⟨bk, 0, none⟩ = some (.int .i64 a.id) ∧ W.cell? ⟨bk, 1, none⟩ = some (.int .i64 0) := ⟨h.ca.cell 0, h.ck.cell 0, h.ck.cell 1⟩
theorem Pt.s4 (h : Pt w W B bb bm ba bk n u order F a) : W.cell? ⟨bb, 1, none⟩ = some (.map (some bm)) ∧ W.cell? ⟨bk, 0, none⟩ = some (.int .i64 a.id) ∧ W.cell? ⟨bk, 1, none⟩ = some (.int .i64 0) ∧ W.cell? ⟨ba, 0, none⟩ = some (.int .i64 a.id) ∧ W.cell? ⟨ba, 1, none⟩ = some (.int .i64 a.addr) ∧ W.cell? ⟨ba, 2, none⟩ = some (.bool a.spare) ∧ W.cell? ⟨ba, 3, none⟩ = some (.bool a.told) := ⟨h.k.two.2, h.ck.cell 0, h.ck.cell 1, h.ca.cell 0, h.ca.cell 1, h.ca.cell 2, h.ca.cell 3⟩
theorem Pt.drew (h : Pt w W B bb bm ba bk n u order F a) : Pt w W.drew B bb bm ba bk n u order F a := h.kept (show Below _ _ (World.drew _) from (Below.refl _ _).drew)
theorem Pt.turn {F' : Kk → Option Av} {n' : Nat} (h : Pt w W B bb bm ba bk n u order F a) (hm : MapAt W' bm n' F') (hg : W.grownBy W' (some bm)) (hz : W'.heap.size = W.heap.size) : Pt w W' B bb bm ba bk n' u order F' a :=
  ⟨h.k.turn hm hg hz, h.ca.grown hg (fun e => h.k.m.ne h.ca (by injection e)), h.ck.grown hg (fun e => h.k.m.ne h.ck (by injection e)), BkW.turned h.b hg h.k.size h.k.hm, h.la, h.lk⟩
theorem Pt.ins (h : Pt w W B bb bm ba bk n u order F a) (ho : OwnE kvK W' B W'.heap.size u' order') (hg : W.grownBy W' u.ownBlock) (hok : ∀ k ∈ order', OkK k) (hne : ∀ g, u.ownBlock = some g → g ≠ ba ∧ g ≠ bk) : Pi w W' B bb bm ba bk n u u' order' F a := by
  have h1 := h.k.ob
  refine ⟨h.k.c.grown hg (fun e => (h1 _ e.symm).2 rfl), ho, h.k.m.keepAt (hg.block _ h.k.m.lt (fun e => (h1 _ e.symm).1 rfl)), h.k.hb, h.k.hm, hok, h.ca.grown hg (fun e => (hne _ e.symm).1 rfl), h.ck.grown hg (fun e => (hne _ e.symm).2 rfl), ?_, h.la, h.lk⟩
  exact h.b.grown hg h.k.size (fun k hk => (h.k.o.block k hk).1)
theorem Pi.s3 (h : Pi w W B bb bm ba bk n u u' order F a) : W.cell? ⟨ba, 0, none⟩ = some (.int .i64 a.id) ∧ W.cell? ⟨bk, 0, none⟩ = some (.int .i64 a.id) ∧ W.cell? ⟨bk, 1, none⟩ = some (.int .i64 0) := ⟨h.ca.cell 0, h.ck.cell 0, h.ck.cell 1⟩
theorem Pi.cell (h : Pi w W B bb bm ba bk n u u' order F a) : W.cell? ⟨bb, 0, none⟩ = some u ∧ W.frozen? ⟨bb, 0, none⟩ = false := ⟨h.c.cell 0, h.c.frozen 0⟩
theorem Cel.types {g1 g2 : Nat} {t1 t2 : TypeId} {c1 c2 : Array Value} (h1 : Cel W g1 t1 c1) (h2 : Cel W g2 t2 c2) (ht : t1 ≠ t2) : g1 ≠ g2 := by
  rintro rfl
  have e1 : W.heap[g1]? = _ := h1
  have e2 : W.heap[g1]? = _ := h2
  rw [e1] at e2
  injection e2 with e2
  injection e2 with _ e2
  exact ht e2
theorem Pi.store (h : Pi w W B bb bm ba bk n u u' order F a) : Pt w (W.setCell ⟨bb, 0, none⟩ u') B bb bm ba bk n u' order F a := by
  have hs := h.c.set 0 u'
  refine ⟨⟨by simpa using hs, ?_, h.m.keepAt (Below.heap_setCell _ _ _ _ (fun e => h.m.ne h.c e.symm)), h.hb, h.hm, h.ok⟩, h.ca.other _ _ (Cel.types h.ca h.c (by decide)), h.ck.other _ _ (Cel.types h.ck h.c (by decide)), h.b.setCell (p := ⟨bb, 0, none⟩) h.hb u', h.la, h.lk⟩
  rw [show (W.setCell ⟨bb, 0, none⟩ u').heap.size = W.heap.size by simp]
  refine h.o.keepAt (fun g hg => Below.heap_setCell _ _ _ _ ?_)
  rcases h.o.1.2 with ⟨rfl, _⟩ | ⟨g', cap, cur, rfl, -, hh, -⟩
  · cases hg
  · simp [Value.ownBlock] at hg
    subst hg
    exact Cel.types (t1 := kvK.t) hh h.c (by decide)
end
theorem ok_ins {order : List Kk} {k : Kk} (h : ∀ x ∈ order, OkK x) (hk : OkK k) (p : Nat) : ∀ x ∈ order.take p ++ k :: order.drop p, OkK x := fun x hx => by
  rcases List.mem_append.1 hx with hx | hx
  · exact h x (List.mem_of_mem_take hx)
  · rcases List.mem_cons.1 hx with rfl | hx
    · exact hk
    · exact h x (List.mem_of_mem_drop hx)
/-- The book's keys once an Id was put. -/
def orderP (order : List Kk) (id : Int) : List Kk := if (id, 0) ∈ order then order else order.take (placeK id order) ++ (id, 0) :: order.drop (placeK id order)
theorem orderP_len (order : List Kk) (id : Int) : (orderP order id).length ≤ order.length + 1 := by
  unfold orderP
  have := placeK_le id order
  split
  · omega
  · simp; omega

set_option linter.unusedSimpArgs false in
set_option maxRecDepth 100000 in
set_option maxHeartbeats 8000000 in
theorem impl_put (bb bm n B : Nat) (u : Value) (order : List Kk) (F : Kk → Option Av) (a : Av) (w : World) (h : BkW w B bb bm n u order F) (hid : (Lit.int .i64 a.id).wf = true) (hn : order.length ≤ 1048576) (hnn : n < maxLen) :
    Calls Try.prog 37 #[.pointer (some ⟨bb, 0, none⟩), .agg #[.int .i64 a.id, .int .i64 a.addr, .bool a.spare, .bool a.told]] w fun e w' => e = .returned (.tuple #[]) ∧ ∃ u', BkW w' B bb bm (n + 1) u' (orderP order a.id) (upd F (a.id, 0) (some a)) ∧ Below B w w' := by
  have hok := okK_zero hid
  have hu : ∀ g, u.ownBlock = some g → g < w.heap.size := fun g hg => (h.o.block g hg).2
  have hp := placeK_le a.id order
  have hb1 := below_av w a
  have hb2 := below_new (w.alloc (.cells #[.int .i64 a.id, .int .i64 a.addr, .bool a.spare, .bool a.told] 26)) (.cells #[.int .i64 a.id, .int .i64 0] 71)
  have hP : Pt w ((w.alloc (.cells #[.int .i64 a.id, .int .i64 a.addr, .bool a.spare, .bool a.told] 26)).alloc (.cells #[.int .i64 a.id, .int .i64 0] 71)) B bb bm w.heap.size (w.heap.size + 1) n u order F a := by
    refine ⟨(h.kept hb1).kept hb2, (Cel.new w _ _).alloc _, ?_, (Below.then_ hb1 hb2).mono h.size, h.size, Nat.le_succ_of_le h.size⟩
    have := Cel.new (w.alloc (.cells #[.int .i64 a.id, .int .i64 a.addr, .bool a.spare, .bool a.told] 26)) 71 #[.int .i64 a.id, .int .i64 0]
    rw [World.size_alloc] at this
    exact this
  have cC : ∀ W, RdE kvK W u order → Calls Try.prog 48 #[u, .agg #[.int .i64 a.id, .int .i64 0]] W fun e w' => e = .returned (.bool (decide ((a.id, 0) ∈ order))) ∧ Below W.heap.size W w' := fun W h => contains_key u order (a.id, 0) W h (by omega)
  have cP := fun W h1 h2 => impl_placeOf bb u order a.id W h1 h2 (by omega)
  have cI : ∀ W gs, OwnE kvK W B W.heap.size u order → B ≤ W.heap.size → Cel W gs 71 #[.int .i64 a.id, .int .i64 0] → (∀ g, u.ownBlock = some g → g ≠ gs) → Calls Try.prog 49 #[u, .int .i64 (placeK a.id order : Int), .slice (some ⟨gs, 0, none⟩) 1 1] W fun e w' => ∃ v', e = .returned v' ∧ OwnE kvK w' B w'.heap.size v' (order.take (placeK a.id order) ++ (a.id, 0) :: order.drop (placeK a.id order)) ∧ W.grownBy w' u.ownBlock :=
    fun W gs h1 h2 h3 h4 => insert_key u order (a.id, 0) (placeK a.id order) gs B W h1 h2 hp h3 (fun e => h4 _ e rfl) hn
  have hne : ∀ g, u.ownBlock = some g → g ≠ w.heap.size ∧ g ≠ w.heap.size + 1 := fun g hg => by have := hu g hg; omega
  obtain ⟨od, hod⟩ : ∃ od, orderP order a.id = od := ⟨_, rfl⟩
  rw [hod]
  unfold orderP at hod
  have HOD := Lib.hid hod
  clear hod
  have HU := Lib.hid (And.intro hu (And.intro hok (And.intro hnn hne)))
  obtain ⟨ua, uc, rfl, -⟩ := h.o.form
  clear h hu hb1 hb2 hnn hne hid
  go_enter Try.func37, Try.ntmps37
  go_wp2_with (fail)
  have hlt0 : w.heap.size + 1 < ((w.alloc (.cells #[.int .i64 a.id, .int .i64 a.addr, .bool a.spare, .bool a.told] 26)).alloc (.cells #[.int .i64 a.id, .int .i64 0] 71)).heap.size := by simp
  generalize (w.alloc (.cells #[.int .i64 a.id, .int .i64 a.addr, .bool a.spare, .bool a.told] 26)).alloc (.cells #[.int .i64 a.id, .int .i64 0] 71) = w1 at *
  have HLT := Lib.hid hlt0
  obtain ⟨ba, hba⟩ : ∃ ba, w.heap.size = ba := ⟨_, rfl⟩
  rw [hba] at hP HU HLT ⊢
  generalize hbk : ba + 1 = bk at hP HU HLT ⊢
  have HBK := Lib.hid hbk
  clear hbk hlt0 hba
  have HP1 := Lib.hid hP
  have hS := (fun (P : Pt w w1.drew B bb bm ba bk n (.slice ua order.length uc) order F a) => (⟨P.k.two.1, P.ck.cell 0, P.ck.cell 1, (Below.refl _ _).drew⟩ : w1.drew.cell? ⟨bb, 0, none⟩ = some (.slice ua order.length uc) ∧ w1.drew.cell? ⟨bk, 0, none⟩ = some (.int .i64 a.id) ∧ w1.drew.cell? ⟨bk, 1, none⟩ = some (.int .i64 0) ∧ Below w1.heap.size w1 w1.drew)) hP.drew
  clear hP
  by_cases hd : (a.id, 0) ∈ order
  · have HOE := Lib.hid ((if_pos hd).symm.trans HOD.out)
    rw [decide_eq_true hd] at cC
    clear hd cI
    refine wp_region_held_drew (S := fun W => W.cell? ⟨bb, 0, none⟩ = some (.slice ua order.length uc) ∧ W.cell? ⟨bk, 0, none⟩ = some (.int .i64 a.id) ∧ W.cell? ⟨bk, 1, none⟩ = some (.int .i64 0) ∧ Below w1.heap.size w1 W) (by kernel_rfl) hS (fun hHeld => ?_)
    refine take_yes (i := 0) (oi := { dst := some 8, op := Op.move (Operand.tmp 0), type := 72, pos := "l11_addrs.go:98", after := #[], guard := none }) (v := .pointer (some ⟨bb, 0, none⟩)) rfl (by kernel_rfl) (by kernel_rfl) (by kernel_rfl) (fun _ _ _ h => h) (by rfl) (fun w hSw => by (try dsimp only at hSw); go_simp) (by assumption) ?_
    try simp only [Act.put, List.setIfInBounds_toArray, List.set_cons_zero, List.set_cons_succ]
    refine take_yes (i := 1) (oi := { dst := some 9, op := Op.nilCheck (Operand.tmp 8), type := 0, pos := "l11_addrs.go:98", after := #[{ on := 0, ground := Ground.data }], guard := none }) (v := .pointer (some ⟨bb, 0, none⟩)) rfl (by kernel_rfl) (by kernel_rfl) (by kernel_rfl) (fun _ _ _ h => h) (by rfl) (fun w hSw => by (try dsimp only at hSw); go_simp) (by assumption) ?_
    try simp only [Act.put, List.setIfInBounds_toArray, List.set_cons_zero, List.set_cons_succ]
    refine take_yes (i := 2) (oi := { dst := some 10, op := Op.fieldAddr 56 (Operand.tmp 9) 0, type := 0, pos := "l11_addrs.go:98", after := #[{ on := 1, ground := Ground.data }], guard := none }) (v := .pointer (some ⟨bb, 0, none⟩)) rfl (by kernel_rfl) (by kernel_rfl) (by kernel_rfl) (fun _ _ _ h => h) (by rfl) (fun w hSw => by (try dsimp only at hSw); go_simp) (by assumption) ?_
    try simp only [Act.put, List.setIfInBounds_toArray, List.set_cons_zero, List.set_cons_succ]
    refine take_yes (i := 3) (oi := { dst := some 11, op := Op.load 53 (Operand.tmp 10), type := 53, pos := "l11_addrs.go:98", after := #[{ on := 2, ground := Ground.data }], guard := none }) (v := .slice ua order.length uc) rfl (by kernel_rfl) (by kernel_rfl) (by kernel_rfl) (fun _ _ _ h => h) (by rfl) (fun w hSw => by (try dsimp only at hSw); go_simp) (by assumption) ?_
    try simp only [Act.put, List.setIfInBounds_toArray, List.set_cons_zero, List.set_cons_succ]
    refine take_yes (i := 4) (oi := { dst := some 12, op := Op.load 71 (Operand.tmp 4), type := 71, pos := "l11_addrs.go:98", after := #[], guard := none }) (v := .agg #[.int .i64 a.id, .int .i64 0]) rfl (by kernel_rfl) (by kernel_rfl) (by kernel_rfl) (fun _ _ _ h => h) (by rfl) (fun w hSw => by (try dsimp only at hSw); go_simp) (by assumption) ?_
    try simp only [Act.put, List.setIfInBounds_toArray, List.set_cons_zero, List.set_cons_succ]
    refine wpAnyH_ready (rs := [5]) (by kernel_rfl) (by simp) ?_
    refine AllReadyH.cons (o := { dst := some 13, op := Op.call { callee := Callee.value (Operand.func 48), args := #[Operand.tmp 11, Operand.tmp 12], argTypes := #[53, 71] }, type := 4, pos := "l11_addrs.go:98", after := #[{ on := 3, ground := Ground.data }, { on := 4, ground := Ground.data }], guard := none }) rfl (fun K hK => ?_) AllReadyH.nil
    go_simp
    with_reducible refine (cC _ (HP1.out.kept hHeld.2.2.2).k.o.rd).mono ?_
    rintro e w2 ⟨rfl, hb2⟩
    have HP2 := Lib.hid (HP1.out.kept (Below.then_ hHeld.2.2.2 hb2))
    have hbs2 := (Below.then_ hHeld.2.2.2 hb2).size
    have HLT2 := Lib.hid (Nat.lt_of_lt_of_le HLT.out hbs2)
    have K2 := (⟨HP2.out.k.two.1, HP2.out.ck.cell 0, HP2.out.ck.cell 1, Below.then_ hHeld.2.2.2 hb2⟩ : w2.cell? ⟨bb, 0, none⟩ = some (.slice ua order.length uc) ∧ w2.cell? ⟨bk, 0, none⟩ = some (.int .i64 a.id) ∧ w2.cell? ⟨bk, 1, none⟩ = some (.int .i64 0) ∧ Below w1.heap.size w1 w2)
    clear HLT hb2 hbs2 HP1
    have HLT := HLT2
    clear HLT2
    refine hK.out _ _ K2 (fun hHeldN => ?_)
    clear hK K hHeld
    have hHeld := hHeldN
    clear hHeldN
    try simp only [Act.put, List.setIfInBounds_toArray, List.set_cons_zero, List.set_cons_succ]
    refine take_yes (i := 6) (oi := { dst := some 14, op := Op.unOp UnOp.not 4 (Operand.tmp 13), type := 4, pos := "l11_addrs.go:98", after := #[{ on := 5, ground := Ground.data }], guard := none }) (v := .bool false) rfl (by kernel_rfl) (by kernel_rfl) (by kernel_rfl) (fun _ _ _ h => h) (by rfl) (fun w hSw => by (try dsimp only at hSw); go_simp) (by assumption) ?_
    try simp only [Act.put, List.setIfInBounds_toArray, List.set_cons_zero, List.set_cons_succ]
    refine wpAnyH_done (by kernel_rfl) ?_ _
    have hHeld2 := hHeld
    clear hHeld
    clear hHeld2 K2 cC hS
    clear cP hp HLT
    go_wp2_with (fail)
    have HP4 := Lib.hid HP2.out.drew
    have hS4 := HP4.out.s4
    refine wp_region_held_drew (S := fun W => W.cell? ⟨bb, 1, none⟩ = some (.map (some bm)) ∧ W.cell? ⟨bk, 0, none⟩ = some (.int .i64 a.id) ∧ W.cell? ⟨bk, 1, none⟩ = some (.int .i64 0) ∧ W.cell? ⟨ba, 0, none⟩ = some (.int .i64 a.id) ∧ W.cell? ⟨ba, 1, none⟩ = some (.int .i64 a.addr) ∧ W.cell? ⟨ba, 2, none⟩ = some (.bool a.spare) ∧ W.cell? ⟨ba, 3, none⟩ = some (.bool a.told)) (by kernel_rfl) hS4 (fun hHeld => ?_)
    refine take_yes (i := 0) (oi := { dst := some 29, op := Op.move (Operand.tmp 0), type := 72, pos := "l11_addrs.go:101", after := #[], guard := none }) (v := .pointer (some ⟨bb, 0, none⟩)) rfl (by kernel_rfl) (by kernel_rfl) (by kernel_rfl) (fun _ _ _ h => h) (by rfl) (fun w hSw => by (try dsimp only at hSw); go_simp) (by assumption) ?_
    try simp only [Act.put, List.setIfInBounds_toArray, List.set_cons_zero, List.set_cons_succ]
    refine take_yes (i := 1) (oi := { dst := some 30, op := Op.nilCheck (Operand.tmp 29), type := 0, pos := "l11_addrs.go:101", after := #[{ on := 0, ground := Ground.data }], guard := none }) (v := .pointer (some ⟨bb, 0, none⟩)) rfl (by kernel_rfl) (by kernel_rfl) (by kernel_rfl) (fun _ _ _ h => h) (by rfl) (fun w hSw => by (try dsimp only at hSw); go_simp) (by assumption) ?_
    try simp only [Act.put, List.setIfInBounds_toArray, List.set_cons_zero, List.set_cons_succ]
    refine take_yes (i := 2) (oi := { dst := some 31, op := Op.fieldAddr 56 (Operand.tmp 30) 1, type := 0, pos := "l11_addrs.go:101", after := #[{ on := 1, ground := Ground.data }], guard := none }) (v := .pointer (some ⟨bb, 1, none⟩)) rfl (by kernel_rfl) (by kernel_rfl) (by kernel_rfl) (fun _ _ _ h => h) (by rfl) (fun w hSw => by (try dsimp only at hSw); go_simp) (by assumption) ?_
    try simp only [Act.put, List.setIfInBounds_toArray, List.set_cons_zero, List.set_cons_succ]
    refine take_yes (i := 3) (oi := { dst := some 32, op := Op.load 54 (Operand.tmp 31), type := 54, pos := "l11_addrs.go:101", after := #[{ on := 2, ground := Ground.data }], guard := none }) (v := .map (some bm)) rfl (by kernel_rfl) (by kernel_rfl) (by kernel_rfl) (fun _ _ _ h => h) (by rfl) (fun w hSw => by (try dsimp only at hSw); go_simp) (by assumption) ?_
    try simp only [Act.put, List.setIfInBounds_toArray, List.set_cons_zero, List.set_cons_succ]
    refine take_yes (i := 4) (oi := { dst := some 33, op := Op.load 71 (Operand.tmp 4), type := 71, pos := "l11_addrs.go:101", after := #[], guard := none }) (v := .agg #[.int .i64 a.id, .int .i64 0]) rfl (by kernel_rfl) (by kernel_rfl) (by kernel_rfl) (fun _ _ _ h => h) (by rfl) (fun w hSw => by (try dsimp only at hSw); go_simp) (by assumption) ?_
    try simp only [Act.put, List.setIfInBounds_toArray, List.set_cons_zero, List.set_cons_succ]
    refine take_yes (i := 5) (oi := { dst := some 34, op := Op.load 26 (Operand.tmp 3), type := 26, pos := "l11_addrs.go:101", after := #[], guard := none }) (v := .agg #[.int .i64 a.id, .int .i64 a.addr, .bool a.spare, .bool a.told]) rfl (by kernel_rfl) (by kernel_rfl) (by kernel_rfl) (fun _ _ _ h => h) (by rfl) (fun w hSw => by (try dsimp only at hSw); go_simp) (by assumption) ?_
    try simp only [Act.put, List.setIfInBounds_toArray, List.set_cons_zero, List.set_cons_succ]
    refine wpAnyH_ready (rs := [6]) (by kernel_rfl) (by simp) ?_
    refine AllReadyH.cons (o := { dst := none, op := Op.mapUpdate 54 (Operand.tmp 32) (Operand.tmp 33) (Operand.tmp 34), type := 0, pos := "l11_addrs.go:101", after := #[{ on := 3, ground := Ground.data }, { on := 4, ground := Ground.data }, { on := 5, ground := Ground.data }, { on := 0, ground := Ground.phase }, { on := 1, ground := Ground.phase }, { on := 2, ground := Ground.phase }, { on := 3, ground := Ground.phase }, { on := 4, ground := Ground.phase }, { on := 5, ground := Ground.phase }], guard := none }) rfl (fun K hK => ?_) AllReadyH.nil
    refine step_mapPut rfl _ _ _ rfl (a.id, 0) a (by simp [Act.eval, Act.put]) (by simp [Act.eval, Act.put]; rfl) (by simp [Act.eval, Act.put]; rfl) HP4.out.k.m HU.out.2.1 HU.out.2.2.1 ?_
    intro w5 hm5 hg5 hz5
    have HP5 := Lib.hid (HP4.out.turn hm5 hg5 hz5)
    clear hm5 hg5 hz5
    refine hK.out _ _ HP5.out.s4 (fun hHeldN => ?_)
    clear hK K hHeld
    have hHeld := hHeldN
    clear hHeldN
    try simp only [Act.put, List.setIfInBounds_toArray, List.set_cons_zero, List.set_cons_succ]
    refine wpAnyH_done (by kernel_rfl) ?_ _
    have hHeld2 := hHeld
    clear hHeld
    clear hHeld2
    go_wp2_with (fail)
    refine bodyPost_end (results_none rfl _ _ _) rfl ?_
    exact ⟨rfl, _, HOE.out ▸ HP5.out.k, HP5.out.b⟩
  · have HOE := Lib.hid ((if_neg hd).symm.trans HOD.out)
    rw [decide_eq_false hd] at cC
    rw [HOE.out] at cI
    clear hd
    refine wp_region_held_drew (S := fun W => W.cell? ⟨bb, 0, none⟩ = some (.slice ua order.length uc) ∧ W.cell? ⟨bk, 0, none⟩ = some (.int .i64 a.id) ∧ W.cell? ⟨bk, 1, none⟩ = some (.int .i64 0) ∧ Below w1.heap.size w1 W) (by kernel_rfl) hS (fun hHeld => ?_)
    refine take_yes (i := 0) (oi := { dst := some 8, op := Op.move (Operand.tmp 0), type := 72, pos := "l11_addrs.go:98", after := #[], guard := none }) (v := .pointer (some ⟨bb, 0, none⟩)) rfl (by kernel_rfl) (by kernel_rfl) (by kernel_rfl) (fun _ _ _ h => h) (by rfl) (fun w hSw => by (try dsimp only at hSw); go_simp) (by assumption) ?_
    try simp only [Act.put, List.setIfInBounds_toArray, List.set_cons_zero, List.set_cons_succ]
    refine take_yes (i := 1) (oi := { dst := some 9, op := Op.nilCheck (Operand.tmp 8), type := 0, pos := "l11_addrs.go:98", after := #[{ on := 0, ground := Ground.data }], guard := none }) (v := .pointer (some ⟨bb, 0, none⟩)) rfl (by kernel_rfl) (by kernel_rfl) (by kernel_rfl) (fun _ _ _ h => h) (by rfl) (fun w hSw => by (try dsimp only at hSw); go_simp) (by assumption) ?_
    try simp only [Act.put, List.setIfInBounds_toArray, List.set_cons_zero, List.set_cons_succ]
    refine take_yes (i := 2) (oi := { dst := some 10, op := Op.fieldAddr 56 (Operand.tmp 9) 0, type := 0, pos := "l11_addrs.go:98", after := #[{ on := 1, ground := Ground.data }], guard := none }) (v := .pointer (some ⟨bb, 0, none⟩)) rfl (by kernel_rfl) (by kernel_rfl) (by kernel_rfl) (fun _ _ _ h => h) (by rfl) (fun w hSw => by (try dsimp only at hSw); go_simp) (by assumption) ?_
    try simp only [Act.put, List.setIfInBounds_toArray, List.set_cons_zero, List.set_cons_succ]
    refine take_yes (i := 3) (oi := { dst := some 11, op := Op.load 53 (Operand.tmp 10), type := 53, pos := "l11_addrs.go:98", after := #[{ on := 2, ground := Ground.data }], guard := none }) (v := .slice ua order.length uc) rfl (by kernel_rfl) (by kernel_rfl) (by kernel_rfl) (fun _ _ _ h => h) (by rfl) (fun w hSw => by (try dsimp only at hSw); go_simp) (by assumption) ?_
    try simp only [Act.put, List.setIfInBounds_toArray, List.set_cons_zero, List.set_cons_succ]
    refine take_yes (i := 4) (oi := { dst := some 12, op := Op.load 71 (Operand.tmp 4), type := 71, pos := "l11_addrs.go:98", after := #[], guard := none }) (v := .agg #[.int .i64 a.id, .int .i64 0]) rfl (by kernel_rfl) (by kernel_rfl) (by kernel_rfl) (fun _ _ _ h => h) (by rfl) (fun w hSw => by (try dsimp only at hSw); go_simp) (by assumption) ?_
    try simp only [Act.put, List.setIfInBounds_toArray, List.set_cons_zero, List.set_cons_succ]
    refine wpAnyH_ready (rs := [5]) (by kernel_rfl) (by simp) ?_
    refine AllReadyH.cons (o := { dst := some 13, op := Op.call { callee := Callee.value (Operand.func 48), args := #[Operand.tmp 11, Operand.tmp 12], argTypes := #[53, 71] }, type := 4, pos := "l11_addrs.go:98", after := #[{ on := 3, ground := Ground.data }, { on := 4, ground := Ground.data }], guard := none }) rfl (fun K hK => ?_) AllReadyH.nil
    go_simp
    with_reducible refine (cC _ (HP1.out.kept hHeld.2.2.2).k.o.rd).mono ?_
    rintro e w2 ⟨rfl, hb2⟩
    have HP2 := Lib.hid (HP1.out.kept (Below.then_ hHeld.2.2.2 hb2))
    have hbs2 := (Below.then_ hHeld.2.2.2 hb2).size
    have HLT2 := Lib.hid (Nat.lt_of_lt_of_le HLT.out hbs2)
    have K2 := (⟨HP2.out.k.two.1, HP2.out.ck.cell 0, HP2.out.ck.cell 1, Below.then_ hHeld.2.2.2 hb2⟩ : w2.cell? ⟨bb, 0, none⟩ = some (.slice ua order.length uc) ∧ w2.cell? ⟨bk, 0, none⟩ = some (.int .i64 a.id) ∧ w2.cell? ⟨bk, 1, none⟩ = some (.int .i64 0) ∧ Below w1.heap.size w1 w2)
    clear HLT hb2 hbs2 HP1
    have HLT := HLT2
    clear HLT2
    refine hK.out _ _ K2 (fun hHeldN => ?_)
    clear hK K hHeld
    have hHeld := hHeldN
    clear hHeldN
    try simp only [Act.put, List.setIfInBounds_toArray, List.set_cons_zero, List.set_cons_succ]
    refine take_yes (i := 6) (oi := { dst := some 14, op := Op.unOp UnOp.not 4 (Operand.tmp 13), type := 4, pos := "l11_addrs.go:98", after := #[{ on := 5, ground := Ground.data }], guard := none }) (v := .bool true) rfl (by kernel_rfl) (by kernel_rfl) (by kernel_rfl) (fun _ _ _ h => h) (by rfl) (fun w hSw => by (try dsimp only at hSw); go_simp) (by assumption) ?_
    try simp only [Act.put, List.setIfInBounds_toArray, List.set_cons_zero, List.set_cons_succ]
    refine wpAnyH_done (by kernel_rfl) ?_ _
    have hHeld2 := hHeld
    clear hHeld
    clear hHeld2 K2 cC hS
    go_wp2_with (fail)
    have HPd := Lib.hid HP2.out.drew
    have hS3 := HPd.out.s3
    refine wp_region_held_drew (S := fun W => W.cell? ⟨ba, 0, none⟩ = some (.int .i64 a.id) ∧ W.cell? ⟨bk, 0, none⟩ = some (.int .i64 a.id) ∧ W.cell? ⟨bk, 1, none⟩ = some (.int .i64 0)) (by kernel_rfl) hS3 (fun hHeld => ?_)
    clear hS3 HP2
    have HLTd := Lib.hid (show bk < w2.drew.heap.size from HLT.out)
    clear HLT
    have HLT := HLTd
    clear HLTd
    generalize w2.drew = wd at *
    refine take_yes (i := 0) (oi := { dst := some 15, op := Op.move (Operand.tmp 0), type := 72, pos := "l11_addrs.go:99", after := #[], guard := none }) (v := .pointer (some ⟨bb, 0, none⟩)) rfl (by kernel_rfl) (by kernel_rfl) (by kernel_rfl) (fun _ _ _ h => h) (by rfl) (fun w hSw => by (try dsimp only at hSw); go_simp) (by assumption) ?_
    try simp only [Act.put, List.setIfInBounds_toArray, List.set_cons_zero, List.set_cons_succ]
    refine take_yes (i := 1) (oi := { dst := some 16, op := Op.move (Operand.tmp 0), type := 72, pos := "l11_addrs.go:99", after := #[], guard := none }) (v := .pointer (some ⟨bb, 0, none⟩)) rfl (by kernel_rfl) (by kernel_rfl) (by kernel_rfl) (fun _ _ _ h => h) (by rfl) (fun w hSw => by (try dsimp only at hSw); go_simp) (by assumption) ?_
    try simp only [Act.put, List.setIfInBounds_toArray, List.set_cons_zero, List.set_cons_succ]
    refine take_yes (i := 2) (oi := { dst := some 17, op := Op.nilCheck (Operand.tmp 16), type := 0, pos := "l11_addrs.go:99", after := #[{ on := 1, ground := Ground.data }], guard := none }) (v := .pointer (some ⟨bb, 0, none⟩)) rfl (by kernel_rfl) (by kernel_rfl) (by kernel_rfl) (fun _ _ _ h => h) (by rfl) (fun w hSw => by (try dsimp only at hSw); go_simp) (by assumption) ?_
    try simp only [Act.put, List.setIfInBounds_toArray, List.set_cons_zero, List.set_cons_succ]
    refine take_yes (i := 3) (oi := { dst := some 18, op := Op.fieldAddr 56 (Operand.tmp 17) 0, type := 0, pos := "l11_addrs.go:99", after := #[{ on := 2, ground := Ground.data }], guard := none }) (v := .pointer (some ⟨bb, 0, none⟩)) rfl (by kernel_rfl) (by kernel_rfl) (by kernel_rfl) (fun _ _ _ h => h) (by rfl) (fun w hSw => by (try dsimp only at hSw); go_simp) (by assumption) ?_
    try simp only [Act.put, List.setIfInBounds_toArray, List.set_cons_zero, List.set_cons_succ]
    refine take_yes (i := 5) (oi := { dst := some 20, op := Op.move (Operand.tmp 0), type := 72, pos := "l11_addrs.go:99", after := #[], guard := none }) (v := .pointer (some ⟨bb, 0, none⟩)) rfl (by kernel_rfl) (by kernel_rfl) (by kernel_rfl) (fun _ _ _ h => h) (by rfl) (fun w hSw => by (try dsimp only at hSw); go_simp) (by assumption) ?_
    try simp only [Act.put, List.setIfInBounds_toArray, List.set_cons_zero, List.set_cons_succ]
    refine take_yes (i := 6) (oi := { dst := some 21, op := Op.fieldAddr 26 (Operand.tmp 3) 0, type := 0, pos := "l11_addrs.go:99", after := #[], guard := none }) (v := .pointer (some ⟨ba, 0, none⟩)) rfl (by kernel_rfl) (by kernel_rfl) (by kernel_rfl) (fun _ _ _ h => h) (by rfl) (fun w hSw => by (try dsimp only at hSw); go_simp) (by assumption) ?_
    try simp only [Act.put, List.setIfInBounds_toArray, List.set_cons_zero, List.set_cons_succ]
    refine take_yes (i := 7) (oi := { dst := some 22, op := Op.load 3 (Operand.tmp 21), type := 3, pos := "l11_addrs.go:99", after := #[{ on := 6, ground := Ground.data }], guard := none }) (v := .int .i64 a.id) rfl (by kernel_rfl) (by kernel_rfl) (by kernel_rfl) (fun _ _ _ h => h) (by rfl) (fun w hSw => by (try dsimp only at hSw); go_simp) (by assumption) ?_
    try simp only [Act.put, List.setIfInBounds_toArray, List.set_cons_zero, List.set_cons_succ]
    refine take_yes (i := 9) (oi := { dst := some 24, op := Op.load 71 (Operand.tmp 4), type := 71, pos := "l11_addrs.go:99", after := #[], guard := none }) (v := .agg #[.int .i64 a.id, .int .i64 0]) rfl (by kernel_rfl) (by kernel_rfl) (by kernel_rfl) (fun _ _ _ h => h) (by rfl) (fun w hSw => by (try dsimp only at hSw); go_simp) (by assumption) ?_
    try simp only [Act.put, List.setIfInBounds_toArray, List.set_cons_zero, List.set_cons_succ]
    refine wpAnyH_ready (rs := [4, 8, 10]) (by kernel_rfl) (by simp) ?_
    refine AllReadyH.cons (o := { dst := some 19, op := Op.load 53 (Operand.tmp 18), type := 53, pos := "l11_addrs.go:99", after := #[{ on := 3, ground := Ground.data }], guard := none }) rfl (fun K hK => ?_) ?_
    · have u0 := HPd.out.k.two.1
      go_simp
      clear u0
      refine hK.out _ _ hHeld (fun hHeldN => ?_)
      clear hK K hHeld
      have hHeld := hHeldN
      clear hHeldN
      try simp only [Act.put, List.setIfInBounds_toArray, List.set_cons_zero, List.set_cons_succ]
      refine wpAnyH_ready (rs := [8, 10]) (by kernel_rfl) (by simp) ?_
      refine AllReadyH.cons (o := { dst := some 23, op := Op.call { callee := Callee.value (Operand.func 50), args := #[Operand.tmp 20, Operand.tmp 22], argTypes := #[72, 3] }, type := 3, pos := "l11_addrs.go:99", after := #[{ on := 5, ground := Ground.data }, { on := 7, ground := Ground.data }], guard := none }) rfl (fun K hK => ?_) ?_
      · go_simp
        with_reducible refine (cP _ HPd.out.k.two.1 HPd.out.k.o.rd).mono ?_
        rintro e wq1 ⟨rfl, hb8⟩
        have HQ1 := Lib.hid (HPd.out.kept hb8)
        have hbs8 : wd.heap.size ≤ wq1.heap.size := hb8.size
        have HLT2 := Lib.hid (Nat.lt_of_lt_of_le HLT.out hbs8)
        clear HLT hb8 hbs8 HPd
        have HLT := HLT2
        clear HLT2
        refine hK.out _ _ HQ1.out.s3 (fun hHeldN => ?_)
        clear hK K hHeld
        have hHeld := hHeldN
        clear hHeldN
        try simp only [Act.put, List.setIfInBounds_toArray, List.set_cons_zero, List.set_cons_succ]
        refine wpAnyH_ready (rs := [10]) (by kernel_rfl) (by simp) ?_
        refine AllReadyH.cons (o := { dst := some 25, op := Op.buildSlice 53 1 #[(0, Operand.tmp 24)], type := 53, pos := "l11_addrs.go:99", after := #[{ on := 9, ground := Ground.data }], guard := none }) rfl (fun K hK => ?_) AllReadyH.nil
        go_simp
        have hbS := below_new wq1 (.cells #[.int .i64 a.id, .int .i64 0] 71)
        have HQ2 := Lib.hid (HQ1.out.kept hbS)
        have HGS := Lib.hid (And.intro (Cel.new wq1 71 #[.int .i64 a.id, .int .i64 0]) (show ∀ g, (Value.slice ua order.length uc).ownBlock = some g → g ≠ wq1.heap.size from fun g hg => by have h1 := HU.out.1 g hg; have h2 := HLT.out; have h3 := HBK.out; omega))
        have hbs8 := hbS.size
        have HLT2 := Lib.hid (Nat.lt_of_lt_of_le HLT.out hbs8)
        clear hbS HQ1 HLT hbs8
        have HLT := HLT2
        clear HLT2
        generalize wq1.heap.size = gs at *
        generalize wq1.alloc (.cells #[.int .i64 a.id, .int .i64 0] 71) = wq2 at *
        refine hK.out _ _ HQ2.out.s3 (fun hHeldN => ?_)
        clear hK K hHeld
        have hHeld := hHeldN
        clear hHeldN
        try simp only [Act.put, List.setIfInBounds_toArray, List.set_cons_zero, List.set_cons_succ]
        refine wpAnyH_ready (rs := [11]) (by kernel_rfl) (by simp) ?_
        refine AllReadyH.cons (o := { dst := some 26, op := Op.call { callee := Callee.value (Operand.func 49), args := #[Operand.tmp 19, Operand.tmp 23, Operand.tmp 25], argTypes := #[53, 3, 53] }, type := 53, pos := "l11_addrs.go:99", after := #[{ on := 4, ground := Ground.data }, { on := 8, ground := Ground.data }, { on := 10, ground := Ground.data }, { on := 8, ground := Ground.chain }], guard := none }) rfl (fun K hK => ?_) AllReadyH.nil
        go_simp
        with_reducible refine (cI _ _ HQ2.out.k.o HQ2.out.k.size HGS.out.1 HGS.out.2).mono ?_
        rintro e w11 ⟨v', rfl, hO11, hg11⟩
        have HI := Lib.hid (HQ2.out.ins hO11 hg11 (HOE.out ▸ ok_ins HQ2.out.k.ok HU.out.2.1 _) HU.out.2.2.2)
        obtain ⟨va, vc, rfl, -⟩ := hO11.form
        clear hO11 hg11 HQ2 HGS
        refine hK.out _ _ HI.out.s3 (fun hHeldN => ?_)
        clear hK K hHeld
        have hHeld := hHeldN
        clear hHeldN
        try simp only [Act.put, List.setIfInBounds_toArray, List.set_cons_zero, List.set_cons_succ]
        refine take_yes (i := 12) (oi := { dst := some 27, op := Op.nilCheck (Operand.tmp 15), type := 0, pos := "l11_addrs.go:99", after := #[{ on := 0, ground := Ground.data }, { on := 0, ground := Ground.phase }, { on := 1, ground := Ground.phase }, { on := 2, ground := Ground.phase }, { on := 3, ground := Ground.phase }, { on := 4, ground := Ground.phase }, { on := 5, ground := Ground.phase }, { on := 6, ground := Ground.phase }, { on := 7, ground := Ground.phase }, { on := 8, ground := Ground.phase }, { on := 9, ground := Ground.phase }, { on := 10, ground := Ground.phase }, { on := 11, ground := Ground.phase }], guard := none }) (v := .pointer (some ⟨bb, 0, none⟩)) rfl (by kernel_rfl) (by kernel_rfl) (by kernel_rfl) (fun _ _ _ h => h) (by rfl) (fun w hSw => by (try dsimp only at hSw); go_simp) (by assumption) ?_
        try simp only [Act.put, List.setIfInBounds_toArray, List.set_cons_zero, List.set_cons_succ]
        refine take_yes (i := 13) (oi := { dst := some 28, op := Op.fieldAddr 56 (Operand.tmp 27) 0, type := 0, pos := "l11_addrs.go:99", after := #[{ on := 12, ground := Ground.data }, { on := 0, ground := Ground.phase }, { on := 1, ground := Ground.phase }, { on := 2, ground := Ground.phase }, { on := 3, ground := Ground.phase }, { on := 4, ground := Ground.phase }, { on := 5, ground := Ground.phase }, { on := 6, ground := Ground.phase }, { on := 7, ground := Ground.phase }, { on := 8, ground := Ground.phase }, { on := 9, ground := Ground.phase }, { on := 10, ground := Ground.phase }, { on := 11, ground := Ground.phase }], guard := none }) (v := .pointer (some ⟨bb, 0, none⟩)) rfl (by kernel_rfl) (by kernel_rfl) (by kernel_rfl) (fun _ _ _ h => h) (by rfl) (fun w hSw => by (try dsimp only at hSw); go_simp) (by assumption) ?_
        try simp only [Act.put, List.setIfInBounds_toArray, List.set_cons_zero, List.set_cons_succ]
        refine wpAnyH_ready (rs := [14]) (by kernel_rfl) (by simp) ?_
        refine AllReadyH.cons (o := { dst := none, op := Op.store 53 (Operand.tmp 28) (Operand.tmp 26), type := 0, pos := "l11_addrs.go:99", after := #[{ on := 13, ground := Ground.data }, { on := 11, ground := Ground.data }, { on := 11, ground := Ground.chain }, { on := 0, ground := Ground.phase }, { on := 1, ground := Ground.phase }, { on := 2, ground := Ground.phase }, { on := 3, ground := Ground.phase }, { on := 4, ground := Ground.phase }, { on := 5, ground := Ground.phase }, { on := 6, ground := Ground.phase }, { on := 7, ground := Ground.phase }, { on := 8, ground := Ground.phase }, { on := 9, ground := Ground.phase }, { on := 10, ground := Ground.phase }, { on := 11, ground := Ground.phase }], guard := none }) rfl (fun K hK => ?_) AllReadyH.nil
        obtain ⟨u0, f0⟩ := HI.out.cell
        go_simp
        have HP := Lib.hid HI.out.store
        clear u0 f0 HI
        refine hK.out _ _ HP.out.s3 (fun hHeldN => ?_)
        clear hK K hHeld
        have hHeld := hHeldN
        clear hHeldN
        try simp only [Act.put, List.setIfInBounds_toArray, List.set_cons_zero, List.set_cons_succ]
        refine wpAnyH_done (by kernel_rfl) ?_ _
        have hHeld2 := hHeld
        clear hHeld
        clear hHeld2 cP hp cI
        generalize World.setCell _ ⟨bb, 0, none⟩ _ = w6 at *
        go_wp2_with (fail)
        have HP4 := Lib.hid HP.out.drew
        have hS4 := HP4.out.s4
        refine wp_region_held_drew (S := fun W => W.cell? ⟨bb, 1, none⟩ = some (.map (some bm)) ∧ W.cell? ⟨bk, 0, none⟩ = some (.int .i64 a.id) ∧ W.cell? ⟨bk, 1, none⟩ = some (.int .i64 0) ∧ W.cell? ⟨ba, 0, none⟩ = some (.int .i64 a.id) ∧ W.cell? ⟨ba, 1, none⟩ = some (.int .i64 a.addr) ∧ W.cell? ⟨ba, 2, none⟩ = some (.bool a.spare) ∧ W.cell? ⟨ba, 3, none⟩ = some (.bool a.told)) (by kernel_rfl) hS4 (fun hHeld => ?_)
        refine take_yes (i := 0) (oi := { dst := some 29, op := Op.move (Operand.tmp 0), type := 72, pos := "l11_addrs.go:101", after := #[], guard := none }) (v := .pointer (some ⟨bb, 0, none⟩)) rfl (by kernel_rfl) (by kernel_rfl) (by kernel_rfl) (fun _ _ _ h => h) (by rfl) (fun w hSw => by (try dsimp only at hSw); go_simp) (by assumption) ?_
        try simp only [Act.put, List.setIfInBounds_toArray, List.set_cons_zero, List.set_cons_succ]
        refine take_yes (i := 1) (oi := { dst := some 30, op := Op.nilCheck (Operand.tmp 29), type := 0, pos := "l11_addrs.go:101", after := #[{ on := 0, ground := Ground.data }], guard := none }) (v := .pointer (some ⟨bb, 0, none⟩)) rfl (by kernel_rfl) (by kernel_rfl) (by kernel_rfl) (fun _ _ _ h => h) (by rfl) (fun w hSw => by (try dsimp only at hSw); go_simp) (by assumption) ?_
        try simp only [Act.put, List.setIfInBounds_toArray, List.set_cons_zero, List.set_cons_succ]
        refine take_yes (i := 2) (oi := { dst := some 31, op := Op.fieldAddr 56 (Operand.tmp 30) 1, type := 0, pos := "l11_addrs.go:101", after := #[{ on := 1, ground := Ground.data }], guard := none }) (v := .pointer (some ⟨bb, 1, none⟩)) rfl (by kernel_rfl) (by kernel_rfl) (by kernel_rfl) (fun _ _ _ h => h) (by rfl) (fun w hSw => by (try dsimp only at hSw); go_simp) (by assumption) ?_
        try simp only [Act.put, List.setIfInBounds_toArray, List.set_cons_zero, List.set_cons_succ]
        refine take_yes (i := 3) (oi := { dst := some 32, op := Op.load 54 (Operand.tmp 31), type := 54, pos := "l11_addrs.go:101", after := #[{ on := 2, ground := Ground.data }], guard := none }) (v := .map (some bm)) rfl (by kernel_rfl) (by kernel_rfl) (by kernel_rfl) (fun _ _ _ h => h) (by rfl) (fun w hSw => by (try dsimp only at hSw); go_simp) (by assumption) ?_
        try simp only [Act.put, List.setIfInBounds_toArray, List.set_cons_zero, List.set_cons_succ]
        refine take_yes (i := 4) (oi := { dst := some 33, op := Op.load 71 (Operand.tmp 4), type := 71, pos := "l11_addrs.go:101", after := #[], guard := none }) (v := .agg #[.int .i64 a.id, .int .i64 0]) rfl (by kernel_rfl) (by kernel_rfl) (by kernel_rfl) (fun _ _ _ h => h) (by rfl) (fun w hSw => by (try dsimp only at hSw); go_simp) (by assumption) ?_
        try simp only [Act.put, List.setIfInBounds_toArray, List.set_cons_zero, List.set_cons_succ]
        refine take_yes (i := 5) (oi := { dst := some 34, op := Op.load 26 (Operand.tmp 3), type := 26, pos := "l11_addrs.go:101", after := #[], guard := none }) (v := .agg #[.int .i64 a.id, .int .i64 a.addr, .bool a.spare, .bool a.told]) rfl (by kernel_rfl) (by kernel_rfl) (by kernel_rfl) (fun _ _ _ h => h) (by rfl) (fun w hSw => by (try dsimp only at hSw); go_simp) (by assumption) ?_
        try simp only [Act.put, List.setIfInBounds_toArray, List.set_cons_zero, List.set_cons_succ]
        refine wpAnyH_ready (rs := [6]) (by kernel_rfl) (by simp) ?_
        refine AllReadyH.cons (o := { dst := none, op := Op.mapUpdate 54 (Operand.tmp 32) (Operand.tmp 33) (Operand.tmp 34), type := 0, pos := "l11_addrs.go:101", after := #[{ on := 3, ground := Ground.data }, { on := 4, ground := Ground.data }, { on := 5, ground := Ground.data }, { on := 0, ground := Ground.phase }, { on := 1, ground := Ground.phase }, { on := 2, ground := Ground.phase }, { on := 3, ground := Ground.phase }, { on := 4, ground := Ground.phase }, { on := 5, ground := Ground.phase }], guard := none }) rfl (fun K hK => ?_) AllReadyH.nil
        refine step_mapPut rfl _ _ _ rfl (a.id, 0) a (by simp [Act.eval, Act.put]) (by simp [Act.eval, Act.put]; rfl) (by simp [Act.eval, Act.put]; rfl) HP4.out.k.m HU.out.2.1 HU.out.2.2.1 ?_
        intro w5 hm5 hg5 hz5
        have HP5 := Lib.hid (HP4.out.turn hm5 hg5 hz5)
        clear hm5 hg5 hz5
        refine hK.out _ _ HP5.out.s4 (fun hHeldN => ?_)
        clear hK K hHeld
        have hHeld := hHeldN
        clear hHeldN
        try simp only [Act.put, List.setIfInBounds_toArray, List.set_cons_zero, List.set_cons_succ]
        refine wpAnyH_done (by kernel_rfl) ?_ _
        have hHeld2 := hHeld
        clear hHeld
        clear hHeld2
        go_wp2_with (fail)
        refine bodyPost_end (results_none rfl _ _ _) rfl ?_
        exact ⟨rfl, _, HP5.out.k, HP5.out.b⟩
      refine AllReadyH.cons (o := { dst := some 25, op := Op.buildSlice 53 1 #[(0, Operand.tmp 24)], type := 53, pos := "l11_addrs.go:99", after := #[{ on := 9, ground := Ground.data }], guard := none }) rfl (fun K hK => ?_) AllReadyH.nil
      go_simp
      have hbS := below_new wd (.cells #[.int .i64 a.id, .int .i64 0] 71)
      have HQ3 := Lib.hid (HPd.out.kept hbS)
      have HGS := Lib.hid (And.intro (Cel.new wd 71 #[.int .i64 a.id, .int .i64 0]) (show ∀ g, (Value.slice ua order.length uc).ownBlock = some g → g ≠ wd.heap.size from fun g hg => by have h1 := HU.out.1 g hg; have h2 := HLT.out; have h3 := HBK.out; omega))
      have hbs8 := hbS.size
      have HLT2 := Lib.hid (Nat.lt_of_lt_of_le HLT.out hbs8)
      clear hbS HPd HLT hbs8
      have HLT := HLT2
      clear HLT2
      generalize wd.heap.size = gs at *
      generalize wd.alloc (.cells #[.int .i64 a.id, .int .i64 0] 71) = wq3 at *
      refine hK.out _ _ HQ3.out.s3 (fun hHeldN => ?_)
      clear hK K hHeld
      have hHeld := hHeldN
      clear hHeldN
      try simp only [Act.put, List.setIfInBounds_toArray, List.set_cons_zero, List.set_cons_succ]
      refine wpAnyH_ready (rs := [8]) (by kernel_rfl) (by simp) ?_
      refine AllReadyH.cons (o := { dst := some 23, op := Op.call { callee := Callee.value (Operand.func 50), args := #[Operand.tmp 20, Operand.tmp 22], argTypes := #[72, 3] }, type := 3, pos := "l11_addrs.go:99", after := #[{ on := 5, ground := Ground.data }, { on := 7, ground := Ground.data }], guard := none }) rfl (fun K hK => ?_) AllReadyH.nil
      go_simp
      with_reducible refine (cP _ HQ3.out.k.two.1 HQ3.out.k.o.rd).mono ?_
      rintro e wq4 ⟨rfl, hb8⟩
      have HQ4 := Lib.hid (HQ3.out.kept hb8)
      have HG2 := Lib.hid (And.intro (HGS.out.1.kept hb8) HGS.out.2)
      clear HGS
      have HGS := HG2
      clear HG2
      have hbs8 : wq3.heap.size ≤ wq4.heap.size := hb8.size
      have HLT2 := Lib.hid (Nat.lt_of_lt_of_le HLT.out hbs8)
      clear HLT hb8 hbs8 HQ3
      have HLT := HLT2
      clear HLT2
      refine hK.out _ _ HQ4.out.s3 (fun hHeldN => ?_)
      clear hK K hHeld
      have hHeld := hHeldN
      clear hHeldN
      try simp only [Act.put, List.setIfInBounds_toArray, List.set_cons_zero, List.set_cons_succ]
      refine wpAnyH_ready (rs := [11]) (by kernel_rfl) (by simp) ?_
      refine AllReadyH.cons (o := { dst := some 26, op := Op.call { callee := Callee.value (Operand.func 49), args := #[Operand.tmp 19, Operand.tmp 23, Operand.tmp 25], argTypes := #[53, 3, 53] }, type := 53, pos := "l11_addrs.go:99", after := #[{ on := 4, ground := Ground.data }, { on := 8, ground := Ground.data }, { on := 10, ground := Ground.data }, { on := 8, ground := Ground.chain }], guard := none }) rfl (fun K hK => ?_) AllReadyH.nil
      go_simp
      with_reducible refine (cI _ _ HQ4.out.k.o HQ4.out.k.size HGS.out.1 HGS.out.2).mono ?_
      rintro e w11 ⟨v', rfl, hO11, hg11⟩
      have HI := Lib.hid (HQ4.out.ins hO11 hg11 (HOE.out ▸ ok_ins HQ4.out.k.ok HU.out.2.1 _) HU.out.2.2.2)
      obtain ⟨va, vc, rfl, -⟩ := hO11.form
      clear hO11 hg11 HQ4 HGS
      refine hK.out _ _ HI.out.s3 (fun hHeldN => ?_)
      clear hK K hHeld
      have hHeld := hHeldN
      clear hHeldN
      try simp only [Act.put, List.setIfInBounds_toArray, List.set_cons_zero, List.set_cons_succ]
      refine take_yes (i := 12) (oi := { dst := some 27, op := Op.nilCheck (Operand.tmp 15), type := 0, pos := "l11_addrs.go:99", after := #[{ on := 0, ground := Ground.data }, { on := 0, ground := Ground.phase }, { on := 1, ground := Ground.phase }, { on := 2, ground := Ground.phase }, { on := 3, ground := Ground.phase }, { on := 4, ground := Ground.phase }, { on := 5, ground := Ground.phase }, { on := 6, ground := Ground.phase }, { on := 7, ground := Ground.phase }, { on := 8, ground := Ground.phase }, { on := 9, ground := Ground.phase }, { on := 10, ground := Ground.phase }, { on := 11, ground := Ground.phase }], guard := none }) (v := .pointer (some ⟨bb, 0, none⟩)) rfl (by kernel_rfl) (by kernel_rfl) (by kernel_rfl) (fun _ _ _ h => h) (by rfl) (fun w hSw => by (try dsimp only at hSw); go_simp) (by assumption) ?_
      try simp only [Act.put, List.setIfInBounds_toArray, List.set_cons_zero, List.set_cons_succ]
      refine take_yes (i := 13) (oi := { dst := some 28, op := Op.fieldAddr 56 (Operand.tmp 27) 0, type := 0, pos := "l11_addrs.go:99", after := #[{ on := 12, ground := Ground.data }, { on := 0, ground := Ground.phase }, { on := 1, ground := Ground.phase }, { on := 2, ground := Ground.phase }, { on := 3, ground := Ground.phase }, { on := 4, ground := Ground.phase }, { on := 5, ground := Ground.phase }, { on := 6, ground := Ground.phase }, { on := 7, ground := Ground.phase }, { on := 8, ground := Ground.phase }, { on := 9, ground := Ground.phase }, { on := 10, ground := Ground.phase }, { on := 11, ground := Ground.phase }], guard := none }) (v := .pointer (some ⟨bb, 0, none⟩)) rfl (by kernel_rfl) (by kernel_rfl) (by kernel_rfl) (fun _ _ _ h => h) (by rfl) (fun w hSw => by (try dsimp only at hSw); go_simp) (by assumption) ?_
      try simp only [Act.put, List.setIfInBounds_toArray, List.set_cons_zero, List.set_cons_succ]
      refine wpAnyH_ready (rs := [14]) (by kernel_rfl) (by simp) ?_
      refine AllReadyH.cons (o := { dst := none, op := Op.store 53 (Operand.tmp 28) (Operand.tmp 26), type := 0, pos := "l11_addrs.go:99", after := #[{ on := 13, ground := Ground.data }, { on := 11, ground := Ground.data }, { on := 11, ground := Ground.chain }, { on := 0, ground := Ground.phase }, { on := 1, ground := Ground.phase }, { on := 2, ground := Ground.phase }, { on := 3, ground := Ground.phase }, { on := 4, ground := Ground.phase }, { on := 5, ground := Ground.phase }, { on := 6, ground := Ground.phase }, { on := 7, ground := Ground.phase }, { on := 8, ground := Ground.phase }, { on := 9, ground := Ground.phase }, { on := 10, ground := Ground.phase }, { on := 11, ground := Ground.phase }], guard := none }) rfl (fun K hK => ?_) AllReadyH.nil
      obtain ⟨u0, f0⟩ := HI.out.cell
      go_simp
      have HP := Lib.hid HI.out.store
      clear u0 f0 HI
      refine hK.out _ _ HP.out.s3 (fun hHeldN => ?_)
      clear hK K hHeld
      have hHeld := hHeldN
      clear hHeldN
      try simp only [Act.put, List.setIfInBounds_toArray, List.set_cons_zero, List.set_cons_succ]
      refine wpAnyH_done (by kernel_rfl) ?_ _
      have hHeld2 := hHeld
      clear hHeld
      clear hHeld2 cP hp cI
      generalize World.setCell _ ⟨bb, 0, none⟩ _ = w6 at *
      go_wp2_with (fail)
      have HP4 := Lib.hid HP.out.drew
      have hS4 := HP4.out.s4
      refine wp_region_held_drew (S := fun W => W.cell? ⟨bb, 1, none⟩ = some (.map (some bm)) ∧ W.cell? ⟨bk, 0, none⟩ = some (.int .i64 a.id) ∧ W.cell? ⟨bk, 1, none⟩ = some (.int .i64 0) ∧ W.cell? ⟨ba, 0, none⟩ = some (.int .i64 a.id) ∧ W.cell? ⟨ba, 1, none⟩ = some (.int .i64 a.addr) ∧ W.cell? ⟨ba, 2, none⟩ = some (.bool a.spare) ∧ W.cell? ⟨ba, 3, none⟩ = some (.bool a.told)) (by kernel_rfl) hS4 (fun hHeld => ?_)
      refine take_yes (i := 0) (oi := { dst := some 29, op := Op.move (Operand.tmp 0), type := 72, pos := "l11_addrs.go:101", after := #[], guard := none }) (v := .pointer (some ⟨bb, 0, none⟩)) rfl (by kernel_rfl) (by kernel_rfl) (by kernel_rfl) (fun _ _ _ h => h) (by rfl) (fun w hSw => by (try dsimp only at hSw); go_simp) (by assumption) ?_
      try simp only [Act.put, List.setIfInBounds_toArray, List.set_cons_zero, List.set_cons_succ]
      refine take_yes (i := 1) (oi := { dst := some 30, op := Op.nilCheck (Operand.tmp 29), type := 0, pos := "l11_addrs.go:101", after := #[{ on := 0, ground := Ground.data }], guard := none }) (v := .pointer (some ⟨bb, 0, none⟩)) rfl (by kernel_rfl) (by kernel_rfl) (by kernel_rfl) (fun _ _ _ h => h) (by rfl) (fun w hSw => by (try dsimp only at hSw); go_simp) (by assumption) ?_
      try simp only [Act.put, List.setIfInBounds_toArray, List.set_cons_zero, List.set_cons_succ]
      refine take_yes (i := 2) (oi := { dst := some 31, op := Op.fieldAddr 56 (Operand.tmp 30) 1, type := 0, pos := "l11_addrs.go:101", after := #[{ on := 1, ground := Ground.data }], guard := none }) (v := .pointer (some ⟨bb, 1, none⟩)) rfl (by kernel_rfl) (by kernel_rfl) (by kernel_rfl) (fun _ _ _ h => h) (by rfl) (fun w hSw => by (try dsimp only at hSw); go_simp) (by assumption) ?_
      try simp only [Act.put, List.setIfInBounds_toArray, List.set_cons_zero, List.set_cons_succ]
      refine take_yes (i := 3) (oi := { dst := some 32, op := Op.load 54 (Operand.tmp 31), type := 54, pos := "l11_addrs.go:101", after := #[{ on := 2, ground := Ground.data }], guard := none }) (v := .map (some bm)) rfl (by kernel_rfl) (by kernel_rfl) (by kernel_rfl) (fun _ _ _ h => h) (by rfl) (fun w hSw => by (try dsimp only at hSw); go_simp) (by assumption) ?_
      try simp only [Act.put, List.setIfInBounds_toArray, List.set_cons_zero, List.set_cons_succ]
      refine take_yes (i := 4) (oi := { dst := some 33, op := Op.load 71 (Operand.tmp 4), type := 71, pos := "l11_addrs.go:101", after := #[], guard := none }) (v := .agg #[.int .i64 a.id, .int .i64 0]) rfl (by kernel_rfl) (by kernel_rfl) (by kernel_rfl) (fun _ _ _ h => h) (by rfl) (fun w hSw => by (try dsimp only at hSw); go_simp) (by assumption) ?_
      try simp only [Act.put, List.setIfInBounds_toArray, List.set_cons_zero, List.set_cons_succ]
      refine take_yes (i := 5) (oi := { dst := some 34, op := Op.load 26 (Operand.tmp 3), type := 26, pos := "l11_addrs.go:101", after := #[], guard := none }) (v := .agg #[.int .i64 a.id, .int .i64 a.addr, .bool a.spare, .bool a.told]) rfl (by kernel_rfl) (by kernel_rfl) (by kernel_rfl) (fun _ _ _ h => h) (by rfl) (fun w hSw => by (try dsimp only at hSw); go_simp) (by assumption) ?_
      try simp only [Act.put, List.setIfInBounds_toArray, List.set_cons_zero, List.set_cons_succ]
      refine wpAnyH_ready (rs := [6]) (by kernel_rfl) (by simp) ?_
      refine AllReadyH.cons (o := { dst := none, op := Op.mapUpdate 54 (Operand.tmp 32) (Operand.tmp 33) (Operand.tmp 34), type := 0, pos := "l11_addrs.go:101", after := #[{ on := 3, ground := Ground.data }, { on := 4, ground := Ground.data }, { on := 5, ground := Ground.data }, { on := 0, ground := Ground.phase }, { on := 1, ground := Ground.phase }, { on := 2, ground := Ground.phase }, { on := 3, ground := Ground.phase }, { on := 4, ground := Ground.phase }, { on := 5, ground := Ground.phase }], guard := none }) rfl (fun K hK => ?_) AllReadyH.nil
      refine step_mapPut rfl _ _ _ rfl (a.id, 0) a (by simp [Act.eval, Act.put]) (by simp [Act.eval, Act.put]; rfl) (by simp [Act.eval, Act.put]; rfl) HP4.out.k.m HU.out.2.1 HU.out.2.2.1 ?_
      intro w5 hm5 hg5 hz5
      have HP5 := Lib.hid (HP4.out.turn hm5 hg5 hz5)
      clear hm5 hg5 hz5
      refine hK.out _ _ HP5.out.s4 (fun hHeldN => ?_)
      clear hK K hHeld
      have hHeld := hHeldN
      clear hHeldN
      try simp only [Act.put, List.setIfInBounds_toArray, List.set_cons_zero, List.set_cons_succ]
      refine wpAnyH_done (by kernel_rfl) ?_ _
      have hHeld2 := hHeld
      clear hHeld
      clear hHeld2
      go_wp2_with (fail)
      refine bodyPost_end (results_none rfl _ _ _) rfl ?_
      exact ⟨rfl, _, HP5.out.k, HP5.out.b⟩
    refine AllReadyH.cons (o := { dst := some 23, op := Op.call { callee := Callee.value (Operand.func 50), args := #[Operand.tmp 20, Operand.tmp 22], argTypes := #[72, 3] }, type := 3, pos := "l11_addrs.go:99", after := #[{ on := 5, ground := Ground.data }, { on := 7, ground := Ground.data }], guard := none }) rfl (fun K hK => ?_) ?_
    · go_simp
      with_reducible refine (cP _ HPd.out.k.two.1 HPd.out.k.o.rd).mono ?_
      rintro e wq5 ⟨rfl, hb8⟩
      have HQ5 := Lib.hid (HPd.out.kept hb8)
      have hbs8 : wd.heap.size ≤ wq5.heap.size := hb8.size
      have HLT2 := Lib.hid (Nat.lt_of_lt_of_le HLT.out hbs8)
      clear HLT hb8 hbs8 HPd
      have HLT := HLT2
      clear HLT2
      refine hK.out _ _ HQ5.out.s3 (fun hHeldN => ?_)
      clear hK K hHeld
      have hHeld := hHeldN
      clear hHeldN
      try simp only [Act.put, List.setIfInBounds_toArray, List.set_cons_zero, List.set_cons_succ]
      refine wpAnyH_ready (rs := [4, 10]) (by kernel_rfl) (by simp) ?_
      refine AllReadyH.cons (o := { dst := some 19, op := Op.load 53 (Operand.tmp 18), type := 53, pos := "l11_addrs.go:99", after := #[{ on := 3, ground := Ground.data }], guard := none }) rfl (fun K hK => ?_) ?_
      · have u0 := HQ5.out.k.two.1
        go_simp
        clear u0
        refine hK.out _ _ hHeld (fun hHeldN => ?_)
        clear hK K hHeld
        have hHeld := hHeldN
        clear hHeldN
        try simp only [Act.put, List.setIfInBounds_toArray, List.set_cons_zero, List.set_cons_succ]
        refine wpAnyH_ready (rs := [10]) (by kernel_rfl) (by simp) ?_
        refine AllReadyH.cons (o := { dst := some 25, op := Op.buildSlice 53 1 #[(0, Operand.tmp 24)], type := 53, pos := "l11_addrs.go:99", after := #[{ on := 9, ground := Ground.data }], guard := none }) rfl (fun K hK => ?_) AllReadyH.nil
        go_simp
        have hbS := below_new wq5 (.cells #[.int .i64 a.id, .int .i64 0] 71)
        have HQ6 := Lib.hid (HQ5.out.kept hbS)
        have HGS := Lib.hid (And.intro (Cel.new wq5 71 #[.int .i64 a.id, .int .i64 0]) (show ∀ g, (Value.slice ua order.length uc).ownBlock = some g → g ≠ wq5.heap.size from fun g hg => by have h1 := HU.out.1 g hg; have h2 := HLT.out; have h3 := HBK.out; omega))
        have hbs8 := hbS.size
        have HLT2 := Lib.hid (Nat.lt_of_lt_of_le HLT.out hbs8)
        clear hbS HQ5 HLT hbs8
        have HLT := HLT2
        clear HLT2
        generalize wq5.heap.size = gs at *
        generalize wq5.alloc (.cells #[.int .i64 a.id, .int .i64 0] 71) = wq6 at *
        refine hK.out _ _ HQ6.out.s3 (fun hHeldN => ?_)
        clear hK K hHeld
        have hHeld := hHeldN
        clear hHeldN
        try simp only [Act.put, List.setIfInBounds_toArray, List.set_cons_zero, List.set_cons_succ]
        refine wpAnyH_ready (rs := [11]) (by kernel_rfl) (by simp) ?_
        refine AllReadyH.cons (o := { dst := some 26, op := Op.call { callee := Callee.value (Operand.func 49), args := #[Operand.tmp 19, Operand.tmp 23, Operand.tmp 25], argTypes := #[53, 3, 53] }, type := 53, pos := "l11_addrs.go:99", after := #[{ on := 4, ground := Ground.data }, { on := 8, ground := Ground.data }, { on := 10, ground := Ground.data }, { on := 8, ground := Ground.chain }], guard := none }) rfl (fun K hK => ?_) AllReadyH.nil
        go_simp
        with_reducible refine (cI _ _ HQ6.out.k.o HQ6.out.k.size HGS.out.1 HGS.out.2).mono ?_
        rintro e w11 ⟨v', rfl, hO11, hg11⟩
        have HI := Lib.hid (HQ6.out.ins hO11 hg11 (HOE.out ▸ ok_ins HQ6.out.k.ok HU.out.2.1 _) HU.out.2.2.2)
        obtain ⟨va, vc, rfl, -⟩ := hO11.form
        clear hO11 hg11 HQ6 HGS
        refine hK.out _ _ HI.out.s3 (fun hHeldN => ?_)
        clear hK K hHeld
        have hHeld := hHeldN
        clear hHeldN
        try simp only [Act.put, List.setIfInBounds_toArray, List.set_cons_zero, List.set_cons_succ]
        refine take_yes (i := 12) (oi := { dst := some 27, op := Op.nilCheck (Operand.tmp 15), type := 0, pos := "l11_addrs.go:99", after := #[{ on := 0, ground := Ground.data }, { on := 0, ground := Ground.phase }, { on := 1, ground := Ground.phase }, { on := 2, ground := Ground.phase }, { on := 3, ground := Ground.phase }, { on := 4, ground := Ground.phase }, { on := 5, ground := Ground.phase }, { on := 6, ground := Ground.phase }, { on := 7, ground := Ground.phase }, { on := 8, ground := Ground.phase }, { on := 9, ground := Ground.phase }, { on := 10, ground := Ground.phase }, { on := 11, ground := Ground.phase }], guard := none }) (v := .pointer (some ⟨bb, 0, none⟩)) rfl (by kernel_rfl) (by kernel_rfl) (by kernel_rfl) (fun _ _ _ h => h) (by rfl) (fun w hSw => by (try dsimp only at hSw); go_simp) (by assumption) ?_
        try simp only [Act.put, List.setIfInBounds_toArray, List.set_cons_zero, List.set_cons_succ]
        refine take_yes (i := 13) (oi := { dst := some 28, op := Op.fieldAddr 56 (Operand.tmp 27) 0, type := 0, pos := "l11_addrs.go:99", after := #[{ on := 12, ground := Ground.data }, { on := 0, ground := Ground.phase }, { on := 1, ground := Ground.phase }, { on := 2, ground := Ground.phase }, { on := 3, ground := Ground.phase }, { on := 4, ground := Ground.phase }, { on := 5, ground := Ground.phase }, { on := 6, ground := Ground.phase }, { on := 7, ground := Ground.phase }, { on := 8, ground := Ground.phase }, { on := 9, ground := Ground.phase }, { on := 10, ground := Ground.phase }, { on := 11, ground := Ground.phase }], guard := none }) (v := .pointer (some ⟨bb, 0, none⟩)) rfl (by kernel_rfl) (by kernel_rfl) (by kernel_rfl) (fun _ _ _ h => h) (by rfl) (fun w hSw => by (try dsimp only at hSw); go_simp) (by assumption) ?_
        try simp only [Act.put, List.setIfInBounds_toArray, List.set_cons_zero, List.set_cons_succ]
        refine wpAnyH_ready (rs := [14]) (by kernel_rfl) (by simp) ?_
        refine AllReadyH.cons (o := { dst := none, op := Op.store 53 (Operand.tmp 28) (Operand.tmp 26), type := 0, pos := "l11_addrs.go:99", after := #[{ on := 13, ground := Ground.data }, { on := 11, ground := Ground.data }, { on := 11, ground := Ground.chain }, { on := 0, ground := Ground.phase }, { on := 1, ground := Ground.phase }, { on := 2, ground := Ground.phase }, { on := 3, ground := Ground.phase }, { on := 4, ground := Ground.phase }, { on := 5, ground := Ground.phase }, { on := 6, ground := Ground.phase }, { on := 7, ground := Ground.phase }, { on := 8, ground := Ground.phase }, { on := 9, ground := Ground.phase }, { on := 10, ground := Ground.phase }, { on := 11, ground := Ground.phase }], guard := none }) rfl (fun K hK => ?_) AllReadyH.nil
        obtain ⟨u0, f0⟩ := HI.out.cell
        go_simp
        have HP := Lib.hid HI.out.store
        clear u0 f0 HI
        refine hK.out _ _ HP.out.s3 (fun hHeldN => ?_)
        clear hK K hHeld
        have hHeld := hHeldN
        clear hHeldN
        try simp only [Act.put, List.setIfInBounds_toArray, List.set_cons_zero, List.set_cons_succ]
        refine wpAnyH_done (by kernel_rfl) ?_ _
        have hHeld2 := hHeld
        clear hHeld
        clear hHeld2 cP hp cI
        generalize World.setCell _ ⟨bb, 0, none⟩ _ = w6 at *
        go_wp2_with (fail)
        have HP4 := Lib.hid HP.out.drew
        have hS4 := HP4.out.s4
        refine wp_region_held_drew (S := fun W => W.cell? ⟨bb, 1, none⟩ = some (.map (some bm)) ∧ W.cell? ⟨bk, 0, none⟩ = some (.int .i64 a.id) ∧ W.cell? ⟨bk, 1, none⟩ = some (.int .i64 0) ∧ W.cell? ⟨ba, 0, none⟩ = some (.int .i64 a.id) ∧ W.cell? ⟨ba, 1, none⟩ = some (.int .i64 a.addr) ∧ W.cell? ⟨ba, 2, none⟩ = some (.bool a.spare) ∧ W.cell? ⟨ba, 3, none⟩ = some (.bool a.told)) (by kernel_rfl) hS4 (fun hHeld => ?_)
        refine take_yes (i := 0) (oi := { dst := some 29, op := Op.move (Operand.tmp 0), type := 72, pos := "l11_addrs.go:101", after := #[], guard := none }) (v := .pointer (some ⟨bb, 0, none⟩)) rfl (by kernel_rfl) (by kernel_rfl) (by kernel_rfl) (fun _ _ _ h => h) (by rfl) (fun w hSw => by (try dsimp only at hSw); go_simp) (by assumption) ?_
        try simp only [Act.put, List.setIfInBounds_toArray, List.set_cons_zero, List.set_cons_succ]
        refine take_yes (i := 1) (oi := { dst := some 30, op := Op.nilCheck (Operand.tmp 29), type := 0, pos := "l11_addrs.go:101", after := #[{ on := 0, ground := Ground.data }], guard := none }) (v := .pointer (some ⟨bb, 0, none⟩)) rfl (by kernel_rfl) (by kernel_rfl) (by kernel_rfl) (fun _ _ _ h => h) (by rfl) (fun w hSw => by (try dsimp only at hSw); go_simp) (by assumption) ?_
        try simp only [Act.put, List.setIfInBounds_toArray, List.set_cons_zero, List.set_cons_succ]
        refine take_yes (i := 2) (oi := { dst := some 31, op := Op.fieldAddr 56 (Operand.tmp 30) 1, type := 0, pos := "l11_addrs.go:101", after := #[{ on := 1, ground := Ground.data }], guard := none }) (v := .pointer (some ⟨bb, 1, none⟩)) rfl (by kernel_rfl) (by kernel_rfl) (by kernel_rfl) (fun _ _ _ h => h) (by rfl) (fun w hSw => by (try dsimp only at hSw); go_simp) (by assumption) ?_
        try simp only [Act.put, List.setIfInBounds_toArray, List.set_cons_zero, List.set_cons_succ]
        refine take_yes (i := 3) (oi := { dst := some 32, op := Op.load 54 (Operand.tmp 31), type := 54, pos := "l11_addrs.go:101", after := #[{ on := 2, ground := Ground.data }], guard := none }) (v := .map (some bm)) rfl (by kernel_rfl) (by kernel_rfl) (by kernel_rfl) (fun _ _ _ h => h) (by rfl) (fun w hSw => by (try dsimp only at hSw); go_simp) (by assumption) ?_
        try simp only [Act.put, List.setIfInBounds_toArray, List.set_cons_zero, List.set_cons_succ]
        refine take_yes (i := 4) (oi := { dst := some 33, op := Op.load 71 (Operand.tmp 4), type := 71, pos := "l11_addrs.go:101", after := #[], guard := none }) (v := .agg #[.int .i64 a.id, .int .i64 0]) rfl (by kernel_rfl) (by kernel_rfl) (by kernel_rfl) (fun _ _ _ h => h) (by rfl) (fun w hSw => by (try dsimp only at hSw); go_simp) (by assumption) ?_
        try simp only [Act.put, List.setIfInBounds_toArray, List.set_cons_zero, List.set_cons_succ]
        refine take_yes (i := 5) (oi := { dst := some 34, op := Op.load 26 (Operand.tmp 3), type := 26, pos := "l11_addrs.go:101", after := #[], guard := none }) (v := .agg #[.int .i64 a.id, .int .i64 a.addr, .bool a.spare, .bool a.told]) rfl (by kernel_rfl) (by kernel_rfl) (by kernel_rfl) (fun _ _ _ h => h) (by rfl) (fun w hSw => by (try dsimp only at hSw); go_simp) (by assumption) ?_
        try simp only [Act.put, List.setIfInBounds_toArray, List.set_cons_zero, List.set_cons_succ]
        refine wpAnyH_ready (rs := [6]) (by kernel_rfl) (by simp) ?_
        refine AllReadyH.cons (o := { dst := none, op := Op.mapUpdate 54 (Operand.tmp 32) (Operand.tmp 33) (Operand.tmp 34), type := 0, pos := "l11_addrs.go:101", after := #[{ on := 3, ground := Ground.data }, { on := 4, ground := Ground.data }, { on := 5, ground := Ground.data }, { on := 0, ground := Ground.phase }, { on := 1, ground := Ground.phase }, { on := 2, ground := Ground.phase }, { on := 3, ground := Ground.phase }, { on := 4, ground := Ground.phase }, { on := 5, ground := Ground.phase }], guard := none }) rfl (fun K hK => ?_) AllReadyH.nil
        refine step_mapPut rfl _ _ _ rfl (a.id, 0) a (by simp [Act.eval, Act.put]) (by simp [Act.eval, Act.put]; rfl) (by simp [Act.eval, Act.put]; rfl) HP4.out.k.m HU.out.2.1 HU.out.2.2.1 ?_
        intro w5 hm5 hg5 hz5
        have HP5 := Lib.hid (HP4.out.turn hm5 hg5 hz5)
        clear hm5 hg5 hz5
        refine hK.out _ _ HP5.out.s4 (fun hHeldN => ?_)
        clear hK K hHeld
        have hHeld := hHeldN
        clear hHeldN
        try simp only [Act.put, List.setIfInBounds_toArray, List.set_cons_zero, List.set_cons_succ]
        refine wpAnyH_done (by kernel_rfl) ?_ _
        have hHeld2 := hHeld
        clear hHeld
        clear hHeld2
        go_wp2_with (fail)
        refine bodyPost_end (results_none rfl _ _ _) rfl ?_
        exact ⟨rfl, _, HP5.out.k, HP5.out.b⟩
      refine AllReadyH.cons (o := { dst := some 25, op := Op.buildSlice 53 1 #[(0, Operand.tmp 24)], type := 53, pos := "l11_addrs.go:99", after := #[{ on := 9, ground := Ground.data }], guard := none }) rfl (fun K hK => ?_) AllReadyH.nil
      go_simp
      have hbS := below_new wq5 (.cells #[.int .i64 a.id, .int .i64 0] 71)
      have HQ7 := Lib.hid (HQ5.out.kept hbS)
      have HGS := Lib.hid (And.intro (Cel.new wq5 71 #[.int .i64 a.id, .int .i64 0]) (show ∀ g, (Value.slice ua order.length uc).ownBlock = some g → g ≠ wq5.heap.size from fun g hg => by have h1 := HU.out.1 g hg; have h2 := HLT.out; have h3 := HBK.out; omega))
      have hbs8 := hbS.size
      have HLT2 := Lib.hid (Nat.lt_of_lt_of_le HLT.out hbs8)
      clear hbS HQ5 HLT hbs8
      have HLT := HLT2
      clear HLT2
      generalize wq5.heap.size = gs at *
      generalize wq5.alloc (.cells #[.int .i64 a.id, .int .i64 0] 71) = wq7 at *
      refine hK.out _ _ HQ7.out.s3 (fun hHeldN => ?_)
      clear hK K hHeld
      have hHeld := hHeldN
      clear hHeldN
      try simp only [Act.put, List.setIfInBounds_toArray, List.set_cons_zero, List.set_cons_succ]
      refine wpAnyH_ready (rs := [4]) (by kernel_rfl) (by simp) ?_
      refine AllReadyH.cons (o := { dst := some 19, op := Op.load 53 (Operand.tmp 18), type := 53, pos := "l11_addrs.go:99", after := #[{ on := 3, ground := Ground.data }], guard := none }) rfl (fun K hK => ?_) AllReadyH.nil
      have u0 := HQ7.out.k.two.1
      go_simp
      clear u0
      refine hK.out _ _ hHeld (fun hHeldN => ?_)
      clear hK K hHeld
      have hHeld := hHeldN
      clear hHeldN
      try simp only [Act.put, List.setIfInBounds_toArray, List.set_cons_zero, List.set_cons_succ]
      refine wpAnyH_ready (rs := [11]) (by kernel_rfl) (by simp) ?_
      refine AllReadyH.cons (o := { dst := some 26, op := Op.call { callee := Callee.value (Operand.func 49), args := #[Operand.tmp 19, Operand.tmp 23, Operand.tmp 25], argTypes := #[53, 3, 53] }, type := 53, pos := "l11_addrs.go:99", after := #[{ on := 4, ground := Ground.data }, { on := 8, ground := Ground.data }, { on := 10, ground := Ground.data }, { on := 8, ground := Ground.chain }], guard := none }) rfl (fun K hK => ?_) AllReadyH.nil
      go_simp
      with_reducible refine (cI _ _ HQ7.out.k.o HQ7.out.k.size HGS.out.1 HGS.out.2).mono ?_
      rintro e w11 ⟨v', rfl, hO11, hg11⟩
      have HI := Lib.hid (HQ7.out.ins hO11 hg11 (HOE.out ▸ ok_ins HQ7.out.k.ok HU.out.2.1 _) HU.out.2.2.2)
      obtain ⟨va, vc, rfl, -⟩ := hO11.form
      clear hO11 hg11 HQ7 HGS
      refine hK.out _ _ HI.out.s3 (fun hHeldN => ?_)
      clear hK K hHeld
      have hHeld := hHeldN
      clear hHeldN
      try simp only [Act.put, List.setIfInBounds_toArray, List.set_cons_zero, List.set_cons_succ]
      refine take_yes (i := 12) (oi := { dst := some 27, op := Op.nilCheck (Operand.tmp 15), type := 0, pos := "l11_addrs.go:99", after := #[{ on := 0, ground := Ground.data }, { on := 0, ground := Ground.phase }, { on := 1, ground := Ground.phase }, { on := 2, ground := Ground.phase }, { on := 3, ground := Ground.phase }, { on := 4, ground := Ground.phase }, { on := 5, ground := Ground.phase }, { on := 6, ground := Ground.phase }, { on := 7, ground := Ground.phase }, { on := 8, ground := Ground.phase }, { on := 9, ground := Ground.phase }, { on := 10, ground := Ground.phase }, { on := 11, ground := Ground.phase }], guard := none }) (v := .pointer (some ⟨bb, 0, none⟩)) rfl (by kernel_rfl) (by kernel_rfl) (by kernel_rfl) (fun _ _ _ h => h) (by rfl) (fun w hSw => by (try dsimp only at hSw); go_simp) (by assumption) ?_
      try simp only [Act.put, List.setIfInBounds_toArray, List.set_cons_zero, List.set_cons_succ]
      refine take_yes (i := 13) (oi := { dst := some 28, op := Op.fieldAddr 56 (Operand.tmp 27) 0, type := 0, pos := "l11_addrs.go:99", after := #[{ on := 12, ground := Ground.data }, { on := 0, ground := Ground.phase }, { on := 1, ground := Ground.phase }, { on := 2, ground := Ground.phase }, { on := 3, ground := Ground.phase }, { on := 4, ground := Ground.phase }, { on := 5, ground := Ground.phase }, { on := 6, ground := Ground.phase }, { on := 7, ground := Ground.phase }, { on := 8, ground := Ground.phase }, { on := 9, ground := Ground.phase }, { on := 10, ground := Ground.phase }, { on := 11, ground := Ground.phase }], guard := none }) (v := .pointer (some ⟨bb, 0, none⟩)) rfl (by kernel_rfl) (by kernel_rfl) (by kernel_rfl) (fun _ _ _ h => h) (by rfl) (fun w hSw => by (try dsimp only at hSw); go_simp) (by assumption) ?_
      try simp only [Act.put, List.setIfInBounds_toArray, List.set_cons_zero, List.set_cons_succ]
      refine wpAnyH_ready (rs := [14]) (by kernel_rfl) (by simp) ?_
      refine AllReadyH.cons (o := { dst := none, op := Op.store 53 (Operand.tmp 28) (Operand.tmp 26), type := 0, pos := "l11_addrs.go:99", after := #[{ on := 13, ground := Ground.data }, { on := 11, ground := Ground.data }, { on := 11, ground := Ground.chain }, { on := 0, ground := Ground.phase }, { on := 1, ground := Ground.phase }, { on := 2, ground := Ground.phase }, { on := 3, ground := Ground.phase }, { on := 4, ground := Ground.phase }, { on := 5, ground := Ground.phase }, { on := 6, ground := Ground.phase }, { on := 7, ground := Ground.phase }, { on := 8, ground := Ground.phase }, { on := 9, ground := Ground.phase }, { on := 10, ground := Ground.phase }, { on := 11, ground := Ground.phase }], guard := none }) rfl (fun K hK => ?_) AllReadyH.nil
      obtain ⟨u0, f0⟩ := HI.out.cell
      go_simp
      have HP := Lib.hid HI.out.store
      clear u0 f0 HI
      refine hK.out _ _ HP.out.s3 (fun hHeldN => ?_)
      clear hK K hHeld
      have hHeld := hHeldN
      clear hHeldN
      try simp only [Act.put, List.setIfInBounds_toArray, List.set_cons_zero, List.set_cons_succ]
      refine wpAnyH_done (by kernel_rfl) ?_ _
      have hHeld2 := hHeld
      clear hHeld
      clear hHeld2 cP hp cI
      generalize World.setCell _ ⟨bb, 0, none⟩ _ = w6 at *
      go_wp2_with (fail)
      have HP4 := Lib.hid HP.out.drew
      have hS4 := HP4.out.s4
      refine wp_region_held_drew (S := fun W => W.cell? ⟨bb, 1, none⟩ = some (.map (some bm)) ∧ W.cell? ⟨bk, 0, none⟩ = some (.int .i64 a.id) ∧ W.cell? ⟨bk, 1, none⟩ = some (.int .i64 0) ∧ W.cell? ⟨ba, 0, none⟩ = some (.int .i64 a.id) ∧ W.cell? ⟨ba, 1, none⟩ = some (.int .i64 a.addr) ∧ W.cell? ⟨ba, 2, none⟩ = some (.bool a.spare) ∧ W.cell? ⟨ba, 3, none⟩ = some (.bool a.told)) (by kernel_rfl) hS4 (fun hHeld => ?_)
      refine take_yes (i := 0) (oi := { dst := some 29, op := Op.move (Operand.tmp 0), type := 72, pos := "l11_addrs.go:101", after := #[], guard := none }) (v := .pointer (some ⟨bb, 0, none⟩)) rfl (by kernel_rfl) (by kernel_rfl) (by kernel_rfl) (fun _ _ _ h => h) (by rfl) (fun w hSw => by (try dsimp only at hSw); go_simp) (by assumption) ?_
      try simp only [Act.put, List.setIfInBounds_toArray, List.set_cons_zero, List.set_cons_succ]
      refine take_yes (i := 1) (oi := { dst := some 30, op := Op.nilCheck (Operand.tmp 29), type := 0, pos := "l11_addrs.go:101", after := #[{ on := 0, ground := Ground.data }], guard := none }) (v := .pointer (some ⟨bb, 0, none⟩)) rfl (by kernel_rfl) (by kernel_rfl) (by kernel_rfl) (fun _ _ _ h => h) (by rfl) (fun w hSw => by (try dsimp only at hSw); go_simp) (by assumption) ?_
      try simp only [Act.put, List.setIfInBounds_toArray, List.set_cons_zero, List.set_cons_succ]
      refine take_yes (i := 2) (oi := { dst := some 31, op := Op.fieldAddr 56 (Operand.tmp 30) 1, type := 0, pos := "l11_addrs.go:101", after := #[{ on := 1, ground := Ground.data }], guard := none }) (v := .pointer (some ⟨bb, 1, none⟩)) rfl (by kernel_rfl) (by kernel_rfl) (by kernel_rfl) (fun _ _ _ h => h) (by rfl) (fun w hSw => by (try dsimp only at hSw); go_simp) (by assumption) ?_
      try simp only [Act.put, List.setIfInBounds_toArray, List.set_cons_zero, List.set_cons_succ]
      refine take_yes (i := 3) (oi := { dst := some 32, op := Op.load 54 (Operand.tmp 31), type := 54, pos := "l11_addrs.go:101", after := #[{ on := 2, ground := Ground.data }], guard := none }) (v := .map (some bm)) rfl (by kernel_rfl) (by kernel_rfl) (by kernel_rfl) (fun _ _ _ h => h) (by rfl) (fun w hSw => by (try dsimp only at hSw); go_simp) (by assumption) ?_
      try simp only [Act.put, List.setIfInBounds_toArray, List.set_cons_zero, List.set_cons_succ]
      refine take_yes (i := 4) (oi := { dst := some 33, op := Op.load 71 (Operand.tmp 4), type := 71, pos := "l11_addrs.go:101", after := #[], guard := none }) (v := .agg #[.int .i64 a.id, .int .i64 0]) rfl (by kernel_rfl) (by kernel_rfl) (by kernel_rfl) (fun _ _ _ h => h) (by rfl) (fun w hSw => by (try dsimp only at hSw); go_simp) (by assumption) ?_
      try simp only [Act.put, List.setIfInBounds_toArray, List.set_cons_zero, List.set_cons_succ]
      refine take_yes (i := 5) (oi := { dst := some 34, op := Op.load 26 (Operand.tmp 3), type := 26, pos := "l11_addrs.go:101", after := #[], guard := none }) (v := .agg #[.int .i64 a.id, .int .i64 a.addr, .bool a.spare, .bool a.told]) rfl (by kernel_rfl) (by kernel_rfl) (by kernel_rfl) (fun _ _ _ h => h) (by rfl) (fun w hSw => by (try dsimp only at hSw); go_simp) (by assumption) ?_
      try simp only [Act.put, List.setIfInBounds_toArray, List.set_cons_zero, List.set_cons_succ]
      refine wpAnyH_ready (rs := [6]) (by kernel_rfl) (by simp) ?_
      refine AllReadyH.cons (o := { dst := none, op := Op.mapUpdate 54 (Operand.tmp 32) (Operand.tmp 33) (Operand.tmp 34), type := 0, pos := "l11_addrs.go:101", after := #[{ on := 3, ground := Ground.data }, { on := 4, ground := Ground.data }, { on := 5, ground := Ground.data }, { on := 0, ground := Ground.phase }, { on := 1, ground := Ground.phase }, { on := 2, ground := Ground.phase }, { on := 3, ground := Ground.phase }, { on := 4, ground := Ground.phase }, { on := 5, ground := Ground.phase }], guard := none }) rfl (fun K hK => ?_) AllReadyH.nil
      refine step_mapPut rfl _ _ _ rfl (a.id, 0) a (by simp [Act.eval, Act.put]) (by simp [Act.eval, Act.put]; rfl) (by simp [Act.eval, Act.put]; rfl) HP4.out.k.m HU.out.2.1 HU.out.2.2.1 ?_
      intro w5 hm5 hg5 hz5
      have HP5 := Lib.hid (HP4.out.turn hm5 hg5 hz5)
      clear hm5 hg5 hz5
      refine hK.out _ _ HP5.out.s4 (fun hHeldN => ?_)
      clear hK K hHeld
      have hHeld := hHeldN
      clear hHeldN
      try simp only [Act.put, List.setIfInBounds_toArray, List.set_cons_zero, List.set_cons_succ]
      refine wpAnyH_done (by kernel_rfl) ?_ _
      have hHeld2 := hHeld
      clear hHeld
      clear hHeld2
      go_wp2_with (fail)
      refine bodyPost_end (results_none rfl _ _ _) rfl ?_
      exact ⟨rfl, _, HP5.out.k, HP5.out.b⟩
    refine AllReadyH.cons (o := { dst := some 25, op := Op.buildSlice 53 1 #[(0, Operand.tmp 24)], type := 53, pos := "l11_addrs.go:99", after := #[{ on := 9, ground := Ground.data }], guard := none }) rfl (fun K hK => ?_) AllReadyH.nil
    go_simp
    have hbS := below_new wd (.cells #[.int .i64 a.id, .int .i64 0] 71)
    have HQ8 := Lib.hid (HPd.out.kept hbS)
    have HGS := Lib.hid (And.intro (Cel.new wd 71 #[.int .i64 a.id, .int .i64 0]) (show ∀ g, (Value.slice ua order.length uc).ownBlock = some g → g ≠ wd.heap.size from fun g hg => by have h1 := HU.out.1 g hg; have h2 := HLT.out; have h3 := HBK.out; omega))
    have hbs8 := hbS.size
    have HLT2 := Lib.hid (Nat.lt_of_lt_of_le HLT.out hbs8)
    clear hbS HPd HLT hbs8
    have HLT := HLT2
    clear HLT2
    generalize wd.heap.size = gs at *
    generalize wd.alloc (.cells #[.int .i64 a.id, .int .i64 0] 71) = wq8 at *
    refine hK.out _ _ HQ8.out.s3 (fun hHeldN => ?_)
    clear hK K hHeld
    have hHeld := hHeldN
    clear hHeldN
    try simp only [Act.put, List.setIfInBounds_toArray, List.set_cons_zero, List.set_cons_succ]
    refine wpAnyH_ready (rs := [4, 8]) (by kernel_rfl) (by simp) ?_
    refine AllReadyH.cons (o := { dst := some 19, op := Op.load 53 (Operand.tmp 18), type := 53, pos := "l11_addrs.go:99", after := #[{ on := 3, ground := Ground.data }], guard := none }) rfl (fun K hK => ?_) ?_
    · have u0 := HQ8.out.k.two.1
      go_simp
      clear u0
      refine hK.out _ _ hHeld (fun hHeldN => ?_)
      clear hK K hHeld
      have hHeld := hHeldN
      clear hHeldN
      try simp only [Act.put, List.setIfInBounds_toArray, List.set_cons_zero, List.set_cons_succ]
      refine wpAnyH_ready (rs := [8]) (by kernel_rfl) (by simp) ?_
      refine AllReadyH.cons (o := { dst := some 23, op := Op.call { callee := Callee.value (Operand.func 50), args := #[Operand.tmp 20, Operand.tmp 22], argTypes := #[72, 3] }, type := 3, pos := "l11_addrs.go:99", after := #[{ on := 5, ground := Ground.data }, { on := 7, ground := Ground.data }], guard := none }) rfl (fun K hK => ?_) AllReadyH.nil
      go_simp
      with_reducible refine (cP _ HQ8.out.k.two.1 HQ8.out.k.o.rd).mono ?_
      rintro e wq9 ⟨rfl, hb8⟩
      have HQ9 := Lib.hid (HQ8.out.kept hb8)
      have HG2 := Lib.hid (And.intro (HGS.out.1.kept hb8) HGS.out.2)
      clear HGS
      have HGS := HG2
      clear HG2
      have hbs8 : wq8.heap.size ≤ wq9.heap.size := hb8.size
      have HLT2 := Lib.hid (Nat.lt_of_lt_of_le HLT.out hbs8)
      clear HLT hb8 hbs8 HQ8
      have HLT := HLT2
      clear HLT2
      refine hK.out _ _ HQ9.out.s3 (fun hHeldN => ?_)
      clear hK K hHeld
      have hHeld := hHeldN
      clear hHeldN
      try simp only [Act.put, List.setIfInBounds_toArray, List.set_cons_zero, List.set_cons_succ]
      refine wpAnyH_ready (rs := [11]) (by kernel_rfl) (by simp) ?_
      refine AllReadyH.cons (o := { dst := some 26, op := Op.call { callee := Callee.value (Operand.func 49), args := #[Operand.tmp 19, Operand.tmp 23, Operand.tmp 25], argTypes := #[53, 3, 53] }, type := 53, pos := "l11_addrs.go:99", after := #[{ on := 4, ground := Ground.data }, { on := 8, ground := Ground.data }, { on := 10, ground := Ground.data }, { on := 8, ground := Ground.chain }], guard := none }) rfl (fun K hK => ?_) AllReadyH.nil
      go_simp
      with_reducible refine (cI _ _ HQ9.out.k.o HQ9.out.k.size HGS.out.1 HGS.out.2).mono ?_
      rintro e w11 ⟨v', rfl, hO11, hg11⟩
      have HI := Lib.hid (HQ9.out.ins hO11 hg11 (HOE.out ▸ ok_ins HQ9.out.k.ok HU.out.2.1 _) HU.out.2.2.2)
      obtain ⟨va, vc, rfl, -⟩ := hO11.form
      clear hO11 hg11 HQ9 HGS
      refine hK.out _ _ HI.out.s3 (fun hHeldN => ?_)
      clear hK K hHeld
      have hHeld := hHeldN
      clear hHeldN
      try simp only [Act.put, List.setIfInBounds_toArray, List.set_cons_zero, List.set_cons_succ]
      refine take_yes (i := 12) (oi := { dst := some 27, op := Op.nilCheck (Operand.tmp 15), type := 0, pos := "l11_addrs.go:99", after := #[{ on := 0, ground := Ground.data }, { on := 0, ground := Ground.phase }, { on := 1, ground := Ground.phase }, { on := 2, ground := Ground.phase }, { on := 3, ground := Ground.phase }, { on := 4, ground := Ground.phase }, { on := 5, ground := Ground.phase }, { on := 6, ground := Ground.phase }, { on := 7, ground := Ground.phase }, { on := 8, ground := Ground.phase }, { on := 9, ground := Ground.phase }, { on := 10, ground := Ground.phase }, { on := 11, ground := Ground.phase }], guard := none }) (v := .pointer (some ⟨bb, 0, none⟩)) rfl (by kernel_rfl) (by kernel_rfl) (by kernel_rfl) (fun _ _ _ h => h) (by rfl) (fun w hSw => by (try dsimp only at hSw); go_simp) (by assumption) ?_
      try simp only [Act.put, List.setIfInBounds_toArray, List.set_cons_zero, List.set_cons_succ]
      refine take_yes (i := 13) (oi := { dst := some 28, op := Op.fieldAddr 56 (Operand.tmp 27) 0, type := 0, pos := "l11_addrs.go:99", after := #[{ on := 12, ground := Ground.data }, { on := 0, ground := Ground.phase }, { on := 1, ground := Ground.phase }, { on := 2, ground := Ground.phase }, { on := 3, ground := Ground.phase }, { on := 4, ground := Ground.phase }, { on := 5, ground := Ground.phase }, { on := 6, ground := Ground.phase }, { on := 7, ground := Ground.phase }, { on := 8, ground := Ground.phase }, { on := 9, ground := Ground.phase }, { on := 10, ground := Ground.phase }, { on := 11, ground := Ground.phase }], guard := none }) (v := .pointer (some ⟨bb, 0, none⟩)) rfl (by kernel_rfl) (by kernel_rfl) (by kernel_rfl) (fun _ _ _ h => h) (by rfl) (fun w hSw => by (try dsimp only at hSw); go_simp) (by assumption) ?_
      try simp only [Act.put, List.setIfInBounds_toArray, List.set_cons_zero, List.set_cons_succ]
      refine wpAnyH_ready (rs := [14]) (by kernel_rfl) (by simp) ?_
      refine AllReadyH.cons (o := { dst := none, op := Op.store 53 (Operand.tmp 28) (Operand.tmp 26), type := 0, pos := "l11_addrs.go:99", after := #[{ on := 13, ground := Ground.data }, { on := 11, ground := Ground.data }, { on := 11, ground := Ground.chain }, { on := 0, ground := Ground.phase }, { on := 1, ground := Ground.phase }, { on := 2, ground := Ground.phase }, { on := 3, ground := Ground.phase }, { on := 4, ground := Ground.phase }, { on := 5, ground := Ground.phase }, { on := 6, ground := Ground.phase }, { on := 7, ground := Ground.phase }, { on := 8, ground := Ground.phase }, { on := 9, ground := Ground.phase }, { on := 10, ground := Ground.phase }, { on := 11, ground := Ground.phase }], guard := none }) rfl (fun K hK => ?_) AllReadyH.nil
      obtain ⟨u0, f0⟩ := HI.out.cell
      go_simp
      have HP := Lib.hid HI.out.store
      clear u0 f0 HI
      refine hK.out _ _ HP.out.s3 (fun hHeldN => ?_)
      clear hK K hHeld
      have hHeld := hHeldN
      clear hHeldN
      try simp only [Act.put, List.setIfInBounds_toArray, List.set_cons_zero, List.set_cons_succ]
      refine wpAnyH_done (by kernel_rfl) ?_ _
      have hHeld2 := hHeld
      clear hHeld
      clear hHeld2 cP hp cI
      generalize World.setCell _ ⟨bb, 0, none⟩ _ = w6 at *
      go_wp2_with (fail)
      have HP4 := Lib.hid HP.out.drew
      have hS4 := HP4.out.s4
      refine wp_region_held_drew (S := fun W => W.cell? ⟨bb, 1, none⟩ = some (.map (some bm)) ∧ W.cell? ⟨bk, 0, none⟩ = some (.int .i64 a.id) ∧ W.cell? ⟨bk, 1, none⟩ = some (.int .i64 0) ∧ W.cell? ⟨ba, 0, none⟩ = some (.int .i64 a.id) ∧ W.cell? ⟨ba, 1, none⟩ = some (.int .i64 a.addr) ∧ W.cell? ⟨ba, 2, none⟩ = some (.bool a.spare) ∧ W.cell? ⟨ba, 3, none⟩ = some (.bool a.told)) (by kernel_rfl) hS4 (fun hHeld => ?_)
      refine take_yes (i := 0) (oi := { dst := some 29, op := Op.move (Operand.tmp 0), type := 72, pos := "l11_addrs.go:101", after := #[], guard := none }) (v := .pointer (some ⟨bb, 0, none⟩)) rfl (by kernel_rfl) (by kernel_rfl) (by kernel_rfl) (fun _ _ _ h => h) (by rfl) (fun w hSw => by (try dsimp only at hSw); go_simp) (by assumption) ?_
      try simp only [Act.put, List.setIfInBounds_toArray, List.set_cons_zero, List.set_cons_succ]
      refine take_yes (i := 1) (oi := { dst := some 30, op := Op.nilCheck (Operand.tmp 29), type := 0, pos := "l11_addrs.go:101", after := #[{ on := 0, ground := Ground.data }], guard := none }) (v := .pointer (some ⟨bb, 0, none⟩)) rfl (by kernel_rfl) (by kernel_rfl) (by kernel_rfl) (fun _ _ _ h => h) (by rfl) (fun w hSw => by (try dsimp only at hSw); go_simp) (by assumption) ?_
      try simp only [Act.put, List.setIfInBounds_toArray, List.set_cons_zero, List.set_cons_succ]
      refine take_yes (i := 2) (oi := { dst := some 31, op := Op.fieldAddr 56 (Operand.tmp 30) 1, type := 0, pos := "l11_addrs.go:101", after := #[{ on := 1, ground := Ground.data }], guard := none }) (v := .pointer (some ⟨bb, 1, none⟩)) rfl (by kernel_rfl) (by kernel_rfl) (by kernel_rfl) (fun _ _ _ h => h) (by rfl) (fun w hSw => by (try dsimp only at hSw); go_simp) (by assumption) ?_
      try simp only [Act.put, List.setIfInBounds_toArray, List.set_cons_zero, List.set_cons_succ]
      refine take_yes (i := 3) (oi := { dst := some 32, op := Op.load 54 (Operand.tmp 31), type := 54, pos := "l11_addrs.go:101", after := #[{ on := 2, ground := Ground.data }], guard := none }) (v := .map (some bm)) rfl (by kernel_rfl) (by kernel_rfl) (by kernel_rfl) (fun _ _ _ h => h) (by rfl) (fun w hSw => by (try dsimp only at hSw); go_simp) (by assumption) ?_
      try simp only [Act.put, List.setIfInBounds_toArray, List.set_cons_zero, List.set_cons_succ]
      refine take_yes (i := 4) (oi := { dst := some 33, op := Op.load 71 (Operand.tmp 4), type := 71, pos := "l11_addrs.go:101", after := #[], guard := none }) (v := .agg #[.int .i64 a.id, .int .i64 0]) rfl (by kernel_rfl) (by kernel_rfl) (by kernel_rfl) (fun _ _ _ h => h) (by rfl) (fun w hSw => by (try dsimp only at hSw); go_simp) (by assumption) ?_
      try simp only [Act.put, List.setIfInBounds_toArray, List.set_cons_zero, List.set_cons_succ]
      refine take_yes (i := 5) (oi := { dst := some 34, op := Op.load 26 (Operand.tmp 3), type := 26, pos := "l11_addrs.go:101", after := #[], guard := none }) (v := .agg #[.int .i64 a.id, .int .i64 a.addr, .bool a.spare, .bool a.told]) rfl (by kernel_rfl) (by kernel_rfl) (by kernel_rfl) (fun _ _ _ h => h) (by rfl) (fun w hSw => by (try dsimp only at hSw); go_simp) (by assumption) ?_
      try simp only [Act.put, List.setIfInBounds_toArray, List.set_cons_zero, List.set_cons_succ]
      refine wpAnyH_ready (rs := [6]) (by kernel_rfl) (by simp) ?_
      refine AllReadyH.cons (o := { dst := none, op := Op.mapUpdate 54 (Operand.tmp 32) (Operand.tmp 33) (Operand.tmp 34), type := 0, pos := "l11_addrs.go:101", after := #[{ on := 3, ground := Ground.data }, { on := 4, ground := Ground.data }, { on := 5, ground := Ground.data }, { on := 0, ground := Ground.phase }, { on := 1, ground := Ground.phase }, { on := 2, ground := Ground.phase }, { on := 3, ground := Ground.phase }, { on := 4, ground := Ground.phase }, { on := 5, ground := Ground.phase }], guard := none }) rfl (fun K hK => ?_) AllReadyH.nil
      refine step_mapPut rfl _ _ _ rfl (a.id, 0) a (by simp [Act.eval, Act.put]) (by simp [Act.eval, Act.put]; rfl) (by simp [Act.eval, Act.put]; rfl) HP4.out.k.m HU.out.2.1 HU.out.2.2.1 ?_
      intro w5 hm5 hg5 hz5
      have HP5 := Lib.hid (HP4.out.turn hm5 hg5 hz5)
      clear hm5 hg5 hz5
      refine hK.out _ _ HP5.out.s4 (fun hHeldN => ?_)
      clear hK K hHeld
      have hHeld := hHeldN
      clear hHeldN
      try simp only [Act.put, List.setIfInBounds_toArray, List.set_cons_zero, List.set_cons_succ]
      refine wpAnyH_done (by kernel_rfl) ?_ _
      have hHeld2 := hHeld
      clear hHeld
      clear hHeld2
      go_wp2_with (fail)
      refine bodyPost_end (results_none rfl _ _ _) rfl ?_
      exact ⟨rfl, _, HP5.out.k, HP5.out.b⟩
    refine AllReadyH.cons (o := { dst := some 23, op := Op.call { callee := Callee.value (Operand.func 50), args := #[Operand.tmp 20, Operand.tmp 22], argTypes := #[72, 3] }, type := 3, pos := "l11_addrs.go:99", after := #[{ on := 5, ground := Ground.data }, { on := 7, ground := Ground.data }], guard := none }) rfl (fun K hK => ?_) AllReadyH.nil
    go_simp
    with_reducible refine (cP _ HQ8.out.k.two.1 HQ8.out.k.o.rd).mono ?_
    rintro e wq10 ⟨rfl, hb8⟩
    have HQ10 := Lib.hid (HQ8.out.kept hb8)
    have HG2 := Lib.hid (And.intro (HGS.out.1.kept hb8) HGS.out.2)
    clear HGS
    have HGS := HG2
    clear HG2
    have hbs8 : wq8.heap.size ≤ wq10.heap.size := hb8.size
    have HLT2 := Lib.hid (Nat.lt_of_lt_of_le HLT.out hbs8)
    clear HLT hb8 hbs8 HQ8
    have HLT := HLT2
    clear HLT2
    refine hK.out _ _ HQ10.out.s3 (fun hHeldN => ?_)
    clear hK K hHeld
    have hHeld := hHeldN
    clear hHeldN
    try simp only [Act.put, List.setIfInBounds_toArray, List.set_cons_zero, List.set_cons_succ]
    refine wpAnyH_ready (rs := [4]) (by kernel_rfl) (by simp) ?_
    refine AllReadyH.cons (o := { dst := some 19, op := Op.load 53 (Operand.tmp 18), type := 53, pos := "l11_addrs.go:99", after := #[{ on := 3, ground := Ground.data }], guard := none }) rfl (fun K hK => ?_) AllReadyH.nil
    have u0 := HQ10.out.k.two.1
    go_simp
    clear u0
    refine hK.out _ _ hHeld (fun hHeldN => ?_)
    clear hK K hHeld
    have hHeld := hHeldN
    clear hHeldN
    try simp only [Act.put, List.setIfInBounds_toArray, List.set_cons_zero, List.set_cons_succ]
    refine wpAnyH_ready (rs := [11]) (by kernel_rfl) (by simp) ?_
    refine AllReadyH.cons (o := { dst := some 26, op := Op.call { callee := Callee.value (Operand.func 49), args := #[Operand.tmp 19, Operand.tmp 23, Operand.tmp 25], argTypes := #[53, 3, 53] }, type := 53, pos := "l11_addrs.go:99", after := #[{ on := 4, ground := Ground.data }, { on := 8, ground := Ground.data }, { on := 10, ground := Ground.data }, { on := 8, ground := Ground.chain }], guard := none }) rfl (fun K hK => ?_) AllReadyH.nil
    go_simp
    with_reducible refine (cI _ _ HQ10.out.k.o HQ10.out.k.size HGS.out.1 HGS.out.2).mono ?_
    rintro e w11 ⟨v', rfl, hO11, hg11⟩
    have HI := Lib.hid (HQ10.out.ins hO11 hg11 (HOE.out ▸ ok_ins HQ10.out.k.ok HU.out.2.1 _) HU.out.2.2.2)
    obtain ⟨va, vc, rfl, -⟩ := hO11.form
    clear hO11 hg11 HQ10 HGS
    refine hK.out _ _ HI.out.s3 (fun hHeldN => ?_)
    clear hK K hHeld
    have hHeld := hHeldN
    clear hHeldN
    try simp only [Act.put, List.setIfInBounds_toArray, List.set_cons_zero, List.set_cons_succ]
    refine take_yes (i := 12) (oi := { dst := some 27, op := Op.nilCheck (Operand.tmp 15), type := 0, pos := "l11_addrs.go:99", after := #[{ on := 0, ground := Ground.data }, { on := 0, ground := Ground.phase }, { on := 1, ground := Ground.phase }, { on := 2, ground := Ground.phase }, { on := 3, ground := Ground.phase }, { on := 4, ground := Ground.phase }, { on := 5, ground := Ground.phase }, { on := 6, ground := Ground.phase }, { on := 7, ground := Ground.phase }, { on := 8, ground := Ground.phase }, { on := 9, ground := Ground.phase }, { on := 10, ground := Ground.phase }, { on := 11, ground := Ground.phase }], guard := none }) (v := .pointer (some ⟨bb, 0, none⟩)) rfl (by kernel_rfl) (by kernel_rfl) (by kernel_rfl) (fun _ _ _ h => h) (by rfl) (fun w hSw => by (try dsimp only at hSw); go_simp) (by assumption) ?_
    try simp only [Act.put, List.setIfInBounds_toArray, List.set_cons_zero, List.set_cons_succ]
    refine take_yes (i := 13) (oi := { dst := some 28, op := Op.fieldAddr 56 (Operand.tmp 27) 0, type := 0, pos := "l11_addrs.go:99", after := #[{ on := 12, ground := Ground.data }, { on := 0, ground := Ground.phase }, { on := 1, ground := Ground.phase }, { on := 2, ground := Ground.phase }, { on := 3, ground := Ground.phase }, { on := 4, ground := Ground.phase }, { on := 5, ground := Ground.phase }, { on := 6, ground := Ground.phase }, { on := 7, ground := Ground.phase }, { on := 8, ground := Ground.phase }, { on := 9, ground := Ground.phase }, { on := 10, ground := Ground.phase }, { on := 11, ground := Ground.phase }], guard := none }) (v := .pointer (some ⟨bb, 0, none⟩)) rfl (by kernel_rfl) (by kernel_rfl) (by kernel_rfl) (fun _ _ _ h => h) (by rfl) (fun w hSw => by (try dsimp only at hSw); go_simp) (by assumption) ?_
    try simp only [Act.put, List.setIfInBounds_toArray, List.set_cons_zero, List.set_cons_succ]
    refine wpAnyH_ready (rs := [14]) (by kernel_rfl) (by simp) ?_
    refine AllReadyH.cons (o := { dst := none, op := Op.store 53 (Operand.tmp 28) (Operand.tmp 26), type := 0, pos := "l11_addrs.go:99", after := #[{ on := 13, ground := Ground.data }, { on := 11, ground := Ground.data }, { on := 11, ground := Ground.chain }, { on := 0, ground := Ground.phase }, { on := 1, ground := Ground.phase }, { on := 2, ground := Ground.phase }, { on := 3, ground := Ground.phase }, { on := 4, ground := Ground.phase }, { on := 5, ground := Ground.phase }, { on := 6, ground := Ground.phase }, { on := 7, ground := Ground.phase }, { on := 8, ground := Ground.phase }, { on := 9, ground := Ground.phase }, { on := 10, ground := Ground.phase }, { on := 11, ground := Ground.phase }], guard := none }) rfl (fun K hK => ?_) AllReadyH.nil
    obtain ⟨u0, f0⟩ := HI.out.cell
    go_simp
    have HP := Lib.hid HI.out.store
    clear u0 f0 HI
    refine hK.out _ _ HP.out.s3 (fun hHeldN => ?_)
    clear hK K hHeld
    have hHeld := hHeldN
    clear hHeldN
    try simp only [Act.put, List.setIfInBounds_toArray, List.set_cons_zero, List.set_cons_succ]
    refine wpAnyH_done (by kernel_rfl) ?_ _
    have hHeld2 := hHeld
    clear hHeld
    clear hHeld2 cP hp cI
    generalize World.setCell _ ⟨bb, 0, none⟩ _ = w6 at *
    go_wp2_with (fail)
    have HP4 := Lib.hid HP.out.drew
    have hS4 := HP4.out.s4
    refine wp_region_held_drew (S := fun W => W.cell? ⟨bb, 1, none⟩ = some (.map (some bm)) ∧ W.cell? ⟨bk, 0, none⟩ = some (.int .i64 a.id) ∧ W.cell? ⟨bk, 1, none⟩ = some (.int .i64 0) ∧ W.cell? ⟨ba, 0, none⟩ = some (.int .i64 a.id) ∧ W.cell? ⟨ba, 1, none⟩ = some (.int .i64 a.addr) ∧ W.cell? ⟨ba, 2, none⟩ = some (.bool a.spare) ∧ W.cell? ⟨ba, 3, none⟩ = some (.bool a.told)) (by kernel_rfl) hS4 (fun hHeld => ?_)
    refine take_yes (i := 0) (oi := { dst := some 29, op := Op.move (Operand.tmp 0), type := 72, pos := "l11_addrs.go:101", after := #[], guard := none }) (v := .pointer (some ⟨bb, 0, none⟩)) rfl (by kernel_rfl) (by kernel_rfl) (by kernel_rfl) (fun _ _ _ h => h) (by rfl) (fun w hSw => by (try dsimp only at hSw); go_simp) (by assumption) ?_
    try simp only [Act.put, List.setIfInBounds_toArray, List.set_cons_zero, List.set_cons_succ]
    refine take_yes (i := 1) (oi := { dst := some 30, op := Op.nilCheck (Operand.tmp 29), type := 0, pos := "l11_addrs.go:101", after := #[{ on := 0, ground := Ground.data }], guard := none }) (v := .pointer (some ⟨bb, 0, none⟩)) rfl (by kernel_rfl) (by kernel_rfl) (by kernel_rfl) (fun _ _ _ h => h) (by rfl) (fun w hSw => by (try dsimp only at hSw); go_simp) (by assumption) ?_
    try simp only [Act.put, List.setIfInBounds_toArray, List.set_cons_zero, List.set_cons_succ]
    refine take_yes (i := 2) (oi := { dst := some 31, op := Op.fieldAddr 56 (Operand.tmp 30) 1, type := 0, pos := "l11_addrs.go:101", after := #[{ on := 1, ground := Ground.data }], guard := none }) (v := .pointer (some ⟨bb, 1, none⟩)) rfl (by kernel_rfl) (by kernel_rfl) (by kernel_rfl) (fun _ _ _ h => h) (by rfl) (fun w hSw => by (try dsimp only at hSw); go_simp) (by assumption) ?_
    try simp only [Act.put, List.setIfInBounds_toArray, List.set_cons_zero, List.set_cons_succ]
    refine take_yes (i := 3) (oi := { dst := some 32, op := Op.load 54 (Operand.tmp 31), type := 54, pos := "l11_addrs.go:101", after := #[{ on := 2, ground := Ground.data }], guard := none }) (v := .map (some bm)) rfl (by kernel_rfl) (by kernel_rfl) (by kernel_rfl) (fun _ _ _ h => h) (by rfl) (fun w hSw => by (try dsimp only at hSw); go_simp) (by assumption) ?_
    try simp only [Act.put, List.setIfInBounds_toArray, List.set_cons_zero, List.set_cons_succ]
    refine take_yes (i := 4) (oi := { dst := some 33, op := Op.load 71 (Operand.tmp 4), type := 71, pos := "l11_addrs.go:101", after := #[], guard := none }) (v := .agg #[.int .i64 a.id, .int .i64 0]) rfl (by kernel_rfl) (by kernel_rfl) (by kernel_rfl) (fun _ _ _ h => h) (by rfl) (fun w hSw => by (try dsimp only at hSw); go_simp) (by assumption) ?_
    try simp only [Act.put, List.setIfInBounds_toArray, List.set_cons_zero, List.set_cons_succ]
    refine take_yes (i := 5) (oi := { dst := some 34, op := Op.load 26 (Operand.tmp 3), type := 26, pos := "l11_addrs.go:101", after := #[], guard := none }) (v := .agg #[.int .i64 a.id, .int .i64 a.addr, .bool a.spare, .bool a.told]) rfl (by kernel_rfl) (by kernel_rfl) (by kernel_rfl) (fun _ _ _ h => h) (by rfl) (fun w hSw => by (try dsimp only at hSw); go_simp) (by assumption) ?_
    try simp only [Act.put, List.setIfInBounds_toArray, List.set_cons_zero, List.set_cons_succ]
    refine wpAnyH_ready (rs := [6]) (by kernel_rfl) (by simp) ?_
    refine AllReadyH.cons (o := { dst := none, op := Op.mapUpdate 54 (Operand.tmp 32) (Operand.tmp 33) (Operand.tmp 34), type := 0, pos := "l11_addrs.go:101", after := #[{ on := 3, ground := Ground.data }, { on := 4, ground := Ground.data }, { on := 5, ground := Ground.data }, { on := 0, ground := Ground.phase }, { on := 1, ground := Ground.phase }, { on := 2, ground := Ground.phase }, { on := 3, ground := Ground.phase }, { on := 4, ground := Ground.phase }, { on := 5, ground := Ground.phase }], guard := none }) rfl (fun K hK => ?_) AllReadyH.nil
    refine step_mapPut rfl _ _ _ rfl (a.id, 0) a (by simp [Act.eval, Act.put]) (by simp [Act.eval, Act.put]; rfl) (by simp [Act.eval, Act.put]; rfl) HP4.out.k.m HU.out.2.1 HU.out.2.2.1 ?_
    intro w5 hm5 hg5 hz5
    have HP5 := Lib.hid (HP4.out.turn hm5 hg5 hz5)
    clear hm5 hg5 hz5
    refine hK.out _ _ HP5.out.s4 (fun hHeldN => ?_)
    clear hK K hHeld
    have hHeld := hHeldN
    clear hHeldN
    try simp only [Act.put, List.setIfInBounds_toArray, List.set_cons_zero, List.set_cons_succ]
    refine wpAnyH_done (by kernel_rfl) ?_ _
    have hHeld2 := hHeld
    clear hHeld
    clear hHeld2
    go_wp2_with (fail)
    refine bodyPost_end (results_none rfl _ _ _) rfl ?_
    exact ⟨rfl, _, HP5.out.k, HP5.out.b⟩
end Go.Proofs.Ytmfbhejclmelaaa
