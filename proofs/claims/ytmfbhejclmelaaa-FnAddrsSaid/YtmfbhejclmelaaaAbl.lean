import Derived.Test.YtmfbhejclmelaaaAoi
import Derived.Test.YtmfbhejclmelaaaAki
import Derived.Test.YtmfbhejclmelaaaAbk
import Derived.Test.YtmfbhejclmelaaaKin
namespace Go.Proofs.Ytmfbhejclmelaaa
open Go.RowKit

/-- The book in its block. -/
structure BkW (W : World) (B bb bm n : Nat) (u : Value) (order : List Kk) (F : Kk → Option Av) : Prop where
  c : Cel W bb 56 #[u, .map (some bm)]
  o : OwnE kvK W B W.heap.size u order
  m : MapAt W bm n F
  hb : B ≤ bb
  hm : B ≤ bm
  ok : ∀ k ∈ order, OkK k
section
variable {W W' : World} {B bb bm n : Nat} {u : Value} {order : List Kk} {F : Kk → Option Av}
theorem BkW.kept (h : BkW W B bb bm n u order F) (hb : Below W.heap.size W W') : BkW W' B bb bm n u order F := ⟨h.c.kept hb, h.o.full hb, h.m.kept hb, h.hb, h.hm, h.ok⟩
theorem BkW.two (h : BkW W B bb bm n u order F) : W.cell? ⟨bb, 0, none⟩ = some u ∧ W.cell? ⟨bb, 1, none⟩ = some (.map (some bm)) := cel2a h.c
theorem BkW.nbm (h : BkW W B bb bm n u order F) : bb ≠ bm := h.m.ne h.c
theorem BkW.ob (h : BkW W B bb bm n u order F) (g : Nat) (hg : u.ownBlock = some g) : g ≠ bm ∧ g ≠ bb := by
  rcases h.o.1.2 with ⟨rfl, _⟩ | ⟨g', cap, cur, rfl, -, hh, -⟩
  · cases hg
  · simp [Value.ownBlock] at hg
    subst hg
    refine ⟨h.m.ne hh, ?_⟩
    rintro rfl
    have hc : W.heap[g']? = _ := h.c
    rw [hc] at hh
    injection hh with hh
    injection hh with _ hh
    exact absurd hh (by decide)
end
theorem okK_zero {id : Int} (h : (Lit.int .i64 id).wf = true) : OkK (id, 0) := ⟨h, by show (Lit.int .i64 ((0 : Nat) : Int)).wf = true; exact WalkArith.wf_i64 (by omega)⟩

theorem bl_keep {w W W' : World} {bb bm bk n C : Nat} {key : Kk} {F : Kk → Option Av} {l : Value} {L : List Av} (h : W.cell? ⟨bb, 1, none⟩ = some (.map (some bm)) ∧ W.cell? ⟨bk, 0, none⟩ = some (.int .i64 key.1) ∧ W.cell? ⟨bk, 1, none⟩ = some (.int .i64 (key.2 : Int)) ∧ MapAt W bm n F ∧ OwnV W w.heap.size C l L ∧ C ≤ W.heap.size ∧ Below w.heap.size w W) (hb : Below W.heap.size W W') :
    W'.cell? ⟨bb, 1, none⟩ = some (.map (some bm)) ∧ W'.cell? ⟨bk, 0, none⟩ = some (.int .i64 key.1) ∧ W'.cell? ⟨bk, 1, none⟩ = some (.int .i64 (key.2 : Int)) ∧ MapAt W' bm n F ∧ OwnV W' w.heap.size C l L ∧ C ≤ W'.heap.size ∧ Below w.heap.size w W' :=
  ⟨keepc' h.1 hb, keepc' h.2.1 hb, keepc' h.2.2.1 hb, h.2.2.2.1.kept hb, h.2.2.2.2.1.keep hb h.2.2.2.2.2.1, Nat.le_trans h.2.2.2.2.2.1 hb.size, Below.then_ h.2.2.2.2.2.2 hb⟩

set_option linter.unusedSimpArgs false in
set_option maxRecDepth 100000 in
set_option maxHeartbeats 4000000 in
theorem impl_list (bb bm n B : Nat) (u : Value) (order : List Kk) (F : Kk → Option Av) (w : World) (h : BkW w B bb bm n u order F) (hn : order.length ≤ 1048577) :
    Calls Try.prog 38 #[.pointer (some ⟨bb, 0, none⟩)] w fun e w' => ∃ v, e = .returned v ∧ OwnV w' w.heap.size w'.heap.size v (order.filterMap F) ∧ Below w.heap.size w w' := by
  obtain ⟨c0, -⟩ := h.two
  have hO := h.o
  obtain ⟨a, c, rfl, -⟩ := h.o.form
  have HH := Lib.hid h
  clear hO h
  go_enter Try.func38, Try.ntmps38
  go_wp2_with (fail)
  go_loopw [3, 13] (fun l i wr => ∃ k : Nat, k ≤ order.length ∧ i = .int .i64 k ∧ OwnV wr w.heap.size wr.heap.size l ((order.take k).filterMap F) ∧ Below w.heap.size w wr) (fun _ i _ => order.length - (intOf i).toNat)
  case atStart => exact ⟨0, by omega, rfl, OwnE.nil, Below.refl _ _⟩
  case round =>
    clear c0
    obtain ⟨k, hk, rfl, hO, hB⟩ := hrel
    by_cases hlt : k < order.length
    · have q : (0 : Int) ≤ (k : Int) ∧ (k : Int) < (order.length : Int) := by omega
      have hW := HH.out.kept hB
      obtain ⟨b, off, ha, -, k0, k1, -⟩ := kv_at (P := Try.prog) hW.o.rd k hlt
      subst ha
      have hok := hW.ok _ (List.getElem_mem hlt)
      have htk : (order.take (k + 1)).filterMap F = (order.take k).filterMap F ++ (F order[k]).toList := by
        rw [List.take_succ_eq_append_getElem hlt, List.filterMap_append]
        congr 1
      have hle : ((order.take k).filterMap F).length ≤ k := Nat.le_trans (List.length_filterMap_le _ _) (by rw [List.length_take]; omega)
      generalize order[k] = key at *
      obtain ⟨d0, d1⟩ := cel2a (Cel.new wr 71 #[.int .i64 key.1, .int .i64 (key.2 : Int)])
      have hbx := below_kv wr key
      have hlk := fun W (h : MapAt W bm n F) => h.look key hok
      obtain ⟨lu, lc, rfl, -⟩ := hO.form
      have hS : (wr.alloc (.cells #[.int .i64 key.1, .int .i64 (key.2 : Int)] 71)).cell? ⟨bb, 1, none⟩ = some (.map (some bm)) ∧ (wr.alloc (.cells #[.int .i64 key.1, .int .i64 (key.2 : Int)] 71)).cell? ⟨wr.heap.size, 0, none⟩ = some (.int .i64 key.1) ∧ (wr.alloc (.cells #[.int .i64 key.1, .int .i64 (key.2 : Int)] 71)).cell? ⟨wr.heap.size, 1, none⟩ = some (.int .i64 (key.2 : Int)) ∧ MapAt (wr.alloc (.cells #[.int .i64 key.1, .int .i64 (key.2 : Int)] 71)) bm n F ∧ OwnV (wr.alloc (.cells #[.int .i64 key.1, .int .i64 (key.2 : Int)] 71)) w.heap.size wr.heap.size (.slice lu ((order.take k).filterMap F).length lc) ((order.take k).filterMap F) ∧ wr.heap.size ≤ (wr.alloc (.cells #[.int .i64 key.1, .int .i64 (key.2 : Int)] 71)).heap.size ∧ Below w.heap.size w (wr.alloc (.cells #[.int .i64 key.1, .int .i64 (key.2 : Int)] 71)) :=
        ⟨keepc' hW.two.2 hbx, d0, d1, hW.m.kept hbx, hO.keep hbx (Nat.le_refl _), by simp, Below.then_ hB hbx⟩
      generalize (order.take k).filterMap F = L at *
      obtain ⟨L', hL'⟩ : ∃ L', (order.take (k + 1)).filterMap F = L' := ⟨_, rfl⟩
      rw [hL'] at htk
      have HL' := Lib.hid hL'
      clear hL' hW hok d0 d1 hbx hO hB
      cases hF : F key with
      | none =>
        rw [hF] at htk hlk
        simp only [Option.toList_none, List.append_nil] at htk
        subst htk
        replace hlk := fun W h => (show (Instr.lookup 54 (.map (some bm)) (.agg #[.int .i64 key.1, .int .i64 (key.2 : Int)]) true).run Try.prog W = .ok (.tuple #[.agg #[.int .i64 0, .int .i64 0, .bool false, .bool false], .bool false]) W from hlk W h)
        clear hF
        go_wp2_with (fail)
        have hS1 := bl_keep hS (show Below _ _ (World.drew _) from (Below.refl _ _).drew)
        refine wp_region_held_drew (S := fun W => W.cell? ⟨bb, 1, none⟩ = some (.map (some bm)) ∧ W.cell? ⟨wr.heap.size, 0, none⟩ = some (.int .i64 key.1) ∧ W.cell? ⟨wr.heap.size, 1, none⟩ = some (.int .i64 (key.2 : Int)) ∧ MapAt W bm n F ∧ OwnV W w.heap.size wr.heap.size (.slice lu L'.length lc) L' ∧ wr.heap.size ≤ W.heap.size ∧ Below w.heap.size w W) (by kernel_rfl) hS1 (fun hHeld => ?_)
        refine take_yes (i := 0) (oi := { dst := some 18, op := Op.move (Operand.tmp 0), type := 72, pos := "l11_addrs.go:126", after := #[], guard := none }) (v := .pointer (some ⟨bb, 0, none⟩)) rfl (by kernel_rfl) (by kernel_rfl) (by kernel_rfl) (fun _ _ _ h => h) (by rfl) (fun w hSw => by (try dsimp only at hSw); go_simp) (by assumption) ?_
        try simp only [Act.put, List.setIfInBounds_toArray, List.set_cons_zero, List.set_cons_succ]
        refine take_yes (i := 1) (oi := { dst := some 19, op := Op.nilCheck (Operand.tmp 18), type := 0, pos := "l11_addrs.go:126", after := #[{ on := 0, ground := Ground.data }], guard := none }) (v := .pointer (some ⟨bb, 0, none⟩)) rfl (by kernel_rfl) (by kernel_rfl) (by kernel_rfl) (fun _ _ _ h => h) (by rfl) (fun w hSw => by (try dsimp only at hSw); go_simp) (by assumption) ?_
        try simp only [Act.put, List.setIfInBounds_toArray, List.set_cons_zero, List.set_cons_succ]
        refine take_yes (i := 2) (oi := { dst := some 20, op := Op.fieldAddr 56 (Operand.tmp 19) 1, type := 0, pos := "l11_addrs.go:126", after := #[{ on := 1, ground := Ground.data }], guard := none }) (v := .pointer (some ⟨bb, 1, none⟩)) rfl (by kernel_rfl) (by kernel_rfl) (by kernel_rfl) (fun _ _ _ h => h) (by rfl) (fun w hSw => by (try dsimp only at hSw); go_simp) (by assumption) ?_
        try simp only [Act.put, List.setIfInBounds_toArray, List.set_cons_zero, List.set_cons_succ]
        refine take_yes (i := 3) (oi := { dst := some 21, op := Op.load 54 (Operand.tmp 20), type := 54, pos := "l11_addrs.go:126", after := #[{ on := 2, ground := Ground.data }], guard := none }) (v := .map (some bm)) rfl (by kernel_rfl) (by kernel_rfl) (by kernel_rfl) (fun _ _ _ h => h) (by rfl) (fun w hSw => by (try dsimp only at hSw); go_simp) (by assumption) ?_
        try simp only [Act.put, List.setIfInBounds_toArray, List.set_cons_zero, List.set_cons_succ]
        refine take_yes (i := 4) (oi := { dst := some 22, op := Op.load 71 (Operand.tmp 5), type := 71, pos := "l11_addrs.go:126", after := #[], guard := none }) (v := .agg #[.int .i64 key.1, .int .i64 (key.2 : Int)]) rfl (by kernel_rfl) (by kernel_rfl) (by kernel_rfl) (fun _ _ _ h => h) (by rfl) (fun w hSw => by (try dsimp only at hSw); go_simp) (by assumption) ?_
        try simp only [Act.put, List.setIfInBounds_toArray, List.set_cons_zero, List.set_cons_succ]
        refine take_yes (i := 5) (oi := { dst := some 23, op := Op.lookup 54 (Operand.tmp 21) (Operand.tmp 22) true, type := 76, pos := "l11_addrs.go:126", after := #[{ on := 3, ground := Ground.data }, { on := 4, ground := Ground.data }], guard := none }) (v := .tuple #[.agg #[.int .i64 0, .int .i64 0, .bool false, .bool false], .bool false]) rfl (by kernel_rfl) (by kernel_rfl) (by kernel_rfl) (fun _ _ _ h => h) (by rfl) (fun w hSw => by (try dsimp only at hSw); have hlw := hlk _ hSw.2.2.2.1; go_simp) (by assumption) ?_
        try simp only [Act.put, List.setIfInBounds_toArray, List.set_cons_zero, List.set_cons_succ]
        refine take_yes (i := 6) (oi := { dst := some 17, op := Op.move (Operand.tmp 23), type := 76, pos := "l11_addrs.go:126", after := #[{ on := 5, ground := Ground.data }], guard := none }) (v := .tuple #[.agg #[.int .i64 0, .int .i64 0, .bool false, .bool false], .bool false]) rfl (by kernel_rfl) (by kernel_rfl) (by kernel_rfl) (fun _ _ _ h => h) (by rfl) (fun w hSw => by (try dsimp only at hSw); go_simp) (by assumption) ?_
        try simp only [Act.put, List.setIfInBounds_toArray, List.set_cons_zero, List.set_cons_succ]
        refine take_yes (i := 7) (oi := { dst := some 24, op := Op.extract (Operand.tmp 17) 0, type := 26, pos := "l11_addrs.go:126", after := #[{ on := 6, ground := Ground.data }], guard := none }) (v := .agg #[.int .i64 0, .int .i64 0, .bool false, .bool false]) rfl (by kernel_rfl) (by kernel_rfl) (by kernel_rfl) (fun _ _ _ h => h) (by rfl) (fun w hSw => by (try dsimp only at hSw); go_simp) (by assumption) ?_
        try simp only [Act.put, List.setIfInBounds_toArray, List.set_cons_zero, List.set_cons_succ]
        refine take_yes (i := 8) (oi := { dst := some 25, op := Op.extract (Operand.tmp 17) 1, type := 4, pos := "l11_addrs.go:126", after := #[{ on := 6, ground := Ground.data }, { on := 10, ground := Ground.gcOnly Departure.lateStores }], guard := none }) (v := .bool false) rfl (by kernel_rfl) (by kernel_rfl) (by kernel_rfl) (fun _ _ _ h => h) (by rfl) (fun w hSw => by (try dsimp only at hSw); go_simp) (by assumption) ?_
        try simp only [Act.put, List.setIfInBounds_toArray, List.set_cons_zero, List.set_cons_succ]
        refine wpAnyH_ready (rs := [9]) (by kernel_rfl) (by simp) ?_
        refine AllReadyH.cons (o := { dst := some 6, op := Op.alloc 26, type := 0, pos := "l11_addrs.go:126", after := #[], guard := none }) rfl (fun K hK => ?_) AllReadyH.nil
        go_simp
        have K9 := bl_keep hHeld (below_new _ (.cells #[.int .i64 0, .int .i64 0, .bool false, .bool false] 26))
        refine hK.out _ _ K9 (fun hHeldN => ?_)
        clear hK K hHeld
        have hHeld := hHeldN
        clear hHeldN
        try simp only [Act.put, List.setIfInBounds_toArray, List.set_cons_zero, List.set_cons_succ]
        refine wpAnyH_ready (rs := [10]) (by kernel_rfl) (by simp) ?_
        refine AllReadyH.cons (o := { dst := none, op := Op.store 26 (Operand.tmp 6) (Operand.tmp 24), type := 0, pos := "l11_addrs.go:126", after := #[{ on := 9, ground := Ground.data }, { on := 7, ground := Ground.data }, { on := 0, ground := Ground.phase }, { on := 1, ground := Ground.phase }, { on := 2, ground := Ground.phase }, { on := 3, ground := Ground.phase }, { on := 4, ground := Ground.phase }, { on := 5, ground := Ground.phase }, { on := 6, ground := Ground.phase }, { on := 7, ground := Ground.phase }, { on := 8, ground := Ground.textOnly Departure.lateStores }, { on := 9, ground := Ground.phase }], guard := none }) rfl (fun K hK => ?_) AllReadyH.nil
        go_simp
        have K10 := bl_keep hS (show Below _ _ (World.drew (World.alloc _ (.cells #[.int .i64 0, .int .i64 0, .bool false, .bool false] 26))) from (below_new _ _).drew)
        refine hK.out _ _ K10 (fun hHeldN => ?_)
        clear hK K hHeld
        have hHeld := hHeldN
        clear hHeldN
        try simp only [Act.put, List.setIfInBounds_toArray, List.set_cons_zero, List.set_cons_succ]
        refine take_yes (i := 11) (oi := { dst := some 7, op := Op.assign (Operand.tmp 25), type := 4, pos := "l11_addrs.go:126", after := #[{ on := 8, ground := Ground.data }, { on := 10, ground := Ground.chain }, { on := 0, ground := Ground.phase }, { on := 1, ground := Ground.phase }, { on := 2, ground := Ground.phase }, { on := 3, ground := Ground.phase }, { on := 4, ground := Ground.phase }, { on := 5, ground := Ground.phase }, { on := 6, ground := Ground.phase }, { on := 7, ground := Ground.phase }, { on := 8, ground := Ground.phase }, { on := 9, ground := Ground.phase }, { on := 10, ground := Ground.phase }], guard := none }) (v := .bool false) rfl (by kernel_rfl) (by kernel_rfl) (by kernel_rfl) (fun _ _ _ h => h) (by rfl) (fun w hSw => by (try dsimp only at hSw); go_simp) (by assumption) ?_
        try simp only [Act.put, List.setIfInBounds_toArray, List.set_cons_zero, List.set_cons_succ]
        refine wpAnyH_done (by kernel_rfl) ?_ _
        have hHeld2 := hHeld
        clear hHeld
        obtain ⟨-, -, -, -, f4, f5, f6⟩ := hHeld2
        have HF := Lib.hid (And.intro (f4.mono (Nat.le_refl _) f5) f6)
        clear f4 f5 f6 hS hS1 hlk k0 k1
        go_wp2_with (fail)
        go_roundw
        case rel => exact ⟨k + 1, by omega, by go_num, by rw [HL'.out]; exact HF.out.1, HF.out.2⟩
        case measure => simp [intOf]; omega
      | some y =>
        rw [hF] at htk hlk
        simp only [Option.toList_some] at htk
        replace hlk := fun W h => (show (Instr.lookup 54 (.map (some bm)) (.agg #[.int .i64 key.1, .int .i64 (key.2 : Int)]) true).run Try.prog W = .ok (.tuple #[.agg #[.int .i64 y.id, .int .i64 y.addr, .bool y.spare, .bool y.told], .bool true]) W from hlk W h)
        clear hF
        go_wp2_with (fail)
        have hS1 := bl_keep hS (show Below _ _ (World.drew _) from (Below.refl _ _).drew)
        refine wp_region_held_drew (S := fun W => W.cell? ⟨bb, 1, none⟩ = some (.map (some bm)) ∧ W.cell? ⟨wr.heap.size, 0, none⟩ = some (.int .i64 key.1) ∧ W.cell? ⟨wr.heap.size, 1, none⟩ = some (.int .i64 (key.2 : Int)) ∧ MapAt W bm n F ∧ OwnV W w.heap.size wr.heap.size (.slice lu L.length lc) L ∧ wr.heap.size ≤ W.heap.size ∧ Below w.heap.size w W) (by kernel_rfl) hS1 (fun hHeld => ?_)
        refine take_yes (i := 0) (oi := { dst := some 18, op := Op.move (Operand.tmp 0), type := 72, pos := "l11_addrs.go:126", after := #[], guard := none }) (v := .pointer (some ⟨bb, 0, none⟩)) rfl (by kernel_rfl) (by kernel_rfl) (by kernel_rfl) (fun _ _ _ h => h) (by rfl) (fun w hSw => by (try dsimp only at hSw); go_simp) (by assumption) ?_
        try simp only [Act.put, List.setIfInBounds_toArray, List.set_cons_zero, List.set_cons_succ]
        refine take_yes (i := 1) (oi := { dst := some 19, op := Op.nilCheck (Operand.tmp 18), type := 0, pos := "l11_addrs.go:126", after := #[{ on := 0, ground := Ground.data }], guard := none }) (v := .pointer (some ⟨bb, 0, none⟩)) rfl (by kernel_rfl) (by kernel_rfl) (by kernel_rfl) (fun _ _ _ h => h) (by rfl) (fun w hSw => by (try dsimp only at hSw); go_simp) (by assumption) ?_
        try simp only [Act.put, List.setIfInBounds_toArray, List.set_cons_zero, List.set_cons_succ]
        refine take_yes (i := 2) (oi := { dst := some 20, op := Op.fieldAddr 56 (Operand.tmp 19) 1, type := 0, pos := "l11_addrs.go:126", after := #[{ on := 1, ground := Ground.data }], guard := none }) (v := .pointer (some ⟨bb, 1, none⟩)) rfl (by kernel_rfl) (by kernel_rfl) (by kernel_rfl) (fun _ _ _ h => h) (by rfl) (fun w hSw => by (try dsimp only at hSw); go_simp) (by assumption) ?_
        try simp only [Act.put, List.setIfInBounds_toArray, List.set_cons_zero, List.set_cons_succ]
        refine take_yes (i := 3) (oi := { dst := some 21, op := Op.load 54 (Operand.tmp 20), type := 54, pos := "l11_addrs.go:126", after := #[{ on := 2, ground := Ground.data }], guard := none }) (v := .map (some bm)) rfl (by kernel_rfl) (by kernel_rfl) (by kernel_rfl) (fun _ _ _ h => h) (by rfl) (fun w hSw => by (try dsimp only at hSw); go_simp) (by assumption) ?_
        try simp only [Act.put, List.setIfInBounds_toArray, List.set_cons_zero, List.set_cons_succ]
        refine take_yes (i := 4) (oi := { dst := some 22, op := Op.load 71 (Operand.tmp 5), type := 71, pos := "l11_addrs.go:126", after := #[], guard := none }) (v := .agg #[.int .i64 key.1, .int .i64 (key.2 : Int)]) rfl (by kernel_rfl) (by kernel_rfl) (by kernel_rfl) (fun _ _ _ h => h) (by rfl) (fun w hSw => by (try dsimp only at hSw); go_simp) (by assumption) ?_
        try simp only [Act.put, List.setIfInBounds_toArray, List.set_cons_zero, List.set_cons_succ]
        refine take_yes (i := 5) (oi := { dst := some 23, op := Op.lookup 54 (Operand.tmp 21) (Operand.tmp 22) true, type := 76, pos := "l11_addrs.go:126", after := #[{ on := 3, ground := Ground.data }, { on := 4, ground := Ground.data }], guard := none }) (v := .tuple #[.agg #[.int .i64 y.id, .int .i64 y.addr, .bool y.spare, .bool y.told], .bool true]) rfl (by kernel_rfl) (by kernel_rfl) (by kernel_rfl) (fun _ _ _ h => h) (by rfl) (fun w hSw => by (try dsimp only at hSw); have hlw := hlk _ hSw.2.2.2.1; go_simp) (by assumption) ?_
        try simp only [Act.put, List.setIfInBounds_toArray, List.set_cons_zero, List.set_cons_succ]
        refine take_yes (i := 6) (oi := { dst := some 17, op := Op.move (Operand.tmp 23), type := 76, pos := "l11_addrs.go:126", after := #[{ on := 5, ground := Ground.data }], guard := none }) (v := .tuple #[.agg #[.int .i64 y.id, .int .i64 y.addr, .bool y.spare, .bool y.told], .bool true]) rfl (by kernel_rfl) (by kernel_rfl) (by kernel_rfl) (fun _ _ _ h => h) (by rfl) (fun w hSw => by (try dsimp only at hSw); go_simp) (by assumption) ?_
        try simp only [Act.put, List.setIfInBounds_toArray, List.set_cons_zero, List.set_cons_succ]
        refine take_yes (i := 7) (oi := { dst := some 24, op := Op.extract (Operand.tmp 17) 0, type := 26, pos := "l11_addrs.go:126", after := #[{ on := 6, ground := Ground.data }], guard := none }) (v := .agg #[.int .i64 y.id, .int .i64 y.addr, .bool y.spare, .bool y.told]) rfl (by kernel_rfl) (by kernel_rfl) (by kernel_rfl) (fun _ _ _ h => h) (by rfl) (fun w hSw => by (try dsimp only at hSw); go_simp) (by assumption) ?_
        try simp only [Act.put, List.setIfInBounds_toArray, List.set_cons_zero, List.set_cons_succ]
        refine take_yes (i := 8) (oi := { dst := some 25, op := Op.extract (Operand.tmp 17) 1, type := 4, pos := "l11_addrs.go:126", after := #[{ on := 6, ground := Ground.data }, { on := 10, ground := Ground.gcOnly Departure.lateStores }], guard := none }) (v := .bool true) rfl (by kernel_rfl) (by kernel_rfl) (by kernel_rfl) (fun _ _ _ h => h) (by rfl) (fun w hSw => by (try dsimp only at hSw); go_simp) (by assumption) ?_
        try simp only [Act.put, List.setIfInBounds_toArray, List.set_cons_zero, List.set_cons_succ]
        refine wpAnyH_ready (rs := [9]) (by kernel_rfl) (by simp) ?_
        refine AllReadyH.cons (o := { dst := some 6, op := Op.alloc 26, type := 0, pos := "l11_addrs.go:126", after := #[], guard := none }) rfl (fun K hK => ?_) AllReadyH.nil
        go_simp
        have K9 := bl_keep hHeld (below_new _ (.cells #[.int .i64 0, .int .i64 0, .bool false, .bool false] 26))
        refine hK.out _ _ K9 (fun hHeldN => ?_)
        clear hK K hHeld
        have hHeld := hHeldN
        clear hHeldN
        try simp only [Act.put, List.setIfInBounds_toArray, List.set_cons_zero, List.set_cons_succ]
        refine wpAnyH_ready (rs := [10]) (by kernel_rfl) (by simp) ?_
        refine AllReadyH.cons (o := { dst := none, op := Op.store 26 (Operand.tmp 6) (Operand.tmp 24), type := 0, pos := "l11_addrs.go:126", after := #[{ on := 9, ground := Ground.data }, { on := 7, ground := Ground.data }, { on := 0, ground := Ground.phase }, { on := 1, ground := Ground.phase }, { on := 2, ground := Ground.phase }, { on := 3, ground := Ground.phase }, { on := 4, ground := Ground.phase }, { on := 5, ground := Ground.phase }, { on := 6, ground := Ground.phase }, { on := 7, ground := Ground.phase }, { on := 8, ground := Ground.textOnly Departure.lateStores }, { on := 9, ground := Ground.phase }], guard := none }) rfl (fun K hK => ?_) AllReadyH.nil
        go_simp
        have K10 := bl_keep hS (show Below _ _ (World.drew (World.alloc _ (.cells #[.int .i64 y.id, .int .i64 y.addr, .bool y.spare, .bool y.told] 26))) from (below_new _ _).drew)
        refine hK.out _ _ K10 (fun hHeldN => ?_)
        clear hK K hHeld
        have hHeld := hHeldN
        clear hHeldN
        try simp only [Act.put, List.setIfInBounds_toArray, List.set_cons_zero, List.set_cons_succ]
        refine take_yes (i := 11) (oi := { dst := some 7, op := Op.assign (Operand.tmp 25), type := 4, pos := "l11_addrs.go:126", after := #[{ on := 8, ground := Ground.data }, { on := 10, ground := Ground.chain }, { on := 0, ground := Ground.phase }, { on := 1, ground := Ground.phase }, { on := 2, ground := Ground.phase }, { on := 3, ground := Ground.phase }, { on := 4, ground := Ground.phase }, { on := 5, ground := Ground.phase }, { on := 6, ground := Ground.phase }, { on := 7, ground := Ground.phase }, { on := 8, ground := Ground.phase }, { on := 9, ground := Ground.phase }, { on := 10, ground := Ground.phase }], guard := none }) (v := .bool true) rfl (by kernel_rfl) (by kernel_rfl) (by kernel_rfl) (fun _ _ _ h => h) (by rfl) (fun w hSw => by (try dsimp only at hSw); go_simp) (by assumption) ?_
        try simp only [Act.put, List.setIfInBounds_toArray, List.set_cons_zero, List.set_cons_succ]
        refine wpAnyH_done (by kernel_rfl) ?_ _
        have hHeld2 := hHeld
        clear hHeld
        obtain ⟨-, -, -, -, f4, f5, f6⟩ := hHeld2
        have f4 := f4.mono (Nat.le_refl _) f5
        have hC6 : Cel ((wr.alloc (.cells #[.int .i64 key.1, .int .i64 (key.2 : Int)] 71)).alloc (.cells #[.int .i64 y.id, .int .i64 y.addr, .bool y.spare, .bool y.told] 26)).drew (wr.heap.size + 1) 26 #[.int .i64 y.id, .int .i64 y.addr, .bool y.spare, .bool y.told] := by
          have := (Cel.new (wr.alloc (.cells #[.int .i64 key.1, .int .i64 (key.2 : Int)] 71)) 26 #[.int .i64 y.id, .int .i64 y.addr, .bool y.spare, .bool y.told]).drew
          rw [World.size_alloc] at this
          exact this
        clear f5 hS hS1 hlk k0 k1
        generalize ((wr.alloc (.cells #[.int .i64 key.1, .int .i64 (key.2 : Int)] 71)).alloc (.cells #[.int .i64 y.id, .int .i64 y.addr, .bool y.spare, .bool y.told] 26)).drew = w5 at *
        generalize wr.heap.size + 1 = b6 at *
        obtain ⟨d0, d1, d2, d3⟩ := cel4a hC6
        have HF := Lib.hid (And.intro (eown_alloc f4 (.cells #[.int .i64 y.id, .int .i64 y.addr, .bool y.spare, .bool y.told] 26)) (And.intro (Below.then_ f6 (below_av w5 y)) (And.intro (Cel.new w5 26 #[.int .i64 y.id, .int .i64 y.addr, .bool y.spare, .bool y.told]) (show w.heap.size ≤ (w5.alloc (.cells #[.int .i64 y.id, .int .i64 y.addr, .bool y.spare, .bool y.told] 26)).heap.size from (Below.then_ f6 (below_av w5 y)).size))))
        clear f4 f6 hC6
        go_wp2_with (at_builtin; refine wpList_append_els avK rfl _ _ 24 24 rfl uAv uAv w.heap.size _ (.slice (some ⟨w5.heap.size, 0, none⟩) 1 1) L [y] rfl rfl HF.out.1 HF.out.2.2.2 (rd_box HF.out.2.2.1) (by simp; omega) ?_; intro u' w6 hown hgrow hloc; have HN := Lib.hid (And.intro hown (HF.out.2.1.grown hgrow HF.out.2.2.2 (fun g hg => (HF.out.1.block g hg).1))); rw [← htk] at HN; clear hown hgrow hloc)
        obtain ⟨ua2, uc2, rfl, -⟩ := HN.out.1.form
        go_wp2_with (fail)
        go_roundw
        case rel => exact ⟨k + 1, by omega, by go_num, by rw [HL'.out]; exact HN.out.1, HN.out.2⟩
        case measure => simp [intOf]; omega
    · obtain rfl : k = order.length := by omega
      have q : ¬ (order.length : Int) < (order.length : Int) := by omega
      rw [List.take_length] at hO
      have HX := Lib.hid (And.intro hO hB)
      obtain ⟨ua, uc, rfl, -⟩ := hO.form
      clear hO hB
      go_wp2_with (fail)
      go_ret
      exact ⟨_, rfl, HX.out.1, HX.out.2⟩
end Go.Proofs.Ytmfbhejclmelaaa
