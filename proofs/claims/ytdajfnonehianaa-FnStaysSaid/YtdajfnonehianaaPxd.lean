import Derived.Test.YtdajfnonehianaaPxb
namespace Go.Proofs.Ytdajfnonehianaa
open Go.RowKit

/-- What DrawPutPiece draws of these bytes. -/
noncomputable def drS1 (bs : List Nat) : St := (anyP (newS bs)).2
noncomputable def drAt (bs : List Nat) : Int := ([0, 5, 9, 12, 20, 30, ((byteR (drS1 bs) % 60 : Nat) : Int), -1, 1000000000, 1000000001] : List Int).getD (byteR (byteS (drS1 bs)) % 10) 0
noncomputable def drK (bs : List Nat) : Int := ([1, 3, 8, 20, 0, 120] : List Int).getD (byteR (byteS (byteS (drS1 bs))) % 6) 0
noncomputable def drT (bs : List Nat) : ByteArray := textT (byteS (byteS (byteS (drS1 bs)))) (drK bs).toNat
theorem drK_le (bs : List Nat) : 0 ≤ drK bs ∧ drK bs ≤ 120 := by
  unfold drK
  have : byteR (byteS (byteS (drS1 bs))) % 6 < 6 := Nat.mod_lt _ (by omega)
  generalize byteR (byteS (byteS (drS1 bs))) % 6 = j at *
  match j, this with
  | 0, _ => decide
  | 1, _ => decide
  | 2, _ => decide
  | 3, _ => decide
  | 4, _ => decide
  | 5, _ => decide
theorem drT_size (bs : List Nat) : (drT bs).size ≤ 120 := by
  unfold drT
  rw [textT_size]
  have := drK_le bs
  omega

/-- A draw that made its own cursor, in block g; its stream in block b, the list between the two. -/
structure Qe (w W : World) (g : Nat) (v : Value) (s : St) (b : Nat) (x : Int) (t : ByteArray) (u : Value) (ms : List Pc) : Prop where
  d : DrX W g v s
  bl : Below w.heap.size w W
  c : Cel W b 26 #[.int .i64 x, .string t, u]
  l : LieE pcK W (g + 1) b u ms
  res : ∃ r0 r1 r2, Cel W w.heap.size 26 #[r0, r1, r2]
  h1 : w.heap.size < g
  h2 : g < b
section
variable {w W W' : World} {g b : Nat} {v u : Value} {s s' : St} {x : Int} {t : ByteArray} {ms : List Pc}
theorem Qe.grew (h : Qe w W g v s b x t u ms) (hG : Grew g W W') (hd : DrX W' g v s') : Qe w W' g v s' b x t u ms := by
  obtain ⟨r0, r1, r2, hr⟩ := h.res
  have h1 := h.h1
  have h2 := h.h2
  have hz := h.c.lt
  exact ⟨hd, hG.chain h.bl (by omega) (by omega), h.c.grew hG (by omega), h.l.keepAt (fun k hk hk2 => hG.block k (by omega) (fun e => by injection e with e; omega)), ⟨r0, r1, r2, hr.grew hG (by omega)⟩, h1, h2⟩
theorem Qe.only (h : Qe w W g v s b x t u ms) (ho : Only g W W') (hd : DrX W' g v s') : Qe w W' g v s' b x t u ms := h.grew ho.grew hd
theorem Qe.kept (h : Qe w W g v s b x t u ms) (hb : Below W.heap.size W W') : Qe w W' g v s b x t u ms := h.grew (Grew.of_below hb (Nat.le_refl _)) (h.d.below hb h.d.blk)
theorem Qe.all (h : Qe w W g v s b x t u ms) : W.cell? ⟨b, 0, none⟩ = some (.int .i64 x) ∧ W.cell? ⟨b, 1, none⟩ = some (.string t) ∧ W.cell? ⟨b, 2, none⟩ = some u := cel3' h.c
theorem Qe.rs (h : Qe w W g v s b x t u ms) : ∃ r0 r1 r2, W.cell? ⟨w.heap.size, 0, none⟩ = some r0 ∧ W.cell? ⟨w.heap.size, 1, none⟩ = some r1 ∧ W.cell? ⟨w.heap.size, 2, none⟩ = some r2 ∧ W.frozen? ⟨w.heap.size, 0, none⟩ = false ∧ W.frozen? ⟨w.heap.size, 1, none⟩ = false ∧ W.frozen? ⟨w.heap.size, 2, none⟩ = false := by
  obtain ⟨r0, r1, r2, hz⟩ := h.res
  obtain ⟨a, b, c⟩ := cel3' hz
  exact ⟨r0, r1, r2, a, b, c, hz.frozen 0, hz.frozen 1, hz.frozen 2⟩
theorem Qe.give (h : Qe w W g v s b x t u ms) : Cel (((W.setCell ⟨w.heap.size, 0, none⟩ (.int .i64 x)).setCell ⟨w.heap.size, 1, none⟩ (.string t)).setCell ⟨w.heap.size, 2, none⟩ u) w.heap.size 26 #[.int .i64 x, .string t, u] ∧
    LieE pcK (((W.setCell ⟨w.heap.size, 0, none⟩ (.int .i64 x)).setCell ⟨w.heap.size, 1, none⟩ (.string t)).setCell ⟨w.heap.size, 2, none⟩ u) (w.heap.size + 1) (((W.setCell ⟨w.heap.size, 0, none⟩ (.int .i64 x)).setCell ⟨w.heap.size, 1, none⟩ (.string t)).setCell ⟨w.heap.size, 2, none⟩ u).heap.size u ms ∧
    Below w.heap.size w (((W.setCell ⟨w.heap.size, 0, none⟩ (.int .i64 x)).setCell ⟨w.heap.size, 1, none⟩ (.string t)).setCell ⟨w.heap.size, 2, none⟩ u) ∧
    Cel (((W.setCell ⟨w.heap.size, 0, none⟩ (.int .i64 x)).setCell ⟨w.heap.size, 1, none⟩ (.string t)).setCell ⟨w.heap.size, 2, none⟩ u) b 26 #[.int .i64 x, .string t, u] := by
  obtain ⟨r0, r1, r2, hz⟩ := h.res
  have h1 := h.h1
  have h2 := h.h2
  have hlt := h.c.lt
  refine ⟨?_, ?_, ((h.bl.setCell (p := ⟨w.heap.size, 0, none⟩) (Nat.le_refl _) _).setCell (p := ⟨w.heap.size, 1, none⟩) (Nat.le_refl _) _).setCell (p := ⟨w.heap.size, 2, none⟩) (Nat.le_refl _) _, ((h.c.other _ _ (by simp; omega)).other _ _ (by simp; omega)).other _ _ (by simp; omega)⟩
  · have := ((hz.set 0 (.int .i64 x)).set 1 (.string t)).set 2 u
    simpa using this
  · have hl2 : LieE pcK (((W.setCell ⟨w.heap.size, 0, none⟩ (.int .i64 x)).setCell ⟨w.heap.size, 1, none⟩ (.string t)).setCell ⟨w.heap.size, 2, none⟩ u) (g + 1) b u ms := h.l.keepAt fun k hk _ => by
      have hne : k ≠ w.heap.size := by omega
      rw [Below.heap_setCell _ _ _ _ hne, Below.heap_setCell _ _ _ _ hne, Below.heap_setCell _ _ _ _ hne]
    exact hl2.mono (by omega) (by simp; omega)
end
/-- A stream in a block of its own, and two results more. -/
theorem ps_result3 {W : World} {g : Nat} {r : Int} {t : ByteArray} {v : Value} (h : Cel W g 26 #[.int .i64 r, .string t, v]) {fn : Func} {p a b : Tmp} (hr : fn.results = #[.cell p 26, .tmp a, .tmp b]) (tmps : Array Value) (hp : tmps.getD p undef = .pointer (some ⟨g, 0, none⟩)) :
    (results fn tmps).run Try.prog W = .ok (.tuple #[.agg #[.int .i64 r, .string t, v], tmps.getD a undef, tmps.getD b undef]) W := by
  have hl := run_loadVar_row W g 26 26 _ (0, 0) _ h Try.underlying26 rfl (show _ = some 3 by kernel_rfl)
  unfold results
  rw [hr]
  have hp2 : tmps[p]?.getD undef = .pointer (some ⟨g, 0, none⟩) := by simpa using hp
  simp [asAddr, Result.andThen]
  rw [hp2]
  simp [hl]

set_option linter.unusedSimpArgs false in
set_option maxRecDepth 100000 in
set_option maxHeartbeats 16000000 in
theorem draw_put_x (bs : List Nat) (hlt : ∀ x ∈ bs, x < 256) (hn : bs.length ≤ 1048576) (v : Value) (w : World) (hv : RdN w v bs) :
    Calls Try.prog 12 #[v] w fun e w' => ∃ u, e = .returned (.tuple #[.agg #[.int .i64 (anyP (newS bs)).1.read, .string (anyP (newS bs)).1.ready, u], .int .i64 (drAt bs), .string (drT bs)]) ∧ LieE pcK w' (w.heap.size + 1) w'.heap.size u (anyP (newS bs)).1.list ∧ Below w.heap.size w w' := by
  have hs := newS_ok bs hlt hn
  have hb0 := below_new w (.cells #[.int .i64 0, .string ⟨#[]⟩, .slice none 0 0] 26)
  have hC0 := Cel.new w 26 #[.int .i64 0, .string ⟨#[]⟩, .slice none 0 0]
  have cN := new_f v bs _ (hv.below hb0 hv.lt) hlt hn
  obtain ⟨-, ok1, -⟩ := any_ok (newS bs) hs
  have cA := fun W g h => any_x (newS bs) hs W g v h
  have hkl := drK_le bs
  unfold drT drAt
  have HK := Lib.hid (show ([1, 3, 8, 20, 0, 120] : List Int).getD (byteR (byteS (byteS (drS1 bs))) % 6) 0 = drK bs from rfl)
  generalize drK bs = dk at *
  unfold drS1 at *
  have H0 := Lib.hid (And.intro hb0 hC0)
  have hs0 : (w.alloc (.cells #[.int .i64 0, .string ⟨#[]⟩, .slice none 0 0] 26)).heap.size = w.heap.size + 1 := by simp
  rw [hs0] at cN
  clear hb0 hC0 hv
  generalize anyP (newS bs) = R at *
  obtain ⟨⟨r, t, ms⟩, s1⟩ := R
  simp only at ok1 cA HK ⊢
  obtain ⟨at_, hat⟩ : ∃ z, ([0, 5, 9, 12, 20, 30, ((byteR s1 % 60 : Nat) : Int), -1, 1000000000, 1000000001] : List Int).getD (byteR (byteS s1) % 10) 0 = z := ⟨_, rfl⟩
  rw [hat]
  have ok2 := byte_ok ok1
  have ok3 := byte_ok ok2
  have ok4 := byte_ok ok3
  have c60 := fun W g h => bel_x s1 ok1 60 (by omega) (by omega) 60 rfl W g v h
  have cP := fun W g h b hc hb => pick_x (byteS s1) ok2 [0, 5, 9, 12, 20, 30, ((byteR s1 % 60 : Nat) : Int), -1, 1000000000, 1000000001] 10 rfl (by omega) (by omega) W g v h b 10 #[.int .i64 0, .int .i64 5, .int .i64 9, .int .i64 12, .int .i64 20, .int .i64 30, .int .i64 ((byteR s1 % 60 : Nat) : Int), .int .i64 (-1), .int .i64 1000000000, .int .i64 1000000001] rfl hc hb
  have cK := fun W g h b hc hb => pick_x (byteS (byteS s1)) ok3 [1, 3, 8, 20, 0, 120] 6 rfl (by omega) (by omega) W g v h b 6 #[.int .i64 1, .int .i64 3, .int .i64 8, .int .i64 20, .int .i64 0, .int .i64 120] rfl hc hb
  rw [HK.out] at cK
  rw [hat] at cP
  have cT := fun W g h => txt_x (byteS (byteS (byteS s1))) ok4 dk.toNat (by omega) dk (by omega) W g v h
  generalize textT (byteS (byteS (byteS s1))) dk.toNat = tx at *
  generalize (textL (byteS (byteS (byteS s1))) dk.toNat).2 = s5 at *
  clear HK hat ok1 ok2 ok3 ok4 hkl hs hlt hn
  generalize byteS (byteS (byteS s1)) = s4 at *
  generalize byteS (byteS s1) = s3 at *
  generalize byteS s1 = s2 at *
  generalize byteR s1 % 60 = k60 at *
  go_enter Try.func12, Try.ntmps12
  go_upto_region 1 with (fail)
  generalize w.alloc (.cells #[.int .i64 0, .string ⟨#[]⟩, .slice none 0 0] 26) = w0 at *
  go_wp2_with (fail)
  with_reducible refine cN.mono ?_
  rintro e w1 ⟨rfl, d1, b1⟩
  rw [← hs0] at b1
  have hB1 := Below.then_ H0.out.1 b1
  have hC1 := H0.out.2.kept b1
  have hz1 := d1.blk
  obtain ⟨g, hg⟩ : ∃ g, w.heap.size + 1 = g := ⟨_, rfl⟩
  have hgw : w.heap.size < g := by omega
  rw [hg] at d1 hz1 ⊢
  have H1 := Lib.hid (And.intro hB1 hC1)
  clear H0 b1 hB1 hC1 hs0 hg cN
  go_wp2_with (fail)
  with_reducible refine (cA _ g d1).mono ?_
  rintro e w2 ⟨u, rfl, hl2, d2, o2⟩
  have hB2 := o2.chain H1.out.1 (by omega) (by omega)
  have hC2 := H1.out.2.grew o2 (by omega)
  have hb3 := below_new w2 (.cells #[.int .i64 r, .string t, u] 26)
  have hl3 : LieE pcK w2 (g + 1) w2.heap.size u ms := hl2.mono (by omega) (Nat.le_refl _)
  obtain ⟨ua, uc, rfl, -⟩ := hl3.form
  have Q3 : Qe w (w2.alloc (.cells #[.int .i64 r, .string t, .slice ua ms.length uc] 26)) g v s1 w2.heap.size r t (.slice ua ms.length uc) ms :=
    ⟨d2.below hb3 d2.blk, Below.then_ hB2 hb3, Cel.new _ _ _, hl3.keep hb3 (Nat.le_refl _), ⟨_, _, _, hC2.kept hb3⟩, hgw, d2.blk⟩
  have H3 := Lib.hid Q3.c
  have HQ := Lib.hid Q3
  clear H1 d1 o2 hB2 hC2 hz1 hl2 hl3 hb3 Q3 d2 cA H3
  go_upto_region 3 with (fail)
  obtain ⟨b, hb⟩ : ∃ b, w2.heap.size = b := ⟨_, rfl⟩
  rw [hb] at HQ ⊢
  generalize w2.alloc (.cells #[.int .i64 r, .string t, .slice ua ms.length uc] 26) = w3 at *
  clear hb
  have HQ := Lib.hid (HQ.out.kept (Below.refl _ _).drew)
  have e0 := HQ.out.all
  refine wp_region_held_drew (S := fun W => W.cell? ⟨b, 0, none⟩ = some (.int .i64 r) ∧ W.cell? ⟨b, 1, none⟩ = some (.string t) ∧ W.cell? ⟨b, 2, none⟩ = some (.slice ua ms.length uc)) (by kernel_rfl) e0 (fun hHeld => ?_)
  clear e0
  generalize w3.drew = wd at *
  refine take_yes (i := 0) (oi := { dst := some 11, op := Op.load 26 (Operand.tmp 6), type := 26, pos := "l09_pieces.go:148", after := #[], guard := none }) (v := .agg #[.int .i64 r, .string t, .slice ua ms.length uc]) rfl (by kernel_rfl) (by kernel_rfl) (by kernel_rfl) (fun _ _ _ h => h) (by rfl) (fun w hSw => by (try dsimp only at hSw); go_simp) (by assumption) ?_
  try simp only [Act.put, List.setIfInBounds_toArray, List.set_cons_zero, List.set_cons_succ]
  refine take_yes (i := 1) (oi := { dst := some 12, op := Op.move (Operand.tmp 5), type := 53, pos := "l09_pieces.go:148", after := #[], guard := none }) (v := .pointer (some ⟨g, 0, none⟩)) rfl (by kernel_rfl) (by kernel_rfl) (by kernel_rfl) (fun _ _ _ h => h) (by rfl) (fun w hSw => by (try dsimp only at hSw); go_simp) (by assumption) ?_
  try simp only [Act.put, List.setIfInBounds_toArray, List.set_cons_zero, List.set_cons_succ]
  refine take_yes (i := 2) (oi := { dst := some 13, op := Op.move (Operand.tmp 5), type := 53, pos := "l09_pieces.go:148", after := #[], guard := none }) (v := .pointer (some ⟨g, 0, none⟩)) rfl (by kernel_rfl) (by kernel_rfl) (by kernel_rfl) (fun _ _ _ h => h) (by rfl) (fun w hSw => by (try dsimp only at hSw); go_simp) (by assumption) ?_
  try simp only [Act.put, List.setIfInBounds_toArray, List.set_cons_zero, List.set_cons_succ]
  refine take_yes (i := 6) (oi := { dst := some 17, op := Op.move (Operand.tmp 5), type := 53, pos := "l09_pieces.go:148", after := #[], guard := none }) (v := .pointer (some ⟨g, 0, none⟩)) rfl (by kernel_rfl) (by kernel_rfl) (by kernel_rfl) (fun _ _ _ h => h) (by rfl) (fun w hSw => by (try dsimp only at hSw); go_simp) (by assumption) ?_
  try simp only [Act.put, List.setIfInBounds_toArray, List.set_cons_zero, List.set_cons_succ]
  refine take_yes (i := 7) (oi := { dst := some 18, op := Op.move (Operand.tmp 5), type := 53, pos := "l09_pieces.go:148", after := #[], guard := none }) (v := .pointer (some ⟨g, 0, none⟩)) rfl (by kernel_rfl) (by kernel_rfl) (by kernel_rfl) (fun _ _ _ h => h) (by rfl) (fun w hSw => by (try dsimp only at hSw); go_simp) (by assumption) ?_
  try simp only [Act.put, List.setIfInBounds_toArray, List.set_cons_zero, List.set_cons_succ]
  refine wpAnyH_ready (rs := [3, 8]) (by kernel_rfl) (by simp) ?_
  refine AllReadyH.cons (o := { dst := some 14, op := Op.call { callee := Callee.value (Operand.func 38), args := #[Operand.tmp 13, Operand.const (Value.int IntKind.i64 60)], argTypes := #[53, 3] }, type := 3, pos := "l09_pieces.go:148", after := #[{ on := 2, ground := Ground.data }], guard := none }) rfl (fun K hK => ?_) ?_
  · go_simp
    with_reducible refine (c60 _ g HQ.out.d).mono ?_
    rintro e wA1 ⟨rfl, dA, oA⟩
    have HX1 := Lib.hid (HQ.out.only oA dA)
    have HX1e := HX1.out.all
    clear dA oA c60 HQ
    refine hK.out _ _ HX1e (fun hHeldN => ?_)
    clear hK K hHeld
    have hHeld := hHeldN
    clear hHeldN
    try simp only [Act.put, List.setIfInBounds_toArray, List.set_cons_zero, List.set_cons_succ]
    refine wpAnyH_ready (rs := [4, 8]) (by kernel_rfl) (by simp) ?_
    refine AllReadyH.cons (o := { dst := some 15, op := Op.buildSlice 58 10 #[(0, Operand.const (Value.int IntKind.i64 0)), (1, Operand.const (Value.int IntKind.i64 5)), (2, Operand.const (Value.int IntKind.i64 9)), (3, Operand.const (Value.int IntKind.i64 12)), (4, Operand.const (Value.int IntKind.i64 20)), (5, Operand.const (Value.int IntKind.i64 30)), (6, Operand.tmp 14), (7, Operand.const (Value.int IntKind.i64 (-1))), (8, Operand.const (Value.int IntKind.i64 1000000000)), (9, Operand.const (Value.int IntKind.i64 1000000001))], type := 58, pos := "l09_pieces.go:148", after := #[{ on := 3, ground := Ground.data }], guard := none }) rfl (fun K hK => ?_) ?_
    · go_simp
      have hbS := below_new wA1 (.cells #[.int .i64 0, .int .i64 5, .int .i64 9, .int .i64 12, .int .i64 20, .int .i64 30, .int .i64 (k60 : Int), .int .i64 (-1), .int .i64 1000000000, .int .i64 1000000001] 3)
      have RT := Lib.hid (And.intro (Cel.new wA1 3 #[.int .i64 0, .int .i64 5, .int .i64 9, .int .i64 12, .int .i64 20, .int .i64 30, .int .i64 (k60 : Int), .int .i64 (-1), .int .i64 1000000000, .int .i64 1000000001]) (show g < wA1.heap.size from HX1.out.d.blk))
      have HX2 := Lib.hid (HX1.out.kept hbS)
      have HX2e := HX2.out.all
      clear hbS HX1
      generalize wA1.heap.size = RTB at *
      generalize wA1.alloc (.cells #[.int .i64 0, .int .i64 5, .int .i64 9, .int .i64 12, .int .i64 20, .int .i64 30, .int .i64 (k60 : Int), .int .i64 (-1), .int .i64 1000000000, .int .i64 1000000001] 3) = wHX2 at *
      refine hK.out _ _ HX2e (fun hHeldN => ?_)
      clear hK K hHeld
      have hHeld := hHeldN
      clear hHeldN
      try simp only [Act.put, List.setIfInBounds_toArray, List.set_cons_zero, List.set_cons_succ]
      refine wpAnyH_ready (rs := [5, 8]) (by kernel_rfl) (by simp) ?_
      refine AllReadyH.cons (o := { dst := some 16, op := Op.call { callee := Callee.value (Operand.func 37), args := #[Operand.tmp 12, Operand.tmp 15], argTypes := #[53, 58] }, type := 3, pos := "l09_pieces.go:148", after := #[{ on := 1, ground := Ground.data }, { on := 4, ground := Ground.data }, { on := 3, ground := Ground.chain }], guard := none }) rfl (fun K hK => ?_) ?_
      · go_simp
        with_reducible refine (cP _ g HX2.out.d RTB RT.out.1 (by have := RT.out.2; omega)).mono ?_
        rintro e wA3 ⟨rfl, dA, oA⟩
        have HX3 := Lib.hid (HX2.out.only oA dA)
        have HX3e := HX3.out.all
        clear dA oA cP HX2 RT
        refine hK.out _ _ HX3e (fun hHeldN => ?_)
        clear hK K hHeld
        have hHeld := hHeldN
        clear hHeldN
        try simp only [Act.put, List.setIfInBounds_toArray, List.set_cons_zero, List.set_cons_succ]
        refine wpAnyH_ready (rs := [8]) (by kernel_rfl) (by simp) ?_
        refine AllReadyH.cons (o := { dst := some 19, op := Op.buildSlice 58 6 #[(0, Operand.const (Value.int IntKind.i64 1)), (1, Operand.const (Value.int IntKind.i64 3)), (2, Operand.const (Value.int IntKind.i64 8)), (3, Operand.const (Value.int IntKind.i64 20)), (4, Operand.const (Value.int IntKind.i64 0)), (5, Operand.const (Value.int IntKind.i64 120))], type := 58, pos := "l09_pieces.go:148", after := #[], guard := none }) rfl (fun K hK => ?_) AllReadyH.nil
        go_simp
        have hbS := below_new wA3 (.cells #[.int .i64 1, .int .i64 3, .int .i64 8, .int .i64 20, .int .i64 0, .int .i64 120] 3)
        have RS := Lib.hid (And.intro (Cel.new wA3 3 #[.int .i64 1, .int .i64 3, .int .i64 8, .int .i64 20, .int .i64 0, .int .i64 120]) (show g < wA3.heap.size from HX3.out.d.blk))
        have HX4 := Lib.hid (HX3.out.kept hbS)
        have HX4e := HX4.out.all
        clear hbS HX3
        generalize wA3.heap.size = RSB at *
        generalize wA3.alloc (.cells #[.int .i64 1, .int .i64 3, .int .i64 8, .int .i64 20, .int .i64 0, .int .i64 120] 3) = wHX4 at *
        refine hK.out _ _ HX4e (fun hHeldN => ?_)
        clear hK K hHeld
        have hHeld := hHeldN
        clear hHeldN
        try simp only [Act.put, List.setIfInBounds_toArray, List.set_cons_zero, List.set_cons_succ]
        refine wpAnyH_ready (rs := [9]) (by kernel_rfl) (by simp) ?_
        refine AllReadyH.cons (o := { dst := some 20, op := Op.call { callee := Callee.value (Operand.func 37), args := #[Operand.tmp 18, Operand.tmp 19], argTypes := #[53, 58] }, type := 3, pos := "l09_pieces.go:148", after := #[{ on := 7, ground := Ground.data }, { on := 8, ground := Ground.data }, { on := 5, ground := Ground.chain }], guard := none }) rfl (fun K hK => ?_) AllReadyH.nil
        go_simp
        with_reducible refine (cK _ g HX4.out.d RSB RS.out.1 (by have := RS.out.2; omega)).mono ?_
        rintro e wA5 ⟨rfl, dA, oA⟩
        have HX5 := Lib.hid (HX4.out.only oA dA)
        have HX5e := HX5.out.all
        clear dA oA cK HX4 RS
        refine hK.out _ _ HX5e (fun hHeldN => ?_)
        clear hK K hHeld
        have hHeld := hHeldN
        clear hHeldN
        try simp only [Act.put, List.setIfInBounds_toArray, List.set_cons_zero, List.set_cons_succ]
        refine wpAnyH_ready (rs := [10]) (by kernel_rfl) (by simp) ?_
        refine AllReadyH.cons (o := { dst := some 21, op := Op.call { callee := Callee.value (Operand.func 39), args := #[Operand.tmp 17, Operand.tmp 20], argTypes := #[53, 3] }, type := 9, pos := "l09_pieces.go:148", after := #[{ on := 6, ground := Ground.data }, { on := 9, ground := Ground.data }, { on := 9, ground := Ground.chain }], guard := none }) rfl (fun K hK => ?_) AllReadyH.nil
        go_simp
        with_reducible refine (cT _ g HX5.out.d).mono ?_
        rintro e wA6 ⟨rfl, dA, oA⟩
        have HX6 := Lib.hid (HX5.out.grew oA dA)
        have HX6e := HX6.out.all
        clear dA oA cT HX5
        refine hK.out _ _ HX6e (fun hHeldN => ?_)
        clear hK K hHeld
        have hHeld := hHeldN
        clear hHeldN
        try simp only [Act.put, List.setIfInBounds_toArray, List.set_cons_zero, List.set_cons_succ]
        refine wpAnyH_ready (rs := [11]) (by kernel_rfl) (by simp) ?_
        refine AllReadyH.cons (o := { dst := none, op := Op.store 26 (Operand.tmp 2) (Operand.tmp 11), type := 0, pos := "l09_pieces.go:148", after := #[{ on := 0, ground := Ground.data }, { on := 10, ground := Ground.chain }, { on := 0, ground := Ground.phase }, { on := 1, ground := Ground.textOnly Departure.lateStores }, { on := 2, ground := Ground.textOnly Departure.lateStores }, { on := 3, ground := Ground.textOnly Departure.lateStoresUnsure }, { on := 4, ground := Ground.textOnly Departure.lateStores }, { on := 5, ground := Ground.textOnly Departure.lateStoresUnsure }, { on := 6, ground := Ground.textOnly Departure.lateStores }, { on := 7, ground := Ground.textOnly Departure.lateStores }, { on := 8, ground := Ground.textOnly Departure.lateStores }, { on := 9, ground := Ground.textOnly Departure.lateStoresUnsure }, { on := 10, ground := Ground.textOnly Departure.lateStoresUnsure }], guard := none }) rfl (fun K hK => ?_) AllReadyH.nil
        obtain ⟨r0, r1, r2, b0, b1, b2, f0, f1, f2⟩ := HX6.out.rs
        go_simp
        have HG := Lib.hid HX6.out.give
        have hge := cel3' HG.out.2.2.2
        clear b0 b1 b2 f0 f1 f2 HX6
        refine hK.out _ _ hge (fun hHeldN => ?_)
        clear hK K hHeld
        have hHeld := hHeldN
        clear hHeldN
        try simp only [Act.put, List.setIfInBounds_toArray, List.set_cons_zero, List.set_cons_succ]
        refine take_yes (i := 12) (oi := { dst := some 3, op := Op.assign (Operand.tmp 16), type := 3, pos := "l09_pieces.go:148", after := #[{ on := 5, ground := Ground.data }, { on := 11, ground := Ground.chain }, { on := 0, ground := Ground.phase }, { on := 1, ground := Ground.phase }, { on := 2, ground := Ground.phase }, { on := 3, ground := Ground.phase }, { on := 4, ground := Ground.phase }, { on := 5, ground := Ground.phase }, { on := 6, ground := Ground.textOnly Departure.lateStores }, { on := 7, ground := Ground.textOnly Departure.lateStores }, { on := 8, ground := Ground.textOnly Departure.lateStores }, { on := 9, ground := Ground.textOnly Departure.lateStoresUnsure }, { on := 10, ground := Ground.textOnly Departure.lateStoresUnsure }, { on := 11, ground := Ground.phase }], guard := none }) (v := .int .i64 at_) rfl (by kernel_rfl) (by kernel_rfl) (by kernel_rfl) (fun _ _ _ h => h) (by rfl) (fun w hSw => by (try dsimp only at hSw); go_simp) (by assumption) ?_
        try simp only [Act.put, List.setIfInBounds_toArray, List.set_cons_zero, List.set_cons_succ]
        refine take_yes (i := 13) (oi := { dst := some 4, op := Op.assign (Operand.tmp 21), type := 9, pos := "l09_pieces.go:148", after := #[{ on := 10, ground := Ground.data }, { on := 12, ground := Ground.chain }, { on := 0, ground := Ground.phase }, { on := 1, ground := Ground.phase }, { on := 2, ground := Ground.phase }, { on := 3, ground := Ground.phase }, { on := 4, ground := Ground.phase }, { on := 5, ground := Ground.phase }, { on := 6, ground := Ground.phase }, { on := 7, ground := Ground.phase }, { on := 8, ground := Ground.phase }, { on := 9, ground := Ground.phase }, { on := 10, ground := Ground.phase }, { on := 11, ground := Ground.phase }, { on := 12, ground := Ground.phase }], guard := none }) (v := .string tx) rfl (by kernel_rfl) (by kernel_rfl) (by kernel_rfl) (fun _ _ _ h => h) (by rfl) (fun w hSw => by (try dsimp only at hSw); go_simp) (by assumption) ?_
        try simp only [Act.put, List.setIfInBounds_toArray, List.set_cons_zero, List.set_cons_succ]
        refine wpAnyH_done (by kernel_rfl) ?_ _
        clear hHeld
        clear hge
        go_wp2_with (fail)
        exact bodyPost_ret (ps_result3 HG.out.1 rfl _ rfl) rfl ⟨_, rfl, HG.out.2.1, HG.out.2.2.1⟩
      refine AllReadyH.cons (o := { dst := some 19, op := Op.buildSlice 58 6 #[(0, Operand.const (Value.int IntKind.i64 1)), (1, Operand.const (Value.int IntKind.i64 3)), (2, Operand.const (Value.int IntKind.i64 8)), (3, Operand.const (Value.int IntKind.i64 20)), (4, Operand.const (Value.int IntKind.i64 0)), (5, Operand.const (Value.int IntKind.i64 120))], type := 58, pos := "l09_pieces.go:148", after := #[], guard := none }) rfl (fun K hK => ?_) AllReadyH.nil
      go_simp
      have hbS := below_new wHX2 (.cells #[.int .i64 1, .int .i64 3, .int .i64 8, .int .i64 20, .int .i64 0, .int .i64 120] 3)
      have RS := Lib.hid (And.intro (Cel.new wHX2 3 #[.int .i64 1, .int .i64 3, .int .i64 8, .int .i64 20, .int .i64 0, .int .i64 120]) (show g < wHX2.heap.size from HX2.out.d.blk))
      have HX7 := Lib.hid (HX2.out.kept hbS)
      have HX7e := HX7.out.all
      have kA := RT.out.1.kept hbS
      have kB := RT.out.2
      clear RT
      have RT := Lib.hid (And.intro kA kB)
      clear kA kB
      clear hbS HX2
      generalize wHX2.heap.size = RSB at *
      generalize wHX2.alloc (.cells #[.int .i64 1, .int .i64 3, .int .i64 8, .int .i64 20, .int .i64 0, .int .i64 120] 3) = wHX7 at *
      refine hK.out _ _ HX7e (fun hHeldN => ?_)
      clear hK K hHeld
      have hHeld := hHeldN
      clear hHeldN
      try simp only [Act.put, List.setIfInBounds_toArray, List.set_cons_zero, List.set_cons_succ]
      refine wpAnyH_ready (rs := [5]) (by kernel_rfl) (by simp) ?_
      refine AllReadyH.cons (o := { dst := some 16, op := Op.call { callee := Callee.value (Operand.func 37), args := #[Operand.tmp 12, Operand.tmp 15], argTypes := #[53, 58] }, type := 3, pos := "l09_pieces.go:148", after := #[{ on := 1, ground := Ground.data }, { on := 4, ground := Ground.data }, { on := 3, ground := Ground.chain }], guard := none }) rfl (fun K hK => ?_) AllReadyH.nil
      go_simp
      with_reducible refine (cP _ g HX7.out.d RTB RT.out.1 (by have := RT.out.2; omega)).mono ?_
      rintro e wA8 ⟨rfl, dA, oA⟩
      have HX8 := Lib.hid (HX7.out.only oA dA)
      have HX8e := HX8.out.all
      have kA := RS.out.1.only oA (by have := RS.out.2; omega)
      have kB := RS.out.2
      clear RS
      have RS := Lib.hid (And.intro kA kB)
      clear kA kB
      clear dA oA cP HX7 RT
      refine hK.out _ _ HX8e (fun hHeldN => ?_)
      clear hK K hHeld
      have hHeld := hHeldN
      clear hHeldN
      try simp only [Act.put, List.setIfInBounds_toArray, List.set_cons_zero, List.set_cons_succ]
      refine wpAnyH_ready (rs := [9]) (by kernel_rfl) (by simp) ?_
      refine AllReadyH.cons (o := { dst := some 20, op := Op.call { callee := Callee.value (Operand.func 37), args := #[Operand.tmp 18, Operand.tmp 19], argTypes := #[53, 58] }, type := 3, pos := "l09_pieces.go:148", after := #[{ on := 7, ground := Ground.data }, { on := 8, ground := Ground.data }, { on := 5, ground := Ground.chain }], guard := none }) rfl (fun K hK => ?_) AllReadyH.nil
      go_simp
      with_reducible refine (cK _ g HX8.out.d RSB RS.out.1 (by have := RS.out.2; omega)).mono ?_
      rintro e wA9 ⟨rfl, dA, oA⟩
      have HX9 := Lib.hid (HX8.out.only oA dA)
      have HX9e := HX9.out.all
      clear dA oA cK HX8 RS
      refine hK.out _ _ HX9e (fun hHeldN => ?_)
      clear hK K hHeld
      have hHeld := hHeldN
      clear hHeldN
      try simp only [Act.put, List.setIfInBounds_toArray, List.set_cons_zero, List.set_cons_succ]
      refine wpAnyH_ready (rs := [10]) (by kernel_rfl) (by simp) ?_
      refine AllReadyH.cons (o := { dst := some 21, op := Op.call { callee := Callee.value (Operand.func 39), args := #[Operand.tmp 17, Operand.tmp 20], argTypes := #[53, 3] }, type := 9, pos := "l09_pieces.go:148", after := #[{ on := 6, ground := Ground.data }, { on := 9, ground := Ground.data }, { on := 9, ground := Ground.chain }], guard := none }) rfl (fun K hK => ?_) AllReadyH.nil
      go_simp
      with_reducible refine (cT _ g HX9.out.d).mono ?_
      rintro e wA10 ⟨rfl, dA, oA⟩
      have HX10 := Lib.hid (HX9.out.grew oA dA)
      have HX10e := HX10.out.all
      clear dA oA cT HX9
      refine hK.out _ _ HX10e (fun hHeldN => ?_)
      clear hK K hHeld
      have hHeld := hHeldN
      clear hHeldN
      try simp only [Act.put, List.setIfInBounds_toArray, List.set_cons_zero, List.set_cons_succ]
      refine wpAnyH_ready (rs := [11]) (by kernel_rfl) (by simp) ?_
      refine AllReadyH.cons (o := { dst := none, op := Op.store 26 (Operand.tmp 2) (Operand.tmp 11), type := 0, pos := "l09_pieces.go:148", after := #[{ on := 0, ground := Ground.data }, { on := 10, ground := Ground.chain }, { on := 0, ground := Ground.phase }, { on := 1, ground := Ground.textOnly Departure.lateStores }, { on := 2, ground := Ground.textOnly Departure.lateStores }, { on := 3, ground := Ground.textOnly Departure.lateStoresUnsure }, { on := 4, ground := Ground.textOnly Departure.lateStores }, { on := 5, ground := Ground.textOnly Departure.lateStoresUnsure }, { on := 6, ground := Ground.textOnly Departure.lateStores }, { on := 7, ground := Ground.textOnly Departure.lateStores }, { on := 8, ground := Ground.textOnly Departure.lateStores }, { on := 9, ground := Ground.textOnly Departure.lateStoresUnsure }, { on := 10, ground := Ground.textOnly Departure.lateStoresUnsure }], guard := none }) rfl (fun K hK => ?_) AllReadyH.nil
      obtain ⟨r0, r1, r2, b0, b1, b2, f0, f1, f2⟩ := HX10.out.rs
      go_simp
      have HG := Lib.hid HX10.out.give
      have hge := cel3' HG.out.2.2.2
      clear b0 b1 b2 f0 f1 f2 HX10
      refine hK.out _ _ hge (fun hHeldN => ?_)
      clear hK K hHeld
      have hHeld := hHeldN
      clear hHeldN
      try simp only [Act.put, List.setIfInBounds_toArray, List.set_cons_zero, List.set_cons_succ]
      refine take_yes (i := 12) (oi := { dst := some 3, op := Op.assign (Operand.tmp 16), type := 3, pos := "l09_pieces.go:148", after := #[{ on := 5, ground := Ground.data }, { on := 11, ground := Ground.chain }, { on := 0, ground := Ground.phase }, { on := 1, ground := Ground.phase }, { on := 2, ground := Ground.phase }, { on := 3, ground := Ground.phase }, { on := 4, ground := Ground.phase }, { on := 5, ground := Ground.phase }, { on := 6, ground := Ground.textOnly Departure.lateStores }, { on := 7, ground := Ground.textOnly Departure.lateStores }, { on := 8, ground := Ground.textOnly Departure.lateStores }, { on := 9, ground := Ground.textOnly Departure.lateStoresUnsure }, { on := 10, ground := Ground.textOnly Departure.lateStoresUnsure }, { on := 11, ground := Ground.phase }], guard := none }) (v := .int .i64 at_) rfl (by kernel_rfl) (by kernel_rfl) (by kernel_rfl) (fun _ _ _ h => h) (by rfl) (fun w hSw => by (try dsimp only at hSw); go_simp) (by assumption) ?_
      try simp only [Act.put, List.setIfInBounds_toArray, List.set_cons_zero, List.set_cons_succ]
      refine take_yes (i := 13) (oi := { dst := some 4, op := Op.assign (Operand.tmp 21), type := 9, pos := "l09_pieces.go:148", after := #[{ on := 10, ground := Ground.data }, { on := 12, ground := Ground.chain }, { on := 0, ground := Ground.phase }, { on := 1, ground := Ground.phase }, { on := 2, ground := Ground.phase }, { on := 3, ground := Ground.phase }, { on := 4, ground := Ground.phase }, { on := 5, ground := Ground.phase }, { on := 6, ground := Ground.phase }, { on := 7, ground := Ground.phase }, { on := 8, ground := Ground.phase }, { on := 9, ground := Ground.phase }, { on := 10, ground := Ground.phase }, { on := 11, ground := Ground.phase }, { on := 12, ground := Ground.phase }], guard := none }) (v := .string tx) rfl (by kernel_rfl) (by kernel_rfl) (by kernel_rfl) (fun _ _ _ h => h) (by rfl) (fun w hSw => by (try dsimp only at hSw); go_simp) (by assumption) ?_
      try simp only [Act.put, List.setIfInBounds_toArray, List.set_cons_zero, List.set_cons_succ]
      refine wpAnyH_done (by kernel_rfl) ?_ _
      clear hHeld
      clear hge
      go_wp2_with (fail)
      exact bodyPost_ret (ps_result3 HG.out.1 rfl _ rfl) rfl ⟨_, rfl, HG.out.2.1, HG.out.2.2.1⟩
    refine AllReadyH.cons (o := { dst := some 19, op := Op.buildSlice 58 6 #[(0, Operand.const (Value.int IntKind.i64 1)), (1, Operand.const (Value.int IntKind.i64 3)), (2, Operand.const (Value.int IntKind.i64 8)), (3, Operand.const (Value.int IntKind.i64 20)), (4, Operand.const (Value.int IntKind.i64 0)), (5, Operand.const (Value.int IntKind.i64 120))], type := 58, pos := "l09_pieces.go:148", after := #[], guard := none }) rfl (fun K hK => ?_) AllReadyH.nil
    go_simp
    have hbS := below_new wA1 (.cells #[.int .i64 1, .int .i64 3, .int .i64 8, .int .i64 20, .int .i64 0, .int .i64 120] 3)
    have RS := Lib.hid (And.intro (Cel.new wA1 3 #[.int .i64 1, .int .i64 3, .int .i64 8, .int .i64 20, .int .i64 0, .int .i64 120]) (show g < wA1.heap.size from HX1.out.d.blk))
    have HX11 := Lib.hid (HX1.out.kept hbS)
    have HX11e := HX11.out.all
    clear hbS HX1
    generalize wA1.heap.size = RSB at *
    generalize wA1.alloc (.cells #[.int .i64 1, .int .i64 3, .int .i64 8, .int .i64 20, .int .i64 0, .int .i64 120] 3) = wHX11 at *
    refine hK.out _ _ HX11e (fun hHeldN => ?_)
    clear hK K hHeld
    have hHeld := hHeldN
    clear hHeldN
    try simp only [Act.put, List.setIfInBounds_toArray, List.set_cons_zero, List.set_cons_succ]
    refine wpAnyH_ready (rs := [4]) (by kernel_rfl) (by simp) ?_
    refine AllReadyH.cons (o := { dst := some 15, op := Op.buildSlice 58 10 #[(0, Operand.const (Value.int IntKind.i64 0)), (1, Operand.const (Value.int IntKind.i64 5)), (2, Operand.const (Value.int IntKind.i64 9)), (3, Operand.const (Value.int IntKind.i64 12)), (4, Operand.const (Value.int IntKind.i64 20)), (5, Operand.const (Value.int IntKind.i64 30)), (6, Operand.tmp 14), (7, Operand.const (Value.int IntKind.i64 (-1))), (8, Operand.const (Value.int IntKind.i64 1000000000)), (9, Operand.const (Value.int IntKind.i64 1000000001))], type := 58, pos := "l09_pieces.go:148", after := #[{ on := 3, ground := Ground.data }], guard := none }) rfl (fun K hK => ?_) AllReadyH.nil
    go_simp
    have hbS := below_new wHX11 (.cells #[.int .i64 0, .int .i64 5, .int .i64 9, .int .i64 12, .int .i64 20, .int .i64 30, .int .i64 (k60 : Int), .int .i64 (-1), .int .i64 1000000000, .int .i64 1000000001] 3)
    have RT := Lib.hid (And.intro (Cel.new wHX11 3 #[.int .i64 0, .int .i64 5, .int .i64 9, .int .i64 12, .int .i64 20, .int .i64 30, .int .i64 (k60 : Int), .int .i64 (-1), .int .i64 1000000000, .int .i64 1000000001]) (show g < wHX11.heap.size from HX11.out.d.blk))
    have HX12 := Lib.hid (HX11.out.kept hbS)
    have HX12e := HX12.out.all
    have kA := RS.out.1.kept hbS
    have kB := RS.out.2
    clear RS
    have RS := Lib.hid (And.intro kA kB)
    clear kA kB
    clear hbS HX11
    generalize wHX11.heap.size = RTB at *
    generalize wHX11.alloc (.cells #[.int .i64 0, .int .i64 5, .int .i64 9, .int .i64 12, .int .i64 20, .int .i64 30, .int .i64 (k60 : Int), .int .i64 (-1), .int .i64 1000000000, .int .i64 1000000001] 3) = wHX12 at *
    refine hK.out _ _ HX12e (fun hHeldN => ?_)
    clear hK K hHeld
    have hHeld := hHeldN
    clear hHeldN
    try simp only [Act.put, List.setIfInBounds_toArray, List.set_cons_zero, List.set_cons_succ]
    refine wpAnyH_ready (rs := [5]) (by kernel_rfl) (by simp) ?_
    refine AllReadyH.cons (o := { dst := some 16, op := Op.call { callee := Callee.value (Operand.func 37), args := #[Operand.tmp 12, Operand.tmp 15], argTypes := #[53, 58] }, type := 3, pos := "l09_pieces.go:148", after := #[{ on := 1, ground := Ground.data }, { on := 4, ground := Ground.data }, { on := 3, ground := Ground.chain }], guard := none }) rfl (fun K hK => ?_) AllReadyH.nil
    go_simp
    with_reducible refine (cP _ g HX12.out.d RTB RT.out.1 (by have := RT.out.2; omega)).mono ?_
    rintro e wA13 ⟨rfl, dA, oA⟩
    have HX13 := Lib.hid (HX12.out.only oA dA)
    have HX13e := HX13.out.all
    have kA := RS.out.1.only oA (by have := RS.out.2; omega)
    have kB := RS.out.2
    clear RS
    have RS := Lib.hid (And.intro kA kB)
    clear kA kB
    clear dA oA cP HX12 RT
    refine hK.out _ _ HX13e (fun hHeldN => ?_)
    clear hK K hHeld
    have hHeld := hHeldN
    clear hHeldN
    try simp only [Act.put, List.setIfInBounds_toArray, List.set_cons_zero, List.set_cons_succ]
    refine wpAnyH_ready (rs := [9]) (by kernel_rfl) (by simp) ?_
    refine AllReadyH.cons (o := { dst := some 20, op := Op.call { callee := Callee.value (Operand.func 37), args := #[Operand.tmp 18, Operand.tmp 19], argTypes := #[53, 58] }, type := 3, pos := "l09_pieces.go:148", after := #[{ on := 7, ground := Ground.data }, { on := 8, ground := Ground.data }, { on := 5, ground := Ground.chain }], guard := none }) rfl (fun K hK => ?_) AllReadyH.nil
    go_simp
    with_reducible refine (cK _ g HX13.out.d RSB RS.out.1 (by have := RS.out.2; omega)).mono ?_
    rintro e wA14 ⟨rfl, dA, oA⟩
    have HX14 := Lib.hid (HX13.out.only oA dA)
    have HX14e := HX14.out.all
    clear dA oA cK HX13 RS
    refine hK.out _ _ HX14e (fun hHeldN => ?_)
    clear hK K hHeld
    have hHeld := hHeldN
    clear hHeldN
    try simp only [Act.put, List.setIfInBounds_toArray, List.set_cons_zero, List.set_cons_succ]
    refine wpAnyH_ready (rs := [10]) (by kernel_rfl) (by simp) ?_
    refine AllReadyH.cons (o := { dst := some 21, op := Op.call { callee := Callee.value (Operand.func 39), args := #[Operand.tmp 17, Operand.tmp 20], argTypes := #[53, 3] }, type := 9, pos := "l09_pieces.go:148", after := #[{ on := 6, ground := Ground.data }, { on := 9, ground := Ground.data }, { on := 9, ground := Ground.chain }], guard := none }) rfl (fun K hK => ?_) AllReadyH.nil
    go_simp
    with_reducible refine (cT _ g HX14.out.d).mono ?_
    rintro e wA15 ⟨rfl, dA, oA⟩
    have HX15 := Lib.hid (HX14.out.grew oA dA)
    have HX15e := HX15.out.all
    clear dA oA cT HX14
    refine hK.out _ _ HX15e (fun hHeldN => ?_)
    clear hK K hHeld
    have hHeld := hHeldN
    clear hHeldN
    try simp only [Act.put, List.setIfInBounds_toArray, List.set_cons_zero, List.set_cons_succ]
    refine wpAnyH_ready (rs := [11]) (by kernel_rfl) (by simp) ?_
    refine AllReadyH.cons (o := { dst := none, op := Op.store 26 (Operand.tmp 2) (Operand.tmp 11), type := 0, pos := "l09_pieces.go:148", after := #[{ on := 0, ground := Ground.data }, { on := 10, ground := Ground.chain }, { on := 0, ground := Ground.phase }, { on := 1, ground := Ground.textOnly Departure.lateStores }, { on := 2, ground := Ground.textOnly Departure.lateStores }, { on := 3, ground := Ground.textOnly Departure.lateStoresUnsure }, { on := 4, ground := Ground.textOnly Departure.lateStores }, { on := 5, ground := Ground.textOnly Departure.lateStoresUnsure }, { on := 6, ground := Ground.textOnly Departure.lateStores }, { on := 7, ground := Ground.textOnly Departure.lateStores }, { on := 8, ground := Ground.textOnly Departure.lateStores }, { on := 9, ground := Ground.textOnly Departure.lateStoresUnsure }, { on := 10, ground := Ground.textOnly Departure.lateStoresUnsure }], guard := none }) rfl (fun K hK => ?_) AllReadyH.nil
    obtain ⟨r0, r1, r2, b0, b1, b2, f0, f1, f2⟩ := HX15.out.rs
    go_simp
    have HG := Lib.hid HX15.out.give
    have hge := cel3' HG.out.2.2.2
    clear b0 b1 b2 f0 f1 f2 HX15
    refine hK.out _ _ hge (fun hHeldN => ?_)
    clear hK K hHeld
    have hHeld := hHeldN
    clear hHeldN
    try simp only [Act.put, List.setIfInBounds_toArray, List.set_cons_zero, List.set_cons_succ]
    refine take_yes (i := 12) (oi := { dst := some 3, op := Op.assign (Operand.tmp 16), type := 3, pos := "l09_pieces.go:148", after := #[{ on := 5, ground := Ground.data }, { on := 11, ground := Ground.chain }, { on := 0, ground := Ground.phase }, { on := 1, ground := Ground.phase }, { on := 2, ground := Ground.phase }, { on := 3, ground := Ground.phase }, { on := 4, ground := Ground.phase }, { on := 5, ground := Ground.phase }, { on := 6, ground := Ground.textOnly Departure.lateStores }, { on := 7, ground := Ground.textOnly Departure.lateStores }, { on := 8, ground := Ground.textOnly Departure.lateStores }, { on := 9, ground := Ground.textOnly Departure.lateStoresUnsure }, { on := 10, ground := Ground.textOnly Departure.lateStoresUnsure }, { on := 11, ground := Ground.phase }], guard := none }) (v := .int .i64 at_) rfl (by kernel_rfl) (by kernel_rfl) (by kernel_rfl) (fun _ _ _ h => h) (by rfl) (fun w hSw => by (try dsimp only at hSw); go_simp) (by assumption) ?_
    try simp only [Act.put, List.setIfInBounds_toArray, List.set_cons_zero, List.set_cons_succ]
    refine take_yes (i := 13) (oi := { dst := some 4, op := Op.assign (Operand.tmp 21), type := 9, pos := "l09_pieces.go:148", after := #[{ on := 10, ground := Ground.data }, { on := 12, ground := Ground.chain }, { on := 0, ground := Ground.phase }, { on := 1, ground := Ground.phase }, { on := 2, ground := Ground.phase }, { on := 3, ground := Ground.phase }, { on := 4, ground := Ground.phase }, { on := 5, ground := Ground.phase }, { on := 6, ground := Ground.phase }, { on := 7, ground := Ground.phase }, { on := 8, ground := Ground.phase }, { on := 9, ground := Ground.phase }, { on := 10, ground := Ground.phase }, { on := 11, ground := Ground.phase }, { on := 12, ground := Ground.phase }], guard := none }) (v := .string tx) rfl (by kernel_rfl) (by kernel_rfl) (by kernel_rfl) (fun _ _ _ h => h) (by rfl) (fun w hSw => by (try dsimp only at hSw); go_simp) (by assumption) ?_
    try simp only [Act.put, List.setIfInBounds_toArray, List.set_cons_zero, List.set_cons_succ]
    refine wpAnyH_done (by kernel_rfl) ?_ _
    clear hHeld
    clear hge
    go_wp2_with (fail)
    exact bodyPost_ret (ps_result3 HG.out.1 rfl _ rfl) rfl ⟨_, rfl, HG.out.2.1, HG.out.2.2.1⟩
  refine AllReadyH.cons (o := { dst := some 19, op := Op.buildSlice 58 6 #[(0, Operand.const (Value.int IntKind.i64 1)), (1, Operand.const (Value.int IntKind.i64 3)), (2, Operand.const (Value.int IntKind.i64 8)), (3, Operand.const (Value.int IntKind.i64 20)), (4, Operand.const (Value.int IntKind.i64 0)), (5, Operand.const (Value.int IntKind.i64 120))], type := 58, pos := "l09_pieces.go:148", after := #[], guard := none }) rfl (fun K hK => ?_) AllReadyH.nil
  go_simp
  have hbS := below_new wd (.cells #[.int .i64 1, .int .i64 3, .int .i64 8, .int .i64 20, .int .i64 0, .int .i64 120] 3)
  have RS := Lib.hid (And.intro (Cel.new wd 3 #[.int .i64 1, .int .i64 3, .int .i64 8, .int .i64 20, .int .i64 0, .int .i64 120]) (show g < wd.heap.size from HQ.out.d.blk))
  have HX16 := Lib.hid (HQ.out.kept hbS)
  have HX16e := HX16.out.all
  clear hbS HQ
  generalize wd.heap.size = RSB at *
  generalize wd.alloc (.cells #[.int .i64 1, .int .i64 3, .int .i64 8, .int .i64 20, .int .i64 0, .int .i64 120] 3) = wHX16 at *
  refine hK.out _ _ HX16e (fun hHeldN => ?_)
  clear hK K hHeld
  have hHeld := hHeldN
  clear hHeldN
  try simp only [Act.put, List.setIfInBounds_toArray, List.set_cons_zero, List.set_cons_succ]
  refine wpAnyH_ready (rs := [3]) (by kernel_rfl) (by simp) ?_
  refine AllReadyH.cons (o := { dst := some 14, op := Op.call { callee := Callee.value (Operand.func 38), args := #[Operand.tmp 13, Operand.const (Value.int IntKind.i64 60)], argTypes := #[53, 3] }, type := 3, pos := "l09_pieces.go:148", after := #[{ on := 2, ground := Ground.data }], guard := none }) rfl (fun K hK => ?_) AllReadyH.nil
  go_simp
  with_reducible refine (c60 _ g HX16.out.d).mono ?_
  rintro e wA17 ⟨rfl, dA, oA⟩
  have HX17 := Lib.hid (HX16.out.only oA dA)
  have HX17e := HX17.out.all
  have kA := RS.out.1.only oA (by have := RS.out.2; omega)
  have kB := RS.out.2
  clear RS
  have RS := Lib.hid (And.intro kA kB)
  clear kA kB
  clear dA oA c60 HX16
  refine hK.out _ _ HX17e (fun hHeldN => ?_)
  clear hK K hHeld
  have hHeld := hHeldN
  clear hHeldN
  try simp only [Act.put, List.setIfInBounds_toArray, List.set_cons_zero, List.set_cons_succ]
  refine wpAnyH_ready (rs := [4]) (by kernel_rfl) (by simp) ?_
  refine AllReadyH.cons (o := { dst := some 15, op := Op.buildSlice 58 10 #[(0, Operand.const (Value.int IntKind.i64 0)), (1, Operand.const (Value.int IntKind.i64 5)), (2, Operand.const (Value.int IntKind.i64 9)), (3, Operand.const (Value.int IntKind.i64 12)), (4, Operand.const (Value.int IntKind.i64 20)), (5, Operand.const (Value.int IntKind.i64 30)), (6, Operand.tmp 14), (7, Operand.const (Value.int IntKind.i64 (-1))), (8, Operand.const (Value.int IntKind.i64 1000000000)), (9, Operand.const (Value.int IntKind.i64 1000000001))], type := 58, pos := "l09_pieces.go:148", after := #[{ on := 3, ground := Ground.data }], guard := none }) rfl (fun K hK => ?_) AllReadyH.nil
  go_simp
  have hbS := below_new wA17 (.cells #[.int .i64 0, .int .i64 5, .int .i64 9, .int .i64 12, .int .i64 20, .int .i64 30, .int .i64 (k60 : Int), .int .i64 (-1), .int .i64 1000000000, .int .i64 1000000001] 3)
  have RT := Lib.hid (And.intro (Cel.new wA17 3 #[.int .i64 0, .int .i64 5, .int .i64 9, .int .i64 12, .int .i64 20, .int .i64 30, .int .i64 (k60 : Int), .int .i64 (-1), .int .i64 1000000000, .int .i64 1000000001]) (show g < wA17.heap.size from HX17.out.d.blk))
  have HX18 := Lib.hid (HX17.out.kept hbS)
  have HX18e := HX18.out.all
  have kA := RS.out.1.kept hbS
  have kB := RS.out.2
  clear RS
  have RS := Lib.hid (And.intro kA kB)
  clear kA kB
  clear hbS HX17
  generalize wA17.heap.size = RTB at *
  generalize wA17.alloc (.cells #[.int .i64 0, .int .i64 5, .int .i64 9, .int .i64 12, .int .i64 20, .int .i64 30, .int .i64 (k60 : Int), .int .i64 (-1), .int .i64 1000000000, .int .i64 1000000001] 3) = wHX18 at *
  refine hK.out _ _ HX18e (fun hHeldN => ?_)
  clear hK K hHeld
  have hHeld := hHeldN
  clear hHeldN
  try simp only [Act.put, List.setIfInBounds_toArray, List.set_cons_zero, List.set_cons_succ]
  refine wpAnyH_ready (rs := [5]) (by kernel_rfl) (by simp) ?_
  refine AllReadyH.cons (o := { dst := some 16, op := Op.call { callee := Callee.value (Operand.func 37), args := #[Operand.tmp 12, Operand.tmp 15], argTypes := #[53, 58] }, type := 3, pos := "l09_pieces.go:148", after := #[{ on := 1, ground := Ground.data }, { on := 4, ground := Ground.data }, { on := 3, ground := Ground.chain }], guard := none }) rfl (fun K hK => ?_) AllReadyH.nil
  go_simp
  with_reducible refine (cP _ g HX18.out.d RTB RT.out.1 (by have := RT.out.2; omega)).mono ?_
  rintro e wA19 ⟨rfl, dA, oA⟩
  have HX19 := Lib.hid (HX18.out.only oA dA)
  have HX19e := HX19.out.all
  have kA := RS.out.1.only oA (by have := RS.out.2; omega)
  have kB := RS.out.2
  clear RS
  have RS := Lib.hid (And.intro kA kB)
  clear kA kB
  clear dA oA cP HX18 RT
  refine hK.out _ _ HX19e (fun hHeldN => ?_)
  clear hK K hHeld
  have hHeld := hHeldN
  clear hHeldN
  try simp only [Act.put, List.setIfInBounds_toArray, List.set_cons_zero, List.set_cons_succ]
  refine wpAnyH_ready (rs := [9]) (by kernel_rfl) (by simp) ?_
  refine AllReadyH.cons (o := { dst := some 20, op := Op.call { callee := Callee.value (Operand.func 37), args := #[Operand.tmp 18, Operand.tmp 19], argTypes := #[53, 58] }, type := 3, pos := "l09_pieces.go:148", after := #[{ on := 7, ground := Ground.data }, { on := 8, ground := Ground.data }, { on := 5, ground := Ground.chain }], guard := none }) rfl (fun K hK => ?_) AllReadyH.nil
  go_simp
  with_reducible refine (cK _ g HX19.out.d RSB RS.out.1 (by have := RS.out.2; omega)).mono ?_
  rintro e wA20 ⟨rfl, dA, oA⟩
  have HX20 := Lib.hid (HX19.out.only oA dA)
  have HX20e := HX20.out.all
  clear dA oA cK HX19 RS
  refine hK.out _ _ HX20e (fun hHeldN => ?_)
  clear hK K hHeld
  have hHeld := hHeldN
  clear hHeldN
  try simp only [Act.put, List.setIfInBounds_toArray, List.set_cons_zero, List.set_cons_succ]
  refine wpAnyH_ready (rs := [10]) (by kernel_rfl) (by simp) ?_
  refine AllReadyH.cons (o := { dst := some 21, op := Op.call { callee := Callee.value (Operand.func 39), args := #[Operand.tmp 17, Operand.tmp 20], argTypes := #[53, 3] }, type := 9, pos := "l09_pieces.go:148", after := #[{ on := 6, ground := Ground.data }, { on := 9, ground := Ground.data }, { on := 9, ground := Ground.chain }], guard := none }) rfl (fun K hK => ?_) AllReadyH.nil
  go_simp
  with_reducible refine (cT _ g HX20.out.d).mono ?_
  rintro e wA21 ⟨rfl, dA, oA⟩
  have HX21 := Lib.hid (HX20.out.grew oA dA)
  have HX21e := HX21.out.all
  clear dA oA cT HX20
  refine hK.out _ _ HX21e (fun hHeldN => ?_)
  clear hK K hHeld
  have hHeld := hHeldN
  clear hHeldN
  try simp only [Act.put, List.setIfInBounds_toArray, List.set_cons_zero, List.set_cons_succ]
  refine wpAnyH_ready (rs := [11]) (by kernel_rfl) (by simp) ?_
  refine AllReadyH.cons (o := { dst := none, op := Op.store 26 (Operand.tmp 2) (Operand.tmp 11), type := 0, pos := "l09_pieces.go:148", after := #[{ on := 0, ground := Ground.data }, { on := 10, ground := Ground.chain }, { on := 0, ground := Ground.phase }, { on := 1, ground := Ground.textOnly Departure.lateStores }, { on := 2, ground := Ground.textOnly Departure.lateStores }, { on := 3, ground := Ground.textOnly Departure.lateStoresUnsure }, { on := 4, ground := Ground.textOnly Departure.lateStores }, { on := 5, ground := Ground.textOnly Departure.lateStoresUnsure }, { on := 6, ground := Ground.textOnly Departure.lateStores }, { on := 7, ground := Ground.textOnly Departure.lateStores }, { on := 8, ground := Ground.textOnly Departure.lateStores }, { on := 9, ground := Ground.textOnly Departure.lateStoresUnsure }, { on := 10, ground := Ground.textOnly Departure.lateStoresUnsure }], guard := none }) rfl (fun K hK => ?_) AllReadyH.nil
  obtain ⟨r0, r1, r2, b0, b1, b2, f0, f1, f2⟩ := HX21.out.rs
  go_simp
  have HG := Lib.hid HX21.out.give
  have hge := cel3' HG.out.2.2.2
  clear b0 b1 b2 f0 f1 f2 HX21
  refine hK.out _ _ hge (fun hHeldN => ?_)
  clear hK K hHeld
  have hHeld := hHeldN
  clear hHeldN
  try simp only [Act.put, List.setIfInBounds_toArray, List.set_cons_zero, List.set_cons_succ]
  refine take_yes (i := 12) (oi := { dst := some 3, op := Op.assign (Operand.tmp 16), type := 3, pos := "l09_pieces.go:148", after := #[{ on := 5, ground := Ground.data }, { on := 11, ground := Ground.chain }, { on := 0, ground := Ground.phase }, { on := 1, ground := Ground.phase }, { on := 2, ground := Ground.phase }, { on := 3, ground := Ground.phase }, { on := 4, ground := Ground.phase }, { on := 5, ground := Ground.phase }, { on := 6, ground := Ground.textOnly Departure.lateStores }, { on := 7, ground := Ground.textOnly Departure.lateStores }, { on := 8, ground := Ground.textOnly Departure.lateStores }, { on := 9, ground := Ground.textOnly Departure.lateStoresUnsure }, { on := 10, ground := Ground.textOnly Departure.lateStoresUnsure }, { on := 11, ground := Ground.phase }], guard := none }) (v := .int .i64 at_) rfl (by kernel_rfl) (by kernel_rfl) (by kernel_rfl) (fun _ _ _ h => h) (by rfl) (fun w hSw => by (try dsimp only at hSw); go_simp) (by assumption) ?_
  try simp only [Act.put, List.setIfInBounds_toArray, List.set_cons_zero, List.set_cons_succ]
  refine take_yes (i := 13) (oi := { dst := some 4, op := Op.assign (Operand.tmp 21), type := 9, pos := "l09_pieces.go:148", after := #[{ on := 10, ground := Ground.data }, { on := 12, ground := Ground.chain }, { on := 0, ground := Ground.phase }, { on := 1, ground := Ground.phase }, { on := 2, ground := Ground.phase }, { on := 3, ground := Ground.phase }, { on := 4, ground := Ground.phase }, { on := 5, ground := Ground.phase }, { on := 6, ground := Ground.phase }, { on := 7, ground := Ground.phase }, { on := 8, ground := Ground.phase }, { on := 9, ground := Ground.phase }, { on := 10, ground := Ground.phase }, { on := 11, ground := Ground.phase }, { on := 12, ground := Ground.phase }], guard := none }) (v := .string tx) rfl (by kernel_rfl) (by kernel_rfl) (by kernel_rfl) (fun _ _ _ h => h) (by rfl) (fun w hSw => by (try dsimp only at hSw); go_simp) (by assumption) ?_
  try simp only [Act.put, List.setIfInBounds_toArray, List.set_cons_zero, List.set_cons_succ]
  refine wpAnyH_done (by kernel_rfl) ?_ _
  clear hHeld
  clear hge
  go_wp2_with (fail)
  exact bodyPost_ret (ps_result3 HG.out.1 rfl _ rfl) rfl ⟨_, rfl, HG.out.2.1, HG.out.2.2.1⟩
end Go.Proofs.Ytdajfnonehianaa
