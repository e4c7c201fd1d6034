import Derived.Test.YtdajfnonehianaaPjo
namespace Go.Proofs.Ytdajfnonehianaa
open Go.RowKit

/-- A stream with a list that lies anywhere, stored whole into a block that was there. -/
theorem pl_fin {w W : World} {g B C : Nat} {x0 x1 x2 : Value} {r : Int} {t : ByteArray} {u : Value} {ol : List Pc} (hD : Cel W g 26 #[x0, x1, x2]) (hB : Below w.heap.size w W) (hg : w.heap.size ≤ g) (hU : LieE pcK W B C u ol) (hC : C ≤ W.heap.size) (hgB : g < B) :
    Cel (((W.setCell ⟨g, 0, none⟩ (.int .i64 r)).setCell ⟨g, 1, none⟩ (.string t)).setCell ⟨g, 2, none⟩ u) g 26 #[.int .i64 r, .string t, u] ∧ Below w.heap.size w (((W.setCell ⟨g, 0, none⟩ (.int .i64 r)).setCell ⟨g, 1, none⟩ (.string t)).setCell ⟨g, 2, none⟩ u) ∧
    LieE pcK (((W.setCell ⟨g, 0, none⟩ (.int .i64 r)).setCell ⟨g, 1, none⟩ (.string t)).setCell ⟨g, 2, none⟩ u) B (((W.setCell ⟨g, 0, none⟩ (.int .i64 r)).setCell ⟨g, 1, none⟩ (.string t)).setCell ⟨g, 2, none⟩ u).heap.size u ol := by
  refine ⟨?_, ((hB.setCell (p := ⟨g, 0, none⟩) hg _).setCell (p := ⟨g, 1, none⟩) hg _).setCell (p := ⟨g, 2, none⟩) hg _, ?_⟩
  · have := ((hD.set 0 (.int .i64 r)).set 1 (.string t)).set 2 u
    simpa using this
  · refine (hU.keepAt fun b hb _ => ?_).mono (Nat.le_refl _) (by simp; exact hC)
    have hn : b ≠ g := by omega
    rw [Below.heap_setCell _ _ _ _ hn, Below.heap_setCell _ _ _ _ hn, Below.heap_setCell _ _ _ _ hn]

/-- The box of the stream, the block of the answer. -/
structure Wd (w W : World) (r : Int) (t : ByteArray) (v : Value) : Prop where
  box : Cel W w.heap.size 26 #[.int .i64 r, .string t, v]
  res : ∃ x0 x1 x2, Cel W (w.heap.size + 2) 26 #[x0, x1, x2]
  below : Below w.heap.size w W
/-- .. with the new list and its first piece. -/
structure Wf (w W : World) (g6 : Nat) (r : Int) (t : ByteArray) (v : Value) (f : Pc) (fv : Value) (F : List Pc) : Prop where
  wd : Wd w W r t v
  fst : Cel W g6 41 #[.int .i64 f.pos, .string f.text]
  lst : OwnP W (w.heap.size + 3) W.heap.size fv F
section
variable {w W W' : World} {r : Int} {t : ByteArray} {v : Value}
theorem Wd.kept (h : Wd w W r t v) (hb : Below W.heap.size W W') : Wd w W' r t v := by
  obtain ⟨x0, x1, x2, hz⟩ := h.res
  exact ⟨h.box.kept hb, ⟨x0, x1, x2, hz.kept hb⟩, Below.then_ h.below hb⟩
theorem Wd.drew (h : Wd w W r t v) : Wd w W.drew r t v := ⟨h.box, h.res, h.below.drew⟩
theorem wd_far (h : Wd w W r t v) : w.heap.size + 3 ≤ W.heap.size := by
  obtain ⟨x0, x1, x2, hz⟩ := h.res
  have := hz.lt
  omega
theorem Wf.kept {g6 : Nat} {f : Pc} {fv : Value} {F : List Pc} (h : Wf w W g6 r t v f fv F) (hb : Below W.heap.size W W') : Wf w W' g6 r t v f fv F := ⟨h.wd.kept hb, h.fst.kept hb, h.lst.full hb⟩
theorem Wf.drew {g6 : Nat} {f : Pc} {fv : Value} {F : List Pc} (h : Wf w W g6 r t v f fv F) : Wf w W.drew g6 r t v f fv F := ⟨h.wd.drew, h.fst, h.lst⟩
theorem wf_all {g6 : Nat} {f : Pc} {fv : Value} {F : List Pc} (h : Wf w W g6 r t v f fv F) : W.cell? ⟨g6, 0, none⟩ = some (.int .i64 f.pos) ∧ W.cell? ⟨w.heap.size, 0, none⟩ = some (.int .i64 r) ∧ W.cell? ⟨w.heap.size, 1, none⟩ = some (.string t) ∧ W.cell? ⟨w.heap.size, 2, none⟩ = some v ∧ Wf w W g6 r t v f fv F := by
  obtain ⟨b0, b1, b2⟩ := cel3' h.wd.box
  exact ⟨(cel2 h.fst).1, b0, b1, b2, h⟩
theorem wd_start (w : World) (r : Int) (t : ByteArray) (v : Value) (x : Pc) : Wd w (((w.alloc (.cells #[.int .i64 r, .string t, v] 26)).alloc (.cells #[.int .i64 x.pos, .string x.text] 41)).alloc (.cells #[.int .i64 0, .string ⟨#[]⟩, .slice none 0 0] 26)) r t v := by
  refine ⟨((Cel.new w _ _).alloc _).alloc _, ⟨.int .i64 0, .string ⟨#[]⟩, .slice none 0 0, ?_⟩, below3 _ _ _ _⟩
  have := Cel.new ((w.alloc (.cells #[.int .i64 r, .string t, v] 26)).alloc (.cells #[.int .i64 x.pos, .string x.text] 41)) 26 #[.int .i64 0, .string ⟨#[]⟩, .slice none 0 0]
  rw [World.size_alloc, World.size_alloc] at this
  exact this
theorem wd_box2 (w : World) (r : Int) (t : ByteArray) (v : Value) (x : Pc) : Cel (((w.alloc (.cells #[.int .i64 r, .string t, v] 26)).alloc (.cells #[.int .i64 x.pos, .string x.text] 41)).alloc (.cells #[.int .i64 0, .string ⟨#[]⟩, .slice none 0 0] 26)) (w.heap.size + 1) 41 #[.int .i64 x.pos, .string x.text] := by
  have := (Cel.new (w.alloc (.cells #[.int .i64 r, .string t, v] 26)) 41 #[.int .i64 x.pos, .string x.text]).alloc (.cells #[.int .i64 0, .string ⟨#[]⟩, .slice none 0 0] 26)
  rw [World.size_alloc] at this
  exact this
end

set_option maxRecDepth 100000 in
set_option maxHeartbeats 8000000 in
theorem impl_with (r : Int) (t : ByteArray) (v : Value) (ms : List Pc) (x : Pc) (B C : Nat) (w : World) (hv : LieE pcK w B C v ms) (hr : 0 ≤ r ∧ r ≤ 1000000000) (ht : t.size ≤ 1000000) (hx : x.text.size ≠ 0) (hxp : 0 ≤ x.pos ∧ x.pos ≤ 4294967296) (hok : okP 0 ms = true) (hs : x.text.size + sumP ms ≤ 1000000) (hn : ms.length ≤ 1000) :
    Calls Try.prog 44 #[.agg #[.int .i64 r, .string t, v], .agg #[.int .i64 x.pos, .string x.text]] w fun e w' => ∃ u, e = .returned (.agg #[.int .i64 (settle ⟨r, t, putS x false ms⟩).read, .string (settle ⟨r, t, putS x false ms⟩).ready, u]) ∧ LieE pcK w' w.heap.size w'.heap.size u (settle ⟨r, t, putS x false ms⟩).list ∧ Below w.heap.size w w' := by
  have W0 := wd_start w r t v x
  have X0 := wd_box2 w r t v x
  obtain ⟨s1, s2⟩ := putS_sum x (fin_lt hx) ms 0 hok
  have hFne := putS_ne x ms
  have cJ := fun W h => impl_joined x ms v B C W h hx hxp hok hs hn
  obtain ⟨F, hFe⟩ : ∃ F, putS x false ms = F := ⟨_, rfl⟩
  rw [hFe] at s1 s2 hFne cJ ⊢
  clear hFe hok hx hxp
  obtain ⟨f, fr, hF⟩ : ∃ f fr, F = f :: fr := by
    cases F with
    | nil => exact absurd rfl hFne
    | cons f fr => exact ⟨f, fr, rfl⟩
  obtain ⟨nx, hnx0⟩ : ∃ nx, r + (t.size : Int) = nx := ⟨_, rfl⟩
  have cN := fun W => impl_nextOf r t v W
  rw [show IntKind.i64.wrap (r + (t.size : Int)) = nx from (IntWalk.i64_in _ (by omega)).trans hnx0] at cN
  obtain ⟨res, hres⟩ : ∃ res, settle ⟨r, t, F⟩ = res := ⟨_, rfl⟩
  rw [hres]
  unfold settle nextP at hres
  simp only [hF] at hres
  rw [hnx0] at hres
  have hsz : f.text.size ≤ 1000000 := by rw [hF] at s1; simp only [sumP] at s1; omega
  have hlF : 0 < F.length := by rw [hF]; simp
  have HF0 := Lib.hid (And.intro hF (And.intro hlF hnx0))
  have Hres := Lib.hid hres
  have hv0 := hv
  obtain ⟨a, c, rfl, hac⟩ := hv.form
  clear hv
  have hv := hv0
  clear hv0 hF hlF hnx0 hres s1 s2 hFne hs hn
  obtain ⟨b0, b1, b2⟩ := cel3' W0.box
  obtain ⟨c0, c1⟩ := cel2 X0
  have HW := Lib.hid W0
  clear W0 X0
  go_enter Try.func44, Try.ntmps44
  go_wp2_with (fail)
  with_reducible refine (cJ _ (hv.below HW.out.below)).mono ?_
  rintro e w2 ⟨fv, rfl, hO, hb2⟩
  have hW2 := HW.out.kept hb2
  have far := wd_far HW.out
  obtain ⟨fa, tc, rfl, hform⟩ := hO.form
  obtain ⟨gl, rfl, -, -⟩ := hform HF0.out.2.1
  have hO2 := hO.mono far (Nat.le_refl _)
  obtain ⟨k0, k1, -, -, -⟩ := pc_own hO2 0 HF0.out.2.1
  have hf0 : F[0]'(HF0.out.2.1) = f := by have h := HF0.out.1; subst h; rfl
  rw [hf0] at k0 k1
  have hbx := below_pc w2 f
  have hWf := Lib.hid (⟨hW2.kept hbx, Cel.new _ _ _, hO2.full hbx⟩ : Wf w (w2.alloc (.cells #[.int .i64 f.pos, .string f.text] 41)) w2.heap.size r t (.slice a ms.length c) f (.slice (some ⟨gl, 0, none⟩) F.length tc) F)
  clear cJ hb2 hW2 far hform hO hO2 HW b0 b1 b2 c0 c1 hbx hf0
  have hlF := HF0.out.2.1
  have hlF2 : (0 : Int) < (F.length : Int) := by omega
  have hFn : ¬ F = [] := fun e => by rw [e] at hlF; simp at hlF
  go_upto_region 3 with (fail)
  generalize w2.alloc (.cells #[.int .i64 f.pos, .string f.text] 41) = w4 at *
  generalize w2.heap.size = g6 at *
  clear k0 k1
  have K4 := wf_all hWf.out.drew
  clear hWf
  go_wp2_with (fail)
  by_cases hfx : f.pos = nx
  · have q1 : (f.pos == nx) = true := by rw [beq_iff_eq]; exact hfx
    have hres := Hres.out
    rw [if_pos hfx] at hres
    subst hres
    refine wp_region_held_drew (S := fun W => W.cell? ⟨g6, 0, none⟩ = some (.int .i64 f.pos) ∧ W.cell? ⟨w.heap.size, 0, none⟩ = some (.int .i64 r) ∧ W.cell? ⟨w.heap.size, 1, none⟩ = some (.string t) ∧ W.cell? ⟨w.heap.size, 2, none⟩ = some (.slice a ms.length c) ∧ Wf w W g6 r t (.slice a ms.length c) f (.slice (some ⟨gl, 0, none⟩) F.length tc) F) (by kernel_rfl) K4 (fun hHeld => ?_)
    refine take_yes (i := 0) (oi := { dst := some 14, op := Op.fieldAddr 41 (Operand.tmp 6) 0, type := 0, pos := "l09_pieces.go:78", after := #[], guard := none }) (v := .pointer (some ⟨g6, 0, none⟩)) rfl (by kernel_rfl) (by kernel_rfl) (by kernel_rfl) (fun _ _ _ h => h) (by rfl) (fun w hSw => by (try dsimp only at hSw); go_simp) (by assumption) ?_
    try simp only [Act.put, List.setIfInBounds_toArray, List.set_cons_zero, List.set_cons_succ]
    refine take_yes (i := 1) (oi := { dst := some 15, op := Op.load 3 (Operand.tmp 14), type := 3, pos := "l09_pieces.go:78", after := #[{ on := 0, ground := Ground.data }], guard := none }) (v := .int .i64 f.pos) rfl (by kernel_rfl) (by kernel_rfl) (by kernel_rfl) (fun _ _ _ h => h) (by rfl) (fun w hSw => by (try dsimp only at hSw); go_simp) (by assumption) ?_
    try simp only [Act.put, List.setIfInBounds_toArray, List.set_cons_zero, List.set_cons_succ]
    refine take_yes (i := 2) (oi := { dst := some 16, op := Op.load 26 (Operand.tmp 2), type := 26, pos := "l09_pieces.go:78", after := #[], guard := none }) (v := .agg #[.int .i64 r, .string t, .slice a ms.length c]) rfl (by kernel_rfl) (by kernel_rfl) (by kernel_rfl) (fun _ _ _ h => h) (by rfl) (fun w hSw => by (try dsimp only at hSw); go_simp) (by assumption) ?_
    try simp only [Act.put, List.setIfInBounds_toArray, List.set_cons_zero, List.set_cons_succ]
    refine wpAnyH_ready (rs := [3]) (by kernel_rfl) (by simp) ?_
    refine AllReadyH.cons (o := { dst := some 17, op := Op.call { callee := Callee.value (Operand.func 43), args := #[Operand.tmp 16], argTypes := #[26] }, type := 3, pos := "l09_pieces.go:78", after := #[{ on := 2, ground := Ground.data }], guard := none }) rfl (fun K hK => ?_) AllReadyH.nil
    go_simp
    with_reducible refine (cN _).mono ?_
    rintro e w5 ⟨rfl, hb5⟩
    have K5 := wf_all (hHeld.2.2.2.2.kept hb5)
    refine hK.out _ _ K5 (fun hHeldN => ?_)
    clear hK K hHeld
    have hHeld := hHeldN
    clear hHeldN
    try simp only [Act.put, List.setIfInBounds_toArray, List.set_cons_zero, List.set_cons_succ]
    refine take_yes (i := 4) (oi := { dst := some 18, op := Op.binOp BinOp.eql 3 (Operand.tmp 15) (Operand.tmp 17) 3, type := 4, pos := "l09_pieces.go:78", after := #[{ on := 1, ground := Ground.data }, { on := 3, ground := Ground.data }], guard := none }) (v := .bool true) rfl (by kernel_rfl) (by kernel_rfl) (by kernel_rfl) (fun _ _ _ h => h) (by rfl) (fun w hSw => by (try dsimp only at hSw); go_simp) (by assumption) ?_
    try simp only [Act.put, List.setIfInBounds_toArray, List.set_cons_zero, List.set_cons_succ]
    refine wpAnyH_done (by kernel_rfl) ?_ _
    clear hHeld
    have K6 := Lib.hid K5.2.2.2.2.drew
    clear K4 K5 hb5
    go_wp2_with (fail)
    refine wp_region_still_tail 10 (by kernel_rfl) (by kernel_rfl) ?_
    change wpStill _ _ w5.drew (fun a' => wpList _ _ _ _ a' w5.drew) _ _
    generalize w5.drew = w6 at *
    obtain ⟨b0, b1, b2⟩ := cel3' K6.out.wd.box
    obtain ⟨c0, c1⟩ := cel2 K6.out.fst
    obtain ⟨x0, x1, x2, hz⟩ := K6.out.wd.res
    obtain ⟨d0, d1, d2⟩ := cel3' hz
    have j0 := hz.frozen 0
    have j1 := hz.frozen 1
    have j2 := hz.frozen 2
    have yy : t.size + f.text.size ≤ 9223372036854775807 := by omega
    have yz : ¬ 9223372036854775807 < t.size + f.text.size := by omega
    obtain ⟨sa, sc, hsl, -, hsv⟩ := LieE.cut_from uPc K6.out.lst.lie 1 HF0.out.2.1
    have hdr : F.drop 1 = fr := by rw [HF0.out.1]; rfl
    rw [hdr] at hsl hsv
    have hsl2 : ∀ W', (Instr.slice 24 (.slice (some ⟨gl, 0, none⟩) F.length tc) (some (.int .i64 1)) none none).run Try.prog W' = .ok (.slice sa fr.length sc) W' := hsl
    have HF := Lib.hid (pl_fin (r := r) (t := t ++ f.text) hz K6.out.wd.below (by omega) (hsv _ K6.out.lst.lie) (Nat.le_refl _) (by omega))
    clear hz K6 hsl hsv hdr
    simp only [List.take_succ_cons, List.take_zero, List.drop_succ_cons, List.drop_zero]
    iterate 10 still_step
    refine wpStill_nil ?_
    go_wp2_with (fail)
    obtain ⟨p1, p2, p3⟩ := HF.out
    refine bodyPost_ret (ps_result p1 rfl _ rfl) rfl ⟨_, rfl, p3.mono (by omega) (Nat.le_refl _), p2⟩
  · have q1 : (f.pos == nx) = false := by rw [beq_eq_false_iff_ne]; exact hfx
    have hres := Hres.out
    rw [if_neg hfx, ← HF0.out.1] at hres
    subst hres
    refine wp_region_held_drew (S := fun W => W.cell? ⟨g6, 0, none⟩ = some (.int .i64 f.pos) ∧ W.cell? ⟨w.heap.size, 0, none⟩ = some (.int .i64 r) ∧ W.cell? ⟨w.heap.size, 1, none⟩ = some (.string t) ∧ W.cell? ⟨w.heap.size, 2, none⟩ = some (.slice a ms.length c) ∧ Wf w W g6 r t (.slice a ms.length c) f (.slice (some ⟨gl, 0, none⟩) F.length tc) F) (by kernel_rfl) K4 (fun hHeld => ?_)
    refine take_yes (i := 0) (oi := { dst := some 14, op := Op.fieldAddr 41 (Operand.tmp 6) 0, type := 0, pos := "l09_pieces.go:78", after := #[], guard := none }) (v := .pointer (some ⟨g6, 0, none⟩)) rfl (by kernel_rfl) (by kernel_rfl) (by kernel_rfl) (fun _ _ _ h => h) (by rfl) (fun w hSw => by (try dsimp only at hSw); go_simp) (by assumption) ?_
    try simp only [Act.put, List.setIfInBounds_toArray, List.set_cons_zero, List.set_cons_succ]
    refine take_yes (i := 1) (oi := { dst := some 15, op := Op.load 3 (Operand.tmp 14), type := 3, pos := "l09_pieces.go:78", after := #[{ on := 0, ground := Ground.data }], guard := none }) (v := .int .i64 f.pos) rfl (by kernel_rfl) (by kernel_rfl) (by kernel_rfl) (fun _ _ _ h => h) (by rfl) (fun w hSw => by (try dsimp only at hSw); go_simp) (by assumption) ?_
    try simp only [Act.put, List.setIfInBounds_toArray, List.set_cons_zero, List.set_cons_succ]
    refine take_yes (i := 2) (oi := { dst := some 16, op := Op.load 26 (Operand.tmp 2), type := 26, pos := "l09_pieces.go:78", after := #[], guard := none }) (v := .agg #[.int .i64 r, .string t, .slice a ms.length c]) rfl (by kernel_rfl) (by kernel_rfl) (by kernel_rfl) (fun _ _ _ h => h) (by rfl) (fun w hSw => by (try dsimp only at hSw); go_simp) (by assumption) ?_
    try simp only [Act.put, List.setIfInBounds_toArray, List.set_cons_zero, List.set_cons_succ]
    refine wpAnyH_ready (rs := [3]) (by kernel_rfl) (by simp) ?_
    refine AllReadyH.cons (o := { dst := some 17, op := Op.call { callee := Callee.value (Operand.func 43), args := #[Operand.tmp 16], argTypes := #[26] }, type := 3, pos := "l09_pieces.go:78", after := #[{ on := 2, ground := Ground.data }], guard := none }) rfl (fun K hK => ?_) AllReadyH.nil
    go_simp
    with_reducible refine (cN _).mono ?_
    rintro e w5 ⟨rfl, hb5⟩
    have K5 := wf_all (hHeld.2.2.2.2.kept hb5)
    refine hK.out _ _ K5 (fun hHeldN => ?_)
    clear hK K hHeld
    have hHeld := hHeldN
    clear hHeldN
    try simp only [Act.put, List.setIfInBounds_toArray, List.set_cons_zero, List.set_cons_succ]
    refine take_yes (i := 4) (oi := { dst := some 18, op := Op.binOp BinOp.eql 3 (Operand.tmp 15) (Operand.tmp 17) 3, type := 4, pos := "l09_pieces.go:78", after := #[{ on := 1, ground := Ground.data }, { on := 3, ground := Ground.data }], guard := none }) (v := .bool false) rfl (by kernel_rfl) (by kernel_rfl) (by kernel_rfl) (fun _ _ _ h => h) (by rfl) (fun w hSw => by (try dsimp only at hSw); go_simp) (by assumption) ?_
    try simp only [Act.put, List.setIfInBounds_toArray, List.set_cons_zero, List.set_cons_succ]
    refine wpAnyH_done (by kernel_rfl) ?_ _
    clear hHeld
    have K6 := Lib.hid K5.2.2.2.2
    clear K4 K5 hb5
    obtain ⟨b0, b1, b2⟩ := cel3' K6.out.wd.box
    obtain ⟨x0, x1, x2, hz⟩ := K6.out.wd.res
    obtain ⟨d0, d1, d2⟩ := cel3' hz
    have j0 := hz.frozen 0
    have j1 := hz.frozen 1
    have j2 := hz.frozen 2
    have HF := Lib.hid (pl_fin (r := r) (t := t) hz K6.out.wd.below (by omega) K6.out.lst.lie (Nat.le_refl _) (by omega))
    clear hz K6
    go_wp2_with (fail)
    obtain ⟨p1, p2, p3⟩ := HF.out
    refine bodyPost_ret (ps_result p1 rfl _ rfl) rfl ⟨_, rfl, p3.mono (by omega) (Nat.le_refl _), p2⟩
end Go.Proofs.Ytdajfnonehianaa
