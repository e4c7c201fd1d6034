import Derived.Test.YtdajfnonehianaaPme
namespace Go.Proofs.Ytdajfnonehianaa
open Go.RowKit

theorem okP_drop {e : Int} {l : List Pc} (h : okP e l = true) (k : Nat) : okP e (l.drop k) = true := by
  induction l generalizing e k with
  | nil => simp [okP]
  | cons x r ih =>
    cases k with
    | zero => exact h
    | succ k =>
      obtain ⟨⟨a, b, c⟩, d⟩ := okP_cons.1 h
      have := fin_lt a
      rw [List.drop_succ_cons]
      exact okP_less (ih d k) (by omega)
theorem okP_take {e : Int} {l : List Pc} (h : okP e l = true) (k : Nat) : okP e (l.take k) = true := by
  induction l generalizing e k with
  | nil => simp [okP]
  | cons x r ih =>
    cases k with
    | zero => rfl
    | succ k =>
      obtain ⟨h1, d⟩ := okP_cons.1 h
      rw [List.take_succ_cons]
      exact okP_cons.2 ⟨h1, ih d k⟩
theorem ahead_lt (x : Pc) (l : List Pc) (k : Nat) (hk : k < aheadP x l) (hl : k < l.length) : l[k].fin < x.pos := by
  induction l generalizing k with
  | nil => simp at hl
  | cons y r ih =>
    unfold aheadP at hk
    split at hk
    · rename_i h
      cases k with
      | zero => exact h
      | succ k => exact ih k (by omega) (by simpa using hl)
    · omega
theorem ahead_end (x : Pc) (l : List Pc) (hl : aheadP x l < l.length) : ¬ l[aheadP x l].fin < x.pos := by
  induction l with
  | nil => simp at hl
  | cons y r ih =>
    by_cases h : y.fin < x.pos
    · have e : aheadP x (y :: r) = aheadP x r + 1 := by conv => lhs; unfold aheadP; rw [if_pos h]
      have hl2 : aheadP x r < r.length := by rw [e] at hl; simpa using hl
      have := ih hl2
      simp only [e, List.getElem_cons_succ]
      exact this
    · have e : aheadP x (y :: r) = 0 := by unfold aheadP; rw [if_neg h]
      simp only [e, List.getElem_cons_zero]
      exact h
theorem meet_lt (f : Int) (l : List Pc) (k : Nat) (hk : k < meetP f l) (hl : k < l.length) : l[k].pos ≤ f := by
  induction l generalizing k with
  | nil => simp at hl
  | cons y r ih =>
    unfold meetP at hk
    split at hk
    · rename_i h
      cases k with
      | zero => exact h
      | succ k => exact ih k (by omega) (by simpa using hl)
    · omega
theorem meet_end (f : Int) (l : List Pc) (hl : meetP f l < l.length) : ¬ l[meetP f l].pos ≤ f := by
  induction l with
  | nil => simp at hl
  | cons y r ih =>
    by_cases h : y.pos ≤ f
    · have e : meetP f (y :: r) = meetP f r + 1 := by conv => lhs; unfold meetP; rw [if_pos h]
      have hl2 : meetP f r < r.length := by rw [e] at hl; simpa using hl
      have := ih hl2
      simp only [e, List.getElem_cons_succ]
      exact this
    · have e : meetP f (y :: r) = 0 := by unfold meetP; rw [if_neg h]
      simp only [e, List.getElem_cons_zero]
      exact h

/-- append at a step of its own, where its run is known. -/
theorem wp_append_run {o : Oper} {a : Act} {W W' : World} {K : Act → World → Prop} {Q : Exit → Act → World → Prop} (s y : Operand) (t tx : TypeId)
    (ho : o.op = .call { callee := .builtin .append, args := #[s, y], argTypes := #[t, tx] }) (v u : Value) {v' : Value} (hs : a.eval s = v) (hy : a.eval y = u)
    (hr : (Builtin.append_ #[t, tx] o.type #[v, u]).run Try.prog W = .ok v' W') (h : K (a.put o.dst v') W') : Oper.wp Try.prog o a W K Q := by
  unfold Oper.wp execOp
  simp only [ho, resolve, invoke, builtin, Sem.run_bind, Sem.run_pure, Result.andThen_ok, List.map_toArray, List.map_cons, List.map_nil, hs, hy, hr]
  exact h

/-- The box of the new piece, and nothing lost. -/
structure Jd (w W : World) (x : Pc) : Prop where
  box : Cel W w.heap.size 41 #[.int .i64 x.pos, .string x.text]
  below : Below w.heap.size w W
section
variable {w W W' : World} {x y : Pc}
theorem Jd.kept (h : Jd w W x) (hb : Below W.heap.size W W') : Jd w W' x := ⟨h.box.kept hb, Below.then_ h.below hb⟩
theorem Jd.drew (h : Jd w W x) : Jd w W.drew x := ⟨h.box, h.below.drew⟩
theorem Jd.grown {row : Option Nat} (h : Jd w W x) (hg : W.grownBy W' row) (hr : ∀ k, row = some k → w.heap.size + 1 ≤ k) : Jd w W' x :=
  ⟨h.box.grown hg (fun e => by have := hr _ e.symm; omega), h.below.grown hg h.below.size (fun k hk => by have := hr k hk; omega)⟩
theorem jd_all (h : Jd w W x) : W.cell? ⟨w.heap.size, 0, none⟩ = some (.int .i64 x.pos) ∧ W.cell? ⟨w.heap.size, 1, none⟩ = some (.string x.text) ∧ Jd w W x := ⟨(cel2 h.box).1, (cel2 h.box).2, h⟩
theorem jd_keep {b off k : Nat} (h : W.cell? ⟨b, off + k * 2, none⟩ = some (.int .i64 y.pos) ∧ W.cell? ⟨b, off + k * 2 + 1, none⟩ = some (.string y.text) ∧ W.cell? ⟨w.heap.size, 0, none⟩ = some (.int .i64 x.pos) ∧ W.cell? ⟨w.heap.size, 1, none⟩ = some (.string x.text) ∧ Jd w W x) (hb : Below W.heap.size W W') : W'.cell? ⟨b, off + k * 2, none⟩ = some (.int .i64 y.pos) ∧ W'.cell? ⟨b, off + k * 2 + 1, none⟩ = some (.string y.text) ∧ W'.cell? ⟨w.heap.size, 0, none⟩ = some (.int .i64 x.pos) ∧ W'.cell? ⟨w.heap.size, 1, none⟩ = some (.string x.text) ∧ Jd w W' x := by
  obtain ⟨h1, h2, -, -, h4⟩ := h
  refine ⟨?_, ?_, jd_all (h4.kept hb)⟩
  · rw [hb.cell (World.block_lt_of_cell? _ _ h1)]; exact h1
  · rw [hb.cell (World.block_lt_of_cell? _ _ h2)]; exact h2
end

set_option maxRecDepth 100000 in
set_option maxHeartbeats 16000000 in
theorem impl_joined (x : Pc) (l : List Pc) (v : Value) (B C : Nat) (w : World) (hv : LieE pcK w B C v l) (hx : x.text.size ≠ 0) (hxp : 0 ≤ x.pos ∧ x.pos ≤ 4294967296) (hok : okP 0 l = true) (hs : x.text.size + sumP l ≤ 1000000) (hn : l.length ≤ 1000) :
    Calls Try.prog 63 #[v, .agg #[.int .i64 x.pos, .string x.text]] w fun e w' => ∃ v', e = .returned v' ∧ OwnP w' w.heap.size w'.heap.size v' (putS x false l) ∧ Below w.heap.size w w' := by
  have hxf : IntKind.i64.wrap x.fin = x.fin := IntWalk.i64_in _ (by unfold Pc.fin; omega)
  have cX := fun W => impl_end x W
  rw [hxf] at cX
  have hput := putS_eq x (fin_lt hx) l 0 hok
  have hmeet := ahead_meets x (fin_lt hx) l 0 hok
  have hall := okP_all hok
  have hA := aheadP_le x l
  have hA1 := ahead_lt x l
  have hA2 := ahead_end x l
  have hM := meetP_le x.fin (l.drop (aheadP x l))
  have hM1 := meet_lt x.fin (l.drop (aheadP x l))
  have hM2 := meet_end x.fin (l.drop (aheadP x l))
  generalize aheadP x l = A at *
  generalize meetP x.fin (l.drop A) = M at *
  rw [List.length_drop] at hM
  have hM1' : ∀ k (h : k < l.length), A ≤ k → k < A + M → l[k].pos ≤ x.fin := fun k h h1 h2 => by
    have := hM1 (k - A) (by omega) (by rw [List.length_drop]; omega)
    rw [List.getElem_drop] at this
    have e : A + (k - A) = k := by omega
    simpa [e] using this
  have hM2' : ∀ (h : A + M < l.length), ¬ l[A + M].pos ≤ x.fin := fun h => by
    have := hM2 (by rw [List.length_drop]; omega)
    rw [List.getElem_drop] at this
    exact this
  obtain ⟨G, hG⟩ : ∃ G, A + M = G := ⟨_, rfl⟩
  rw [hG] at hM1' hM2'
  obtain ⟨T, hT⟩ : ∃ T, l.take A = T := ⟨_, rfl⟩
  have hTl : T.length = A := by rw [← hT, List.length_take]; omega
  obtain ⟨O, hO⟩ : ∃ O, (l.drop A).take M = O := ⟨_, rfl⟩
  have hOl : O.length = M := by rw [← hO, List.length_take, List.length_drop]; omega
  have hD : (l.drop A).drop M = l.drop G := by rw [List.drop_drop, hG]
  rw [hT, hO, hD] at hput
  rw [hO] at hmeet
  obtain ⟨J, hJ⟩ : ∃ J, joinAll x O = J := ⟨_, rfl⟩
  rw [hJ] at hput
  have hsO : sumP O ≤ sumP l := by
    have h1 := sumP_cut l A
    have h2 := sumP_cut (l.drop A) M
    rw [hO] at h2
    omega
  have hokO : okP 0 O = true := by rw [← hO]; exact okP_take (okP_drop hok A) M
  have hv0 := hv
  obtain ⟨oa, lc, rfl, hlc⟩ := hv.form
  clear hv
  have hv := hv0
  clear hv0
  obtain ⟨a1, hsl1, hs1⟩ := LieE.cut2 uPc hv A hA hlc
  obtain ⟨a2, hsl2, hs2⟩ := LieE.cut3 uPc hv A G (by omega) (by omega) hlc
  obtain ⟨a3, c3, hsl3, -, hs3⟩ := LieE.cut_from uPc hv G (by omega)
  rw [show G - A = M by omega] at hsl2 hs2
  rw [hT] at hs1
  rw [hO] at hs2
  obtain ⟨D, hDD⟩ : ∃ D, l.drop G = D := ⟨_, rfl⟩
  rw [hDD] at hs3 hsl3 hput
  have hDl : D.length ≤ 1000 := by rw [← hDD, List.length_drop]; omega
  have cM := fun W (h : LieE pcK W B C (.slice a2 M M) O) => impl_merged x O _ B C W h hx hxp hokO hmeet (by omega) (by omega)
  rw [hJ] at cM
  rw [hput]
  have HA := Lib.hid (And.intro hA1 (And.intro hA2 (And.intro hM1' (And.intro hM2' hall))))
  have hj0 := jd_all (⟨Cel.new w 41 #[.int .i64 x.pos, .string x.text], below_pc w x⟩ : Jd w _ x)
  have HJ0 := Lib.hid hj0
  have HZ := Lib.hid (And.intro hs (show ∀ z ∈ l, z.text.size ≤ sumP l from fun z hz => sumP_mem hz))
  clear hput hmeet hall hA1 hA2 hM1 hM2 hM1' hM2' hT hO hD hJ hsO hokO hDD hj0 hok hs hxp hxf hOl
  have HS := Lib.hid (And.intro hs1 (And.intro hs2 hs3))
  go_enter Try.func63, Try.ntmps63
  go_wp2_with (fail)
  go_loopw [5] (fun i wr => ∃ k : Nat, k ≤ A ∧ i = .int .i64 k ∧ Jd w wr x) (fun i _ => A - (intOf i).toNat)
  case atStart => exact ⟨0, by omega, rfl, HJ0.out.2.2⟩
  case round =>
    clear HJ0
    obtain ⟨k, hk, rfl, hJd⟩ := hrel
    by_cases hlt : k < l.length
    · have q : (k : Int) < (l.length : Int) := by omega
      have q2 : (0 : Int) ≤ (k : Int) := by omega
      obtain ⟨b, off, ha, hb, k0, k1, -⟩ := pc_at (P := Try.prog) ((hv.rd).below hJd.below) k hlt
      subst ha
      have h1 := HA.out.2.2.2.2 _ (List.getElem_mem hlt)
      have h2 := HZ.out.2 _ (List.getElem_mem hlt)
      have h3 := HZ.out.1
      have hc1 := HA.out.1 k
      have hc2 := HA.out.2.1
      have cY := fun W => impl_end l[k] W
      rw [show IntKind.i64.wrap l[k].fin = l[k].fin from IntWalk.i64_in _ (by unfold Pc.fin; omega)] at cY
      have K2 : wr.drew.cell? ⟨b, off + k * 2, none⟩ = some (.int .i64 l[k].pos) ∧ wr.drew.cell? ⟨b, off + k * 2 + 1, none⟩ = some (.string l[k].text) ∧ wr.drew.cell? ⟨w.heap.size, 0, none⟩ = some (.int .i64 x.pos) ∧ wr.drew.cell? ⟨w.heap.size, 1, none⟩ = some (.string x.text) ∧ Jd w wr.drew x := ⟨k0, k1, jd_all hJd.drew⟩
      by_cases hkA : k < A
      · have hc := hc1 hkA hlt
        generalize l[k] = y at *
        have q3 : y.fin < x.pos := hc
        generalize y.fin = yf at *
        clear hc hc1 hc2 h1 h2 h3 k0 k1 hJd
        go_wp2_with (fail)
        refine wp_region_held_drew (S := fun W => W.cell? ⟨b, off + k * 2, none⟩ = some (.int .i64 y.pos) ∧ W.cell? ⟨b, off + k * 2 + 1, none⟩ = some (.string y.text) ∧ W.cell? ⟨w.heap.size, 0, none⟩ = some (.int .i64 x.pos) ∧ W.cell? ⟨w.heap.size, 1, none⟩ = some (.string x.text) ∧ Jd w W x) (by kernel_rfl) K2 (fun hHeld => ?_)
        refine take_yes (i := 0) (oi := { dst := some 8, op := Op.move (Operand.tmp 5), type := 3, pos := "l09_pieces.go:90", after := #[], guard := none }) (v := .int .i64 (k : Int)) rfl (by kernel_rfl) (by kernel_rfl) (by kernel_rfl) (fun _ _ _ h => h) (by rfl) (fun w hSw => by (try dsimp only at hSw); go_simp) (by assumption) ?_
        try simp only [Act.put, List.setIfInBounds_toArray, List.set_cons_zero, List.set_cons_succ]
        refine take_yes (i := 1) (oi := { dst := some 9, op := Op.move (Operand.tmp 0), type := 24, pos := "l09_pieces.go:90", after := #[], guard := none }) (v := .slice (some ⟨b, off, none⟩) l.length lc) rfl (by kernel_rfl) (by kernel_rfl) (by kernel_rfl) (fun _ _ _ h => h) (by rfl) (fun w hSw => by (try dsimp only at hSw); go_simp) (by assumption) ?_
        try simp only [Act.put, List.setIfInBounds_toArray, List.set_cons_zero, List.set_cons_succ]
        refine take_yes (i := 2) (oi := { dst := some 10, op := Op.call { callee := Callee.builtin Builtin.len, args := #[Operand.tmp 9], argTypes := #[24] }, type := 3, pos := "l09_pieces.go:90", after := #[{ on := 1, ground := Ground.data }], guard := none }) (v := .int .i64 (l.length : Int)) rfl (by kernel_rfl) (by kernel_rfl) (by kernel_rfl) (fun _ _ _ h => h) (by rfl) (fun w hSw => by (try dsimp only at hSw); go_simp) (by assumption) ?_
        try simp only [Act.put, List.setIfInBounds_toArray, List.set_cons_zero, List.set_cons_succ]
        refine take_yes (i := 3) (oi := { dst := some 11, op := Op.binOp BinOp.lss 3 (Operand.tmp 8) (Operand.tmp 10) 3, type := 4, pos := "l09_pieces.go:90", after := #[{ on := 0, ground := Ground.data }, { on := 2, ground := Ground.data }], guard := none }) (v := .bool true) rfl (by kernel_rfl) (by kernel_rfl) (by kernel_rfl) (fun _ _ _ h => h) (by rfl) (fun w hSw => by (try dsimp only at hSw); go_simp) (by assumption) ?_
        try simp only [Act.put, List.setIfInBounds_toArray, List.set_cons_zero, List.set_cons_succ]
        refine take_yes (i := 4) (oi := { dst := some 12, op := Op.move (Operand.tmp 11), type := 4, pos := "l09_pieces.go:90", after := #[{ on := 3, ground := Ground.data }], guard := none }) (v := .bool true) rfl (by kernel_rfl) (by kernel_rfl) (by kernel_rfl) (fun _ _ _ h => h) (by rfl) (fun w hSw => by (try dsimp only at hSw); go_simp) (by assumption) ?_
        try simp only [Act.put, List.setIfInBounds_toArray, List.set_cons_zero, List.set_cons_succ]
        refine take_yes (i := 5) (oi := { dst := some 13, op := Op.move (Operand.tmp 0), type := 24, pos := "l09_pieces.go:90", after := #[{ on := 4, ground := Ground.guard }], guard := some (4, true) }) (v := .slice (some ⟨b, off, none⟩) l.length lc) rfl (by kernel_rfl) (by kernel_rfl) (by kernel_rfl) (fun _ _ _ h => h) (by rfl) (fun w hSw => by (try dsimp only at hSw); go_simp) (by assumption) ?_
        try simp only [Act.put, List.setIfInBounds_toArray, List.set_cons_zero, List.set_cons_succ]
        refine take_yes (i := 6) (oi := { dst := some 14, op := Op.move (Operand.tmp 5), type := 3, pos := "l09_pieces.go:90", after := #[{ on := 4, ground := Ground.guard }], guard := some (4, true) }) (v := .int .i64 (k : Int)) rfl (by kernel_rfl) (by kernel_rfl) (by kernel_rfl) (fun _ _ _ h => h) (by rfl) (fun w hSw => by (try dsimp only at hSw); go_simp) (by assumption) ?_
        try simp only [Act.put, List.setIfInBounds_toArray, List.set_cons_zero, List.set_cons_succ]
        refine take_yes (i := 7) (oi := { dst := some 15, op := Op.indexAddr 24 (Operand.tmp 13) (Operand.tmp 14), type := 0, pos := "l09_pieces.go:90", after := #[{ on := 5, ground := Ground.data }, { on := 6, ground := Ground.data }, { on := 4, ground := Ground.guard }], guard := some (4, true) }) (v := .pointer (some ⟨b, off + k * 2, none⟩)) rfl (by kernel_rfl) (by kernel_rfl) (by kernel_rfl) (fun _ _ _ h => h) (by rfl) (fun w hSw => by (try dsimp only at hSw); go_simp) (by assumption) ?_
        try simp only [Act.put, List.setIfInBounds_toArray, List.set_cons_zero, List.set_cons_succ]
        refine take_yes (i := 8) (oi := { dst := some 16, op := Op.load 41 (Operand.tmp 15), type := 41, pos := "l09_pieces.go:90", after := #[{ on := 7, ground := Ground.data }, { on := 4, ground := Ground.guard }], guard := some (4, true) }) (v := .agg #[.int .i64 y.pos, .string y.text]) rfl (by kernel_rfl) (by kernel_rfl) (by kernel_rfl) (fun _ _ _ h => h) (by rfl) (fun w hSw => by (try dsimp only at hSw); go_simp) (by assumption) ?_
        try simp only [Act.put, List.setIfInBounds_toArray, List.set_cons_zero, List.set_cons_succ]
        refine take_yes (i := 10) (oi := { dst := some 18, op := Op.fieldAddr 41 (Operand.tmp 3) 0, type := 0, pos := "l09_pieces.go:90", after := #[{ on := 4, ground := Ground.guard }], guard := some (4, true) }) (v := .pointer (some ⟨w.heap.size, 0, none⟩)) rfl (by kernel_rfl) (by kernel_rfl) (by kernel_rfl) (fun _ _ _ h => h) (by rfl) (fun w hSw => by (try dsimp only at hSw); go_simp) (by assumption) ?_
        try simp only [Act.put, List.setIfInBounds_toArray, List.set_cons_zero, List.set_cons_succ]
        refine take_yes (i := 11) (oi := { dst := some 19, op := Op.load 3 (Operand.tmp 18), type := 3, pos := "l09_pieces.go:90", after := #[{ on := 10, ground := Ground.data }, { on := 4, ground := Ground.guard }], guard := some (4, true) }) (v := .int .i64 x.pos) rfl (by kernel_rfl) (by kernel_rfl) (by kernel_rfl) (fun _ _ _ h => h) (by rfl) (fun w hSw => by (try dsimp only at hSw); go_simp) (by assumption) ?_
        try simp only [Act.put, List.setIfInBounds_toArray, List.set_cons_zero, List.set_cons_succ]
        refine wpAnyH_ready (rs := [9]) (by kernel_rfl) (by simp) ?_
        refine AllReadyH.cons (o := { dst := some 17, op := Op.call { callee := Callee.value (Operand.func 51), args := #[Operand.tmp 16], argTypes := #[41] }, type := 3, pos := "l09_pieces.go:90", after := #[{ on := 8, ground := Ground.data }, { on := 4, ground := Ground.chain }, { on := 4, ground := Ground.guard }], guard := some (4, true) }) rfl (fun K hK => ?_) AllReadyH.nil
        go_simp
        with_reducible refine (cY _).mono ?_
        rintro e w3 ⟨rfl, hb3⟩
        have K3 := jd_keep hHeld hb3
        refine hK.out _ _ K3 (fun hHeldN => ?_)
        clear hK K hHeld
        have hHeld := hHeldN
        clear hHeldN
        try simp only [Act.put, List.setIfInBounds_toArray, List.set_cons_zero, List.set_cons_succ]
        refine take_yes (i := 12) (oi := { dst := some 20, op := Op.binOp BinOp.lss 3 (Operand.tmp 17) (Operand.tmp 19) 3, type := 4, pos := "l09_pieces.go:90", after := #[{ on := 9, ground := Ground.data }, { on := 11, ground := Ground.data }, { on := 4, ground := Ground.guard }], guard := some (4, true) }) (v := .bool true) rfl (by kernel_rfl) (by kernel_rfl) (by kernel_rfl) (fun _ _ _ h => h) (by rfl) (fun w hSw => by (try dsimp only at hSw); go_simp) (by assumption) ?_
        try simp only [Act.put, List.setIfInBounds_toArray, List.set_cons_zero, List.set_cons_succ]
        refine take_yes (i := 13) (oi := { dst := some 21, op := Op.pick (Operand.tmp 12) (Operand.tmp 20) (Operand.const (Value.bool false)), type := 4, pos := "l09_pieces.go:90", after := #[{ on := 4, ground := Ground.data }, { on := 12, ground := Ground.data }], guard := none }) (v := .bool true) rfl (by kernel_rfl) (by kernel_rfl) (by kernel_rfl) (fun _ _ _ h => h) (by rfl) (fun w hSw => by (try dsimp only at hSw); go_simp) (by assumption) ?_
        try simp only [Act.put, List.setIfInBounds_toArray, List.set_cons_zero, List.set_cons_succ]
        refine wpAnyH_done (by kernel_rfl) ?_ _
        clear hHeld
        have HK := Lib.hid K3.2.2.2.2
        clear K2 K3 hb3
        go_wp2_with (fail)
        go_roundw
        case rel => exact ⟨k + 1, by omega, by go_num, HK.out⟩
        case measure => simp [intOf]; omega
      · have hkA2 : A = k := by omega
        subst hkA2
        have hc := hc2 hlt
        generalize hyy : l[A] = y at *
        have q3 : ¬ y.fin < x.pos := by omega
        generalize y.fin = yf at *
        clear hc hc1 hc2 h1 h2 h3 k0 k1 hJd hyy
        go_wp2_with (fail)
        refine wp_region_held_drew (S := fun W => W.cell? ⟨b, off + A * 2, none⟩ = some (.int .i64 y.pos) ∧ W.cell? ⟨b, off + A * 2 + 1, none⟩ = some (.string y.text) ∧ W.cell? ⟨w.heap.size, 0, none⟩ = some (.int .i64 x.pos) ∧ W.cell? ⟨w.heap.size, 1, none⟩ = some (.string x.text) ∧ Jd w W x) (by kernel_rfl) K2 (fun hHeld => ?_)
        refine take_yes (i := 0) (oi := { dst := some 8, op := Op.move (Operand.tmp 5), type := 3, pos := "l09_pieces.go:90", after := #[], guard := none }) (v := .int .i64 (A : Int)) rfl (by kernel_rfl) (by kernel_rfl) (by kernel_rfl) (fun _ _ _ h => h) (by rfl) (fun w hSw => by (try dsimp only at hSw); go_simp) (by assumption) ?_
        try simp only [Act.put, List.setIfInBounds_toArray, List.set_cons_zero, List.set_cons_succ]
        refine take_yes (i := 1) (oi := { dst := some 9, op := Op.move (Operand.tmp 0), type := 24, pos := "l09_pieces.go:90", after := #[], guard := none }) (v := .slice (some ⟨b, off, none⟩) l.length lc) rfl (by kernel_rfl) (by kernel_rfl) (by kernel_rfl) (fun _ _ _ h => h) (by rfl) (fun w hSw => by (try dsimp only at hSw); go_simp) (by assumption) ?_
        try simp only [Act.put, List.setIfInBounds_toArray, List.set_cons_zero, List.set_cons_succ]
        refine take_yes (i := 2) (oi := { dst := some 10, op := Op.call { callee := Callee.builtin Builtin.len, args := #[Operand.tmp 9], argTypes := #[24] }, type := 3, pos := "l09_pieces.go:90", after := #[{ on := 1, ground := Ground.data }], guard := none }) (v := .int .i64 (l.length : Int)) rfl (by kernel_rfl) (by kernel_rfl) (by kernel_rfl) (fun _ _ _ h => h) (by rfl) (fun w hSw => by (try dsimp only at hSw); go_simp) (by assumption) ?_
        try simp only [Act.put, List.setIfInBounds_toArray, List.set_cons_zero, List.set_cons_succ]
        refine take_yes (i := 3) (oi := { dst := some 11, op := Op.binOp BinOp.lss 3 (Operand.tmp 8) (Operand.tmp 10) 3, type := 4, pos := "l09_pieces.go:90", after := #[{ on := 0, ground := Ground.data }, { on := 2, ground := Ground.data }], guard := none }) (v := .bool true) rfl (by kernel_rfl) (by kernel_rfl) (by kernel_rfl) (fun _ _ _ h => h) (by rfl) (fun w hSw => by (try dsimp only at hSw); go_simp) (by assumption) ?_
        try simp only [Act.put, List.setIfInBounds_toArray, List.set_cons_zero, List.set_cons_succ]
        refine take_yes (i := 4) (oi := { dst := some 12, op := Op.move (Operand.tmp 11), type := 4, pos := "l09_pieces.go:90", after := #[{ on := 3, ground := Ground.data }], guard := none }) (v := .bool true) rfl (by kernel_rfl) (by kernel_rfl) (by kernel_rfl) (fun _ _ _ h => h) (by rfl) (fun w hSw => by (try dsimp only at hSw); go_simp) (by assumption) ?_
        try simp only [Act.put, List.setIfInBounds_toArray, List.set_cons_zero, List.set_cons_succ]
        refine take_yes (i := 5) (oi := { dst := some 13, op := Op.move (Operand.tmp 0), type := 24, pos := "l09_pieces.go:90", after := #[{ on := 4, ground := Ground.guard }], guard := some (4, true) }) (v := .slice (some ⟨b, off, none⟩) l.length lc) rfl (by kernel_rfl) (by kernel_rfl) (by kernel_rfl) (fun _ _ _ h => h) (by rfl) (fun w hSw => by (try dsimp only at hSw); go_simp) (by assumption) ?_
        try simp only [Act.put, List.setIfInBounds_toArray, List.set_cons_zero, List.set_cons_succ]
        refine take_yes (i := 6) (oi := { dst := some 14, op := Op.move (Operand.tmp 5), type := 3, pos := "l09_pieces.go:90", after := #[{ on := 4, ground := Ground.guard }], guard := some (4, true) }) (v := .int .i64 (A : Int)) rfl (by kernel_rfl) (by kernel_rfl) (by kernel_rfl) (fun _ _ _ h => h) (by rfl) (fun w hSw => by (try dsimp only at hSw); go_simp) (by assumption) ?_
        try simp only [Act.put, List.setIfInBounds_toArray, List.set_cons_zero, List.set_cons_succ]
        refine take_yes (i := 7) (oi := { dst := some 15, op := Op.indexAddr 24 (Operand.tmp 13) (Operand.tmp 14), type := 0, pos := "l09_pieces.go:90", after := #[{ on := 5, ground := Ground.data }, { on := 6, ground := Ground.data }, { on := 4, ground := Ground.guard }], guard := some (4, true) }) (v := .pointer (some ⟨b, off + A * 2, none⟩)) rfl (by kernel_rfl) (by kernel_rfl) (by kernel_rfl) (fun _ _ _ h => h) (by rfl) (fun w hSw => by (try dsimp only at hSw); go_simp) (by assumption) ?_
        try simp only [Act.put, List.setIfInBounds_toArray, List.set_cons_zero, List.set_cons_succ]
        refine take_yes (i := 8) (oi := { dst := some 16, op := Op.load 41 (Operand.tmp 15), type := 41, pos := "l09_pieces.go:90", after := #[{ on := 7, ground := Ground.data }, { on := 4, ground := Ground.guard }], guard := some (4, true) }) (v := .agg #[.int .i64 y.pos, .string y.text]) rfl (by kernel_rfl) (by kernel_rfl) (by kernel_rfl) (fun _ _ _ h => h) (by rfl) (fun w hSw => by (try dsimp only at hSw); go_simp) (by assumption) ?_
        try simp only [Act.put, List.setIfInBounds_toArray, List.set_cons_zero, List.set_cons_succ]
        refine take_yes (i := 10) (oi := { dst := some 18, op := Op.fieldAddr 41 (Operand.tmp 3) 0, type := 0, pos := "l09_pieces.go:90", after := #[{ on := 4, ground := Ground.guard }], guard := some (4, true) }) (v := .pointer (some ⟨w.heap.size, 0, none⟩)) rfl (by kernel_rfl) (by kernel_rfl) (by kernel_rfl) (fun _ _ _ h => h) (by rfl) (fun w hSw => by (try dsimp only at hSw); go_simp) (by assumption) ?_
        try simp only [Act.put, List.setIfInBounds_toArray, List.set_cons_zero, List.set_cons_succ]
        refine take_yes (i := 11) (oi := { dst := some 19, op := Op.load 3 (Operand.tmp 18), type := 3, pos := "l09_pieces.go:90", after := #[{ on := 10, ground := Ground.data }, { on := 4, ground := Ground.guard }], guard := some (4, true) }) (v := .int .i64 x.pos) rfl (by kernel_rfl) (by kernel_rfl) (by kernel_rfl) (fun _ _ _ h => h) (by rfl) (fun w hSw => by (try dsimp only at hSw); go_simp) (by assumption) ?_
        try simp only [Act.put, List.setIfInBounds_toArray, List.set_cons_zero, List.set_cons_succ]
        refine wpAnyH_ready (rs := [9]) (by kernel_rfl) (by simp) ?_
        refine AllReadyH.cons (o := { dst := some 17, op := Op.call { callee := Callee.value (Operand.func 51), args := #[Operand.tmp 16], argTypes := #[41] }, type := 3, pos := "l09_pieces.go:90", after := #[{ on := 8, ground := Ground.data }, { on := 4, ground := Ground.chain }, { on := 4, ground := Ground.guard }], guard := some (4, true) }) rfl (fun K hK => ?_) AllReadyH.nil
        go_simp
        with_reducible refine (cY _).mono ?_
        rintro e w3 ⟨rfl, hb3⟩
        have K3 := jd_keep hHeld hb3
        refine hK.out _ _ K3 (fun hHeldN => ?_)
        clear hK K hHeld
        have hHeld := hHeldN
        clear hHeldN
        try simp only [Act.put, List.setIfInBounds_toArray, List.set_cons_zero, List.set_cons_succ]
        refine take_yes (i := 12) (oi := { dst := some 20, op := Op.binOp BinOp.lss 3 (Operand.tmp 17) (Operand.tmp 19) 3, type := 4, pos := "l09_pieces.go:90", after := #[{ on := 9, ground := Ground.data }, { on := 11, ground := Ground.data }, { on := 4, ground := Ground.guard }], guard := some (4, true) }) (v := .bool false) rfl (by kernel_rfl) (by kernel_rfl) (by kernel_rfl) (fun _ _ _ h => h) (by rfl) (fun w hSw => by (try dsimp only at hSw); go_simp) (by assumption) ?_
        try simp only [Act.put, List.setIfInBounds_toArray, List.set_cons_zero, List.set_cons_succ]
        refine take_yes (i := 13) (oi := { dst := some 21, op := Op.pick (Operand.tmp 12) (Operand.tmp 20) (Operand.const (Value.bool false)), type := 4, pos := "l09_pieces.go:90", after := #[{ on := 4, ground := Ground.data }, { on := 12, ground := Ground.data }], guard := none }) (v := .bool false) rfl (by kernel_rfl) (by kernel_rfl) (by kernel_rfl) (fun _ _ _ h => h) (by rfl) (fun w hSw => by (try dsimp only at hSw); go_simp) (by assumption) ?_
        try simp only [Act.put, List.setIfInBounds_toArray, List.set_cons_zero, List.set_cons_succ]
        refine wpAnyH_done (by kernel_rfl) ?_ _
        clear hHeld
        have HK := Lib.hid K3.2.2.2.2
        clear K2 K3 hb3
        go_wp2_with (fail)
        go_loopw [6] (fun i wr2 => ∃ k : Nat, A ≤ k ∧ k ≤ G ∧ i = .int .i64 k ∧ Jd w wr2 x) (fun i _ => G - (intOf i).toNat)
        case atStart => exact ⟨A, Nat.le_refl _, by omega, rfl, HK.out⟩
        case round =>
          clear HK
          obtain ⟨k, hkA, hk, rfl, hJd⟩ := hrel
          by_cases hlt : k < l.length
          · have q : (k : Int) < (l.length : Int) := by omega
            have q2 : (0 : Int) ≤ (k : Int) := by omega
            obtain ⟨b', off', ha, hb, k0, k1, -⟩ := pc_at (P := Try.prog) ((hv.rd).below hJd.below) k hlt
            injection ha with ha
            injection ha with ha1 ha2
            subst ha1 ha2
            have hc1 := HA.out.2.2.1 k hlt hkA
            have hc2 := HA.out.2.2.2.1
            have K2 : wr.drew.cell? ⟨b, off + k * 2, none⟩ = some (.int .i64 l[k].pos) ∧ wr.drew.cell? ⟨b, off + k * 2 + 1, none⟩ = some (.string l[k].text) ∧ wr.drew.cell? ⟨w.heap.size, 0, none⟩ = some (.int .i64 x.pos) ∧ wr.drew.cell? ⟨w.heap.size, 1, none⟩ = some (.string x.text) ∧ Jd w wr.drew x := ⟨k0, k1, jd_all hJd.drew⟩
            by_cases hkG : k < G
            · have q3 := hc1 hkG
              generalize l[k] = y at *
              have q4 : y.pos ≤ x.fin := q3
              generalize x.fin = xf at *
              clear hc1 hc2 k0 k1 hJd
              go_wp2_with (fail)
              refine wp_region_held_drew (S := fun W => W.cell? ⟨b, off + k * 2, none⟩ = some (.int .i64 y.pos) ∧ W.cell? ⟨b, off + k * 2 + 1, none⟩ = some (.string y.text) ∧ W.cell? ⟨w.heap.size, 0, none⟩ = some (.int .i64 x.pos) ∧ W.cell? ⟨w.heap.size, 1, none⟩ = some (.string x.text) ∧ Jd w W x) (by kernel_rfl) K2 (fun hHeld => ?_)
              refine take_yes (i := 0) (oi := { dst := some 25, op := Op.move (Operand.tmp 6), type := 3, pos := "l09_pieces.go:94", after := #[], guard := none }) (v := .int .i64 (k : Int)) rfl (by kernel_rfl) (by kernel_rfl) (by kernel_rfl) (fun _ _ _ h => h) (by rfl) (fun w hSw => by (try dsimp only at hSw); go_simp) (by assumption) ?_
              try simp only [Act.put, List.setIfInBounds_toArray, List.set_cons_zero, List.set_cons_succ]
              refine take_yes (i := 1) (oi := { dst := some 26, op := Op.move (Operand.tmp 0), type := 24, pos := "l09_pieces.go:94", after := #[], guard := none }) (v := .slice (some ⟨b, off, none⟩) l.length lc) rfl (by kernel_rfl) (by kernel_rfl) (by kernel_rfl) (fun _ _ _ h => h) (by rfl) (fun w hSw => by (try dsimp only at hSw); go_simp) (by assumption) ?_
              try simp only [Act.put, List.setIfInBounds_toArray, List.set_cons_zero, List.set_cons_succ]
              refine take_yes (i := 2) (oi := { dst := some 27, op := Op.call { callee := Callee.builtin Builtin.len, args := #[Operand.tmp 26], argTypes := #[24] }, type := 3, pos := "l09_pieces.go:94", after := #[{ on := 1, ground := Ground.data }], guard := none }) (v := .int .i64 (l.length : Int)) rfl (by kernel_rfl) (by kernel_rfl) (by kernel_rfl) (fun _ _ _ h => h) (by rfl) (fun w hSw => by (try dsimp only at hSw); go_simp) (by assumption) ?_
              try simp only [Act.put, List.setIfInBounds_toArray, List.set_cons_zero, List.set_cons_succ]
              refine take_yes (i := 3) (oi := { dst := some 28, op := Op.binOp BinOp.lss 3 (Operand.tmp 25) (Operand.tmp 27) 3, type := 4, pos := "l09_pieces.go:94", after := #[{ on := 0, ground := Ground.data }, { on := 2, ground := Ground.data }], guard := none }) (v := .bool true) rfl (by kernel_rfl) (by kernel_rfl) (by kernel_rfl) (fun _ _ _ h => h) (by rfl) (fun w hSw => by (try dsimp only at hSw); go_simp) (by assumption) ?_
              try simp only [Act.put, List.setIfInBounds_toArray, List.set_cons_zero, List.set_cons_succ]
              refine take_yes (i := 4) (oi := { dst := some 29, op := Op.move (Operand.tmp 28), type := 4, pos := "l09_pieces.go:94", after := #[{ on := 3, ground := Ground.data }], guard := none }) (v := .bool true) rfl (by kernel_rfl) (by kernel_rfl) (by kernel_rfl) (fun _ _ _ h => h) (by rfl) (fun w hSw => by (try dsimp only at hSw); go_simp) (by assumption) ?_
              try simp only [Act.put, List.setIfInBounds_toArray, List.set_cons_zero, List.set_cons_succ]
              refine take_yes (i := 5) (oi := { dst := some 30, op := Op.move (Operand.tmp 0), type := 24, pos := "l09_pieces.go:94", after := #[{ on := 4, ground := Ground.guard }], guard := some (4, true) }) (v := .slice (some ⟨b, off, none⟩) l.length lc) rfl (by kernel_rfl) (by kernel_rfl) (by kernel_rfl) (fun _ _ _ h => h) (by rfl) (fun w hSw => by (try dsimp only at hSw); go_simp) (by assumption) ?_
              try simp only [Act.put, List.setIfInBounds_toArray, List.set_cons_zero, List.set_cons_succ]
              refine take_yes (i := 6) (oi := { dst := some 31, op := Op.move (Operand.tmp 6), type := 3, pos := "l09_pieces.go:94", after := #[{ on := 4, ground := Ground.guard }], guard := some (4, true) }) (v := .int .i64 (k : Int)) rfl (by kernel_rfl) (by kernel_rfl) (by kernel_rfl) (fun _ _ _ h => h) (by rfl) (fun w hSw => by (try dsimp only at hSw); go_simp) (by assumption) ?_
              try simp only [Act.put, List.setIfInBounds_toArray, List.set_cons_zero, List.set_cons_succ]
              refine take_yes (i := 7) (oi := { dst := some 32, op := Op.indexAddr 24 (Operand.tmp 30) (Operand.tmp 31), type := 0, pos := "l09_pieces.go:94", after := #[{ on := 5, ground := Ground.data }, { on := 6, ground := Ground.data }, { on := 4, ground := Ground.guard }], guard := some (4, true) }) (v := .pointer (some ⟨b, off + k * 2, none⟩)) rfl (by kernel_rfl) (by kernel_rfl) (by kernel_rfl) (fun _ _ _ h => h) (by rfl) (fun w hSw => by (try dsimp only at hSw); go_simp) (by assumption) ?_
              try simp only [Act.put, List.setIfInBounds_toArray, List.set_cons_zero, List.set_cons_succ]
              refine take_yes (i := 8) (oi := { dst := some 33, op := Op.fieldAddr 41 (Operand.tmp 32) 0, type := 0, pos := "l09_pieces.go:94", after := #[{ on := 7, ground := Ground.data }, { on := 4, ground := Ground.guard }], guard := some (4, true) }) (v := .pointer (some ⟨b, off + k * 2, none⟩)) rfl (by kernel_rfl) (by kernel_rfl) (by kernel_rfl) (fun _ _ _ h => h) (by rfl) (fun w hSw => by (try dsimp only at hSw); go_simp) (by assumption) ?_
              try simp only [Act.put, List.setIfInBounds_toArray, List.set_cons_zero, List.set_cons_succ]
              refine take_yes (i := 9) (oi := { dst := some 34, op := Op.load 3 (Operand.tmp 33), type := 3, pos := "l09_pieces.go:94", after := #[{ on := 8, ground := Ground.data }, { on := 4, ground := Ground.guard }], guard := some (4, true) }) (v := .int .i64 y.pos) rfl (by kernel_rfl) (by kernel_rfl) (by kernel_rfl) (fun _ _ _ h => h) (by rfl) (fun w hSw => by (try dsimp only at hSw); go_simp) (by assumption) ?_
              try simp only [Act.put, List.setIfInBounds_toArray, List.set_cons_zero, List.set_cons_succ]
              refine take_yes (i := 10) (oi := { dst := some 35, op := Op.load 41 (Operand.tmp 3), type := 41, pos := "l09_pieces.go:94", after := #[{ on := 4, ground := Ground.guard }], guard := some (4, true) }) (v := .agg #[.int .i64 x.pos, .string x.text]) rfl (by kernel_rfl) (by kernel_rfl) (by kernel_rfl) (fun _ _ _ h => h) (by rfl) (fun w hSw => by (try dsimp only at hSw); go_simp) (by assumption) ?_
              try simp only [Act.put, List.setIfInBounds_toArray, List.set_cons_zero, List.set_cons_succ]
              refine wpAnyH_ready (rs := [11]) (by kernel_rfl) (by simp) ?_
              refine AllReadyH.cons (o := { dst := some 36, op := Op.call { callee := Callee.value (Operand.func 51), args := #[Operand.tmp 35], argTypes := #[41] }, type := 3, pos := "l09_pieces.go:94", after := #[{ on := 10, ground := Ground.data }, { on := 4, ground := Ground.chain }, { on := 4, ground := Ground.guard }], guard := some (4, true) }) rfl (fun K hK => ?_) AllReadyH.nil
              go_simp
              with_reducible refine (cX _).mono ?_
              rintro e w3 ⟨rfl, hb3⟩
              have K3 := jd_keep hHeld hb3
              refine hK.out _ _ K3 (fun hHeldN => ?_)
              clear hK K hHeld
              have hHeld := hHeldN
              clear hHeldN
              try simp only [Act.put, List.setIfInBounds_toArray, List.set_cons_zero, List.set_cons_succ]
              refine take_yes (i := 12) (oi := { dst := some 37, op := Op.binOp BinOp.leq 3 (Operand.tmp 34) (Operand.tmp 36) 3, type := 4, pos := "l09_pieces.go:94", after := #[{ on := 9, ground := Ground.data }, { on := 11, ground := Ground.data }, { on := 4, ground := Ground.guard }], guard := some (4, true) }) (v := .bool true) rfl (by kernel_rfl) (by kernel_rfl) (by kernel_rfl) (fun _ _ _ h => h) (by rfl) (fun w hSw => by (try dsimp only at hSw); go_simp) (by assumption) ?_
              try simp only [Act.put, List.setIfInBounds_toArray, List.set_cons_zero, List.set_cons_succ]
              refine take_yes (i := 13) (oi := { dst := some 38, op := Op.pick (Operand.tmp 29) (Operand.tmp 37) (Operand.const (Value.bool false)), type := 4, pos := "l09_pieces.go:94", after := #[{ on := 4, ground := Ground.data }, { on := 12, ground := Ground.data }], guard := none }) (v := .bool true) rfl (by kernel_rfl) (by kernel_rfl) (by kernel_rfl) (fun _ _ _ h => h) (by rfl) (fun w hSw => by (try dsimp only at hSw); go_simp) (by assumption) ?_
              try simp only [Act.put, List.setIfInBounds_toArray, List.set_cons_zero, List.set_cons_succ]
              refine wpAnyH_done (by kernel_rfl) ?_ _
              clear hHeld
              have HK := Lib.hid K3.2.2.2.2
              clear K2 K3 hb3
              go_wp2_with (fail)
              go_roundw
              case rel => exact ⟨k + 1, by omega, by omega, by go_num, HK.out⟩
              case measure => simp [intOf]; omega
            · have hkG2 : G = k := by omega
              subst hkG2
              have q3 := hc2 hlt
              generalize hyy : l[G] = y at *
              have q4 : ¬ y.pos ≤ x.fin := by omega
              generalize hxx : x.fin = xf at *
              clear hc1 hc2 k0 k1 hJd hyy hxx q3
              go_wp2_with (fail)
              refine wp_region_held_drew (S := fun W => W.cell? ⟨b, off + G * 2, none⟩ = some (.int .i64 y.pos) ∧ W.cell? ⟨b, off + G * 2 + 1, none⟩ = some (.string y.text) ∧ W.cell? ⟨w.heap.size, 0, none⟩ = some (.int .i64 x.pos) ∧ W.cell? ⟨w.heap.size, 1, none⟩ = some (.string x.text) ∧ Jd w W x) (by kernel_rfl) K2 (fun hHeld => ?_)
              refine take_yes (i := 0) (oi := { dst := some 25, op := Op.move (Operand.tmp 6), type := 3, pos := "l09_pieces.go:94", after := #[], guard := none }) (v := .int .i64 (G : Int)) rfl (by kernel_rfl) (by kernel_rfl) (by kernel_rfl) (fun _ _ _ h => h) (by rfl) (fun w hSw => by (try dsimp only at hSw); go_simp) (by assumption) ?_
              try simp only [Act.put, List.setIfInBounds_toArray, List.set_cons_zero, List.set_cons_succ]
              refine take_yes (i := 1) (oi := { dst := some 26, op := Op.move (Operand.tmp 0), type := 24, pos := "l09_pieces.go:94", after := #[], guard := none }) (v := .slice (some ⟨b, off, none⟩) l.length lc) rfl (by kernel_rfl) (by kernel_rfl) (by kernel_rfl) (fun _ _ _ h => h) (by rfl) (fun w hSw => by (try dsimp only at hSw); go_simp) (by assumption) ?_
              try simp only [Act.put, List.setIfInBounds_toArray, List.set_cons_zero, List.set_cons_succ]
              refine take_yes (i := 2) (oi := { dst := some 27, op := Op.call { callee := Callee.builtin Builtin.len, args := #[Operand.tmp 26], argTypes := #[24] }, type := 3, pos := "l09_pieces.go:94", after := #[{ on := 1, ground := Ground.data }], guard := none }) (v := .int .i64 (l.length : Int)) rfl (by kernel_rfl) (by kernel_rfl) (by kernel_rfl) (fun _ _ _ h => h) (by rfl) (fun w hSw => by (try dsimp only at hSw); go_simp) (by assumption) ?_
              try simp only [Act.put, List.setIfInBounds_toArray, List.set_cons_zero, List.set_cons_succ]
              refine take_yes (i := 3) (oi := { dst := some 28, op := Op.binOp BinOp.lss 3 (Operand.tmp 25) (Operand.tmp 27) 3, type := 4, pos := "l09_pieces.go:94", after := #[{ on := 0, ground := Ground.data }, { on := 2, ground := Ground.data }], guard := none }) (v := .bool true) rfl (by kernel_rfl) (by kernel_rfl) (by kernel_rfl) (fun _ _ _ h => h) (by rfl) (fun w hSw => by (try dsimp only at hSw); go_simp) (by assumption) ?_
              try simp only [Act.put, List.setIfInBounds_toArray, List.set_cons_zero, List.set_cons_succ]
              refine take_yes (i := 4) (oi := { dst := some 29, op := Op.move (Operand.tmp 28), type := 4, pos := "l09_pieces.go:94", after := #[{ on := 3, ground := Ground.data }], guard := none }) (v := .bool true) rfl (by kernel_rfl) (by kernel_rfl) (by kernel_rfl) (fun _ _ _ h => h) (by rfl) (fun w hSw => by (try dsimp only at hSw); go_simp) (by assumption) ?_
              try simp only [Act.put, List.setIfInBounds_toArray, List.set_cons_zero, List.set_cons_succ]
              refine take_yes (i := 5) (oi := { dst := some 30, op := Op.move (Operand.tmp 0), type := 24, pos := "l09_pieces.go:94", after := #[{ on := 4, ground := Ground.guard }], guard := some (4, true) }) (v := .slice (some ⟨b, off, none⟩) l.length lc) rfl (by kernel_rfl) (by kernel_rfl) (by kernel_rfl) (fun _ _ _ h => h) (by rfl) (fun w hSw => by (try dsimp only at hSw); go_simp) (by assumption) ?_
              try simp only [Act.put, List.setIfInBounds_toArray, List.set_cons_zero, List.set_cons_succ]
              refine take_yes (i := 6) (oi := { dst := some 31, op := Op.move (Operand.tmp 6), type := 3, pos := "l09_pieces.go:94", after := #[{ on := 4, ground := Ground.guard }], guard := some (4, true) }) (v := .int .i64 (G : Int)) rfl (by kernel_rfl) (by kernel_rfl) (by kernel_rfl) (fun _ _ _ h => h) (by rfl) (fun w hSw => by (try dsimp only at hSw); go_simp) (by assumption) ?_
              try simp only [Act.put, List.setIfInBounds_toArray, List.set_cons_zero, List.set_cons_succ]
              refine take_yes (i := 7) (oi := { dst := some 32, op := Op.indexAddr 24 (Operand.tmp 30) (Operand.tmp 31), type := 0, pos := "l09_pieces.go:94", after := #[{ on := 5, ground := Ground.data }, { on := 6, ground := Ground.data }, { on := 4, ground := Ground.guard }], guard := some (4, true) }) (v := .pointer (some ⟨b, off + G * 2, none⟩)) rfl (by kernel_rfl) (by kernel_rfl) (by kernel_rfl) (fun _ _ _ h => h) (by rfl) (fun w hSw => by (try dsimp only at hSw); go_simp) (by assumption) ?_
              try simp only [Act.put, List.setIfInBounds_toArray, List.set_cons_zero, List.set_cons_succ]
              refine take_yes (i := 8) (oi := { dst := some 33, op := Op.fieldAddr 41 (Operand.tmp 32) 0, type := 0, pos := "l09_pieces.go:94", after := #[{ on := 7, ground := Ground.data }, { on := 4, ground := Ground.guard }], guard := some (4, true) }) (v := .pointer (some ⟨b, off + G * 2, none⟩)) rfl (by kernel_rfl) (by kernel_rfl) (by kernel_rfl) (fun _ _ _ h => h) (by rfl) (fun w hSw => by (try dsimp only at hSw); go_simp) (by assumption) ?_
              try simp only [Act.put, List.setIfInBounds_toArray, List.set_cons_zero, List.set_cons_succ]
              refine take_yes (i := 9) (oi := { dst := some 34, op := Op.load 3 (Operand.tmp 33), type := 3, pos := "l09_pieces.go:94", after := #[{ on := 8, ground := Ground.data }, { on := 4, ground := Ground.guard }], guard := some (4, true) }) (v := .int .i64 y.pos) rfl (by kernel_rfl) (by kernel_rfl) (by kernel_rfl) (fun _ _ _ h => h) (by rfl) (fun w hSw => by (try dsimp only at hSw); go_simp) (by assumption) ?_
              try simp only [Act.put, List.setIfInBounds_toArray, List.set_cons_zero, List.set_cons_succ]
              refine take_yes (i := 10) (oi := { dst := some 35, op := Op.load 41 (Operand.tmp 3), type := 41, pos := "l09_pieces.go:94", after := #[{ on := 4, ground := Ground.guard }], guard := some (4, true) }) (v := .agg #[.int .i64 x.pos, .string x.text]) rfl (by kernel_rfl) (by kernel_rfl) (by kernel_rfl) (fun _ _ _ h => h) (by rfl) (fun w hSw => by (try dsimp only at hSw); go_simp) (by assumption) ?_
              try simp only [Act.put, List.setIfInBounds_toArray, List.set_cons_zero, List.set_cons_succ]
              refine wpAnyH_ready (rs := [11]) (by kernel_rfl) (by simp) ?_
              refine AllReadyH.cons (o := { dst := some 36, op := Op.call { callee := Callee.value (Operand.func 51), args := #[Operand.tmp 35], argTypes := #[41] }, type := 3, pos := "l09_pieces.go:94", after := #[{ on := 10, ground := Ground.data }, { on := 4, ground := Ground.chain }, { on := 4, ground := Ground.guard }], guard := some (4, true) }) rfl (fun K hK => ?_) AllReadyH.nil
              go_simp
              with_reducible refine (cX _).mono ?_
              rintro e w3 ⟨rfl, hb3⟩
              have K3 := jd_keep hHeld hb3
              refine hK.out _ _ K3 (fun hHeldN => ?_)
              clear hK K hHeld
              have hHeld := hHeldN
              clear hHeldN
              try simp only [Act.put, List.setIfInBounds_toArray, List.set_cons_zero, List.set_cons_succ]
              refine take_yes (i := 12) (oi := { dst := some 37, op := Op.binOp BinOp.leq 3 (Operand.tmp 34) (Operand.tmp 36) 3, type := 4, pos := "l09_pieces.go:94", after := #[{ on := 9, ground := Ground.data }, { on := 11, ground := Ground.data }, { on := 4, ground := Ground.guard }], guard := some (4, true) }) (v := .bool false) rfl (by kernel_rfl) (by kernel_rfl) (by kernel_rfl) (fun _ _ _ h => h) (by rfl) (fun w hSw => by (try dsimp only at hSw); go_simp) (by assumption) ?_
              try simp only [Act.put, List.setIfInBounds_toArray, List.set_cons_zero, List.set_cons_succ]
              refine take_yes (i := 13) (oi := { dst := some 38, op := Op.pick (Operand.tmp 29) (Operand.tmp 37) (Operand.const (Value.bool false)), type := 4, pos := "l09_pieces.go:94", after := #[{ on := 4, ground := Ground.data }, { on := 12, ground := Ground.data }], guard := none }) (v := .bool false) rfl (by kernel_rfl) (by kernel_rfl) (by kernel_rfl) (fun _ _ _ h => h) (by rfl) (fun w hSw => by (try dsimp only at hSw); go_simp) (by assumption) ?_
              try simp only [Act.put, List.setIfInBounds_toArray, List.set_cons_zero, List.set_cons_succ]
              refine wpAnyH_done (by kernel_rfl) ?_ _
              clear hHeld
              have HK := Lib.hid K3.2.2.2.2
              clear K2 K3 hb3
              have K7 := jd_all HK.out.drew
              clear HK
              go_wp2_with (fail)
              refine wp_region_held_drew (S := fun W => W.cell? ⟨w.heap.size, 0, none⟩ = some (.int .i64 x.pos) ∧ W.cell? ⟨w.heap.size, 1, none⟩ = some (.string x.text) ∧ Jd w W x) (by kernel_rfl) K7 (fun hHeld => ?_)
              refine take_yes (i := 0) (oi := { dst := some 41, op := Op.move (Operand.tmp 0), type := 24, pos := "l09_pieces.go:98", after := #[], guard := none }) (v := .slice (some ⟨b, off, none⟩) l.length lc) rfl (by kernel_rfl) (by kernel_rfl) (by kernel_rfl) (fun _ _ _ h => h) (by rfl) (fun w hSw => by (try dsimp only at hSw); go_simp) (by assumption) ?_
              try simp only [Act.put, List.setIfInBounds_toArray, List.set_cons_zero, List.set_cons_succ]
              refine take_yes (i := 1) (oi := { dst := some 42, op := Op.move (Operand.tmp 5), type := 3, pos := "l09_pieces.go:98", after := #[], guard := none }) (v := .int .i64 (A : Int)) rfl (by kernel_rfl) (by kernel_rfl) (by kernel_rfl) (fun _ _ _ h => h) (by rfl) (fun w hSw => by (try dsimp only at hSw); go_simp) (by assumption) ?_
              try simp only [Act.put, List.setIfInBounds_toArray, List.set_cons_zero, List.set_cons_succ]
              refine take_yes (i := 2) (oi := { dst := some 43, op := Op.move (Operand.tmp 5), type := 3, pos := "l09_pieces.go:98", after := #[], guard := none }) (v := .int .i64 (A : Int)) rfl (by kernel_rfl) (by kernel_rfl) (by kernel_rfl) (fun _ _ _ h => h) (by rfl) (fun w hSw => by (try dsimp only at hSw); go_simp) (by assumption) ?_
              try simp only [Act.put, List.setIfInBounds_toArray, List.set_cons_zero, List.set_cons_succ]
              refine take_yes (i := 3) (oi := { dst := some 44, op := Op.slice 24 (Operand.tmp 41) none (some (Operand.tmp 42)) (some (Operand.tmp 43)), type := 24, pos := "l09_pieces.go:98", after := #[{ on := 0, ground := Ground.data }, { on := 1, ground := Ground.data }, { on := 2, ground := Ground.data }], guard := none }) (v := .slice a1 A A) rfl (by kernel_rfl) (by kernel_rfl) (by kernel_rfl) (fun _ _ _ h => h) (by rfl) (fun w hSw => by (try dsimp only at hSw); go_simp) (by assumption) ?_
              try simp only [Act.put, List.setIfInBounds_toArray, List.set_cons_zero, List.set_cons_succ]
              refine take_yes (i := 4) (oi := { dst := some 45, op := Op.load 41 (Operand.tmp 3), type := 41, pos := "l09_pieces.go:98", after := #[], guard := none }) (v := .agg #[.int .i64 x.pos, .string x.text]) rfl (by kernel_rfl) (by kernel_rfl) (by kernel_rfl) (fun _ _ _ h => h) (by rfl) (fun w hSw => by (try dsimp only at hSw); go_simp) (by assumption) ?_
              try simp only [Act.put, List.setIfInBounds_toArray, List.set_cons_zero, List.set_cons_succ]
              refine take_yes (i := 5) (oi := { dst := some 46, op := Op.move (Operand.tmp 0), type := 24, pos := "l09_pieces.go:98", after := #[], guard := none }) (v := .slice (some ⟨b, off, none⟩) l.length lc) rfl (by kernel_rfl) (by kernel_rfl) (by kernel_rfl) (fun _ _ _ h => h) (by rfl) (fun w hSw => by (try dsimp only at hSw); go_simp) (by assumption) ?_
              try simp only [Act.put, List.setIfInBounds_toArray, List.set_cons_zero, List.set_cons_succ]
              refine take_yes (i := 6) (oi := { dst := some 47, op := Op.move (Operand.tmp 5), type := 3, pos := "l09_pieces.go:98", after := #[], guard := none }) (v := .int .i64 (A : Int)) rfl (by kernel_rfl) (by kernel_rfl) (by kernel_rfl) (fun _ _ _ h => h) (by rfl) (fun w hSw => by (try dsimp only at hSw); go_simp) (by assumption) ?_
              try simp only [Act.put, List.setIfInBounds_toArray, List.set_cons_zero, List.set_cons_succ]
              refine take_yes (i := 7) (oi := { dst := some 48, op := Op.move (Operand.tmp 6), type := 3, pos := "l09_pieces.go:98", after := #[], guard := none }) (v := .int .i64 (G : Int)) rfl (by kernel_rfl) (by kernel_rfl) (by kernel_rfl) (fun _ _ _ h => h) (by rfl) (fun w hSw => by (try dsimp only at hSw); go_simp) (by assumption) ?_
              try simp only [Act.put, List.setIfInBounds_toArray, List.set_cons_zero, List.set_cons_succ]
              refine take_yes (i := 8) (oi := { dst := some 49, op := Op.move (Operand.tmp 6), type := 3, pos := "l09_pieces.go:98", after := #[], guard := none }) (v := .int .i64 (G : Int)) rfl (by kernel_rfl) (by kernel_rfl) (by kernel_rfl) (fun _ _ _ h => h) (by rfl) (fun w hSw => by (try dsimp only at hSw); go_simp) (by assumption) ?_
              try simp only [Act.put, List.setIfInBounds_toArray, List.set_cons_zero, List.set_cons_succ]
              refine take_yes (i := 9) (oi := { dst := some 50, op := Op.slice 24 (Operand.tmp 46) (some (Operand.tmp 47)) (some (Operand.tmp 48)) (some (Operand.tmp 49)), type := 24, pos := "l09_pieces.go:98", after := #[{ on := 5, ground := Ground.data }, { on := 6, ground := Ground.data }, { on := 7, ground := Ground.data }, { on := 8, ground := Ground.data }], guard := none }) (v := .slice a2 M M) rfl (by kernel_rfl) (by kernel_rfl) (by kernel_rfl) (fun _ _ _ h => h) (by rfl) (fun w hSw => by (try dsimp only at hSw); go_simp) (by assumption) ?_
              try simp only [Act.put, List.setIfInBounds_toArray, List.set_cons_zero, List.set_cons_succ]
              refine wpAnyH_ready (rs := [10]) (by kernel_rfl) (by simp) ?_
              refine AllReadyH.cons (o := { dst := some 51, op := Op.call { callee := Callee.value (Operand.func 66), args := #[Operand.tmp 45, Operand.tmp 50], argTypes := #[41, 24] }, type := 41, pos := "l09_pieces.go:98", after := #[{ on := 4, ground := Ground.data }, { on := 9, ground := Ground.data }], guard := none }) rfl (fun K hK => ?_) AllReadyH.nil
              go_simp
              with_reducible refine (cM _ (HS.out.2.1 _ (hv.below hHeld.2.2.below))).mono ?_
              rintro e w8 ⟨rfl, hb8⟩
              have K8 := jd_all (hHeld.2.2.kept hb8)
              refine hK.out _ _ K8 (fun hHeldN => ?_)
              clear hK K hHeld
              have hHeld := hHeldN
              clear hHeldN
              try simp only [Act.put, List.setIfInBounds_toArray, List.set_cons_zero, List.set_cons_succ]
              refine wpAnyH_ready (rs := [11]) (by kernel_rfl) (by simp) ?_
              refine AllReadyH.cons (o := { dst := some 52, op := Op.buildSlice 24 1 #[(0, Operand.tmp 51)], type := 24, pos := "l09_pieces.go:98", after := #[{ on := 10, ground := Ground.data }], guard := none }) rfl (fun K hK => ?_) AllReadyH.nil
              go_simp
              have K9 := jd_all (hHeld.2.2.kept (below_new w8 (.cells #[.int .i64 J.pos, .string J.text] 41)))
              refine hK.out _ _ K9 (fun hHeldN => ?_)
              clear hK K hHeld
              have hHeld := hHeldN
              clear hHeldN
              try simp only [Act.put, List.setIfInBounds_toArray, List.set_cons_zero, List.set_cons_succ]
              refine wpAnyH_ready (rs := [12]) (by kernel_rfl) (by simp) ?_
              refine AllReadyH.cons (o := { dst := some 53, op := Op.call { callee := Callee.builtin Builtin.append, args := #[Operand.tmp 44, Operand.tmp 52], argTypes := #[24, 24] }, type := 24, pos := "l09_pieces.go:98", after := #[{ on := 3, ground := Ground.data }, { on := 11, ground := Ground.data }, { on := 10, ground := Ground.chain }], guard := none }) rfl (fun K hK => ?_) AllReadyH.nil
              obtain ⟨v9, w9, hrun, hown, hgrow⟩ := eapp_fresh pcK 24 24 uPc (w8.alloc (.cells #[.int .i64 J.pos, .string J.text] 41)) a1 (.slice (some ⟨w8.heap.size, 0, none⟩) 1 1) T [J] (by rw [hTl]; exact (HS.out.1 _ (hv.below hHeld.2.2.below)).rd) (rd_onePc w8 J) (by simp) (by rw [hTl]; simp; omega)
              rw [hTl] at hrun
              obtain ⟨ya, yc, hfe, -⟩ := OwnE.form hown
              rw [show (T ++ [J]).length = A + 1 by simp [hTl]] at hfe
              subst hfe
              refine wp_append_run (.tmp 44) (.tmp 52) 24 24 rfl _ _ rfl rfl hrun ?_
              have K10 := jd_all (hHeld.2.2.grown hgrow (fun k hk => by cases hk))
              have HN := Lib.hid (And.intro (hown.mono (B' := w.heap.size) (by have := K9.2.2.below.size; exact this) (Nat.le_refl _)) K10.2.2)
              clear hown hgrow
              refine hK.out _ _ K10 (fun hHeldN => ?_)
              clear hK K hHeld
              have hHeld := hHeldN
              clear hHeldN
              try simp only [Act.put, List.setIfInBounds_toArray, List.set_cons_zero, List.set_cons_succ]
              refine take_yes (i := 13) (oi := { dst := some 7, op := Op.assign (Operand.tmp 53), type := 24, pos := "l09_pieces.go:98", after := #[{ on := 12, ground := Ground.data }, { on := 12, ground := Ground.chain }, { on := 0, ground := Ground.phase }, { on := 1, ground := Ground.phase }, { on := 2, ground := Ground.phase }, { on := 3, ground := Ground.phase }, { on := 4, ground := Ground.phase }, { on := 5, ground := Ground.phase }, { on := 6, ground := Ground.phase }, { on := 7, ground := Ground.phase }, { on := 8, ground := Ground.phase }, { on := 9, ground := Ground.phase }, { on := 10, ground := Ground.phase }, { on := 11, ground := Ground.phase }, { on := 12, ground := Ground.phase }], guard := none }) (v := .slice ya (A + 1) yc) rfl (by kernel_rfl) (by kernel_rfl) (by kernel_rfl) (fun _ _ _ h => h) (by rfl) (fun w hSw => by (try dsimp only at hSw); go_simp) (by assumption) ?_
              try simp only [Act.put, List.setIfInBounds_toArray, List.set_cons_zero, List.set_cons_succ]
              refine wpAnyH_done (by kernel_rfl) ?_ _
              clear hHeld
              clear K7 K8 K9 K10 hb8 hrun hsl1 hsl2
              have hB9 : w.heap.size ≤ w9.heap.size := HN.out.2.below.size
              have hx9 := (HS.out.2.2 _ (hv.below HN.out.2.below)).rd
              have ho9 := HN.out.1
              have hln : (T ++ [J] ++ D).length = A + (D.length + 1) := by simp only [List.length_append, List.length_cons, List.length_nil]; omega
              go_wp2_with (at_builtin; refine wpList_append_els pcK rfl _ _ 24 24 rfl uPc uPc w.heap.size (.slice ya (A + 1) yc) _ (T ++ [J]) D rfl rfl ho9 hB9 hx9 (by simp; omega) ?_; intro v10 w10 hown hgrow _; have hB10 := HN.out.2.below.grown hgrow HN.out.2.below.size (fun g hg => (OwnE.block ho9 g hg).1); obtain ⟨za, zc, hfe, -⟩ := OwnE.form hown; rw [hln] at hfe; have HF := Lib.hid (And.intro hown hB10); clear hown hgrow hB10 ho9 hx9 hB9; subst hfe)
              go_ret
              refine ⟨_, rfl, ?_, HF.out.2⟩
              have := HF.out.1
              rw [List.append_assoc] at this
              exact this
          · have hkG2 : G = k := by omega
            subst hkG2
            have q : ¬ (G : Int) < (l.length : Int) := by omega
            have K2 := jd_all hJd.drew
            clear hJd
            go_wp2_with (fail)
            refine wp_region_held_drew (S := fun W => W.cell? ⟨w.heap.size, 0, none⟩ = some (.int .i64 x.pos) ∧ W.cell? ⟨w.heap.size, 1, none⟩ = some (.string x.text) ∧ Jd w W x) (by kernel_rfl) K2 (fun hHeld => ?_)
            refine take_yes (i := 0) (oi := { dst := some 25, op := Op.move (Operand.tmp 6), type := 3, pos := "l09_pieces.go:94", after := #[], guard := none }) (v := .int .i64 (G : Int)) rfl (by kernel_rfl) (by kernel_rfl) (by kernel_rfl) (fun _ _ _ h => h) (by rfl) (fun w hSw => by (try dsimp only at hSw); go_simp) (by assumption) ?_
            try simp only [Act.put, List.setIfInBounds_toArray, List.set_cons_zero, List.set_cons_succ]
            refine take_yes (i := 1) (oi := { dst := some 26, op := Op.move (Operand.tmp 0), type := 24, pos := "l09_pieces.go:94", after := #[], guard := none }) (v := .slice (some ⟨b, off, none⟩) l.length lc) rfl (by kernel_rfl) (by kernel_rfl) (by kernel_rfl) (fun _ _ _ h => h) (by rfl) (fun w hSw => by (try dsimp only at hSw); go_simp) (by assumption) ?_
            try simp only [Act.put, List.setIfInBounds_toArray, List.set_cons_zero, List.set_cons_succ]
            refine take_yes (i := 2) (oi := { dst := some 27, op := Op.call { callee := Callee.builtin Builtin.len, args := #[Operand.tmp 26], argTypes := #[24] }, type := 3, pos := "l09_pieces.go:94", after := #[{ on := 1, ground := Ground.data }], guard := none }) (v := .int .i64 (l.length : Int)) rfl (by kernel_rfl) (by kernel_rfl) (by kernel_rfl) (fun _ _ _ h => h) (by rfl) (fun w hSw => by (try dsimp only at hSw); go_simp) (by assumption) ?_
            try simp only [Act.put, List.setIfInBounds_toArray, List.set_cons_zero, List.set_cons_succ]
            refine take_yes (i := 3) (oi := { dst := some 28, op := Op.binOp BinOp.lss 3 (Operand.tmp 25) (Operand.tmp 27) 3, type := 4, pos := "l09_pieces.go:94", after := #[{ on := 0, ground := Ground.data }, { on := 2, ground := Ground.data }], guard := none }) (v := .bool false) rfl (by kernel_rfl) (by kernel_rfl) (by kernel_rfl) (fun _ _ _ h => h) (by rfl) (fun w hSw => by (try dsimp only at hSw); go_simp) (by assumption) ?_
            try simp only [Act.put, List.setIfInBounds_toArray, List.set_cons_zero, List.set_cons_succ]
            refine take_yes (i := 4) (oi := { dst := some 29, op := Op.move (Operand.tmp 28), type := 4, pos := "l09_pieces.go:94", after := #[{ on := 3, ground := Ground.data }], guard := none }) (v := .bool false) rfl (by kernel_rfl) (by kernel_rfl) (by kernel_rfl) (fun _ _ _ h => h) (by rfl) (fun w hSw => by (try dsimp only at hSw); go_simp) (by assumption) ?_
            try simp only [Act.put, List.setIfInBounds_toArray, List.set_cons_zero, List.set_cons_succ]
            refine take_no (i := 5) (oi := { dst := some 30, op := Op.move (Operand.tmp 0), type := 24, pos := "l09_pieces.go:94", after := #[{ on := 4, ground := Ground.guard }], guard := some (4, true) }) rfl (by kernel_rfl) (by kernel_rfl) (by kernel_rfl) (fun _ _ _ h => h) (by rfl) (by assumption) ?_
            try simp only [Act.put, List.setIfInBounds_toArray, List.set_cons_zero, List.set_cons_succ]
            refine take_no (i := 6) (oi := { dst := some 31, op := Op.move (Operand.tmp 6), type := 3, pos := "l09_pieces.go:94", after := #[{ on := 4, ground := Ground.guard }], guard := some (4, true) }) rfl (by kernel_rfl) (by kernel_rfl) (by kernel_rfl) (fun _ _ _ h => h) (by rfl) (by assumption) ?_
            try simp only [Act.put, List.setIfInBounds_toArray, List.set_cons_zero, List.set_cons_succ]
            refine take_no (i := 7) (oi := { dst := some 32, op := Op.indexAddr 24 (Operand.tmp 30) (Operand.tmp 31), type := 0, pos := "l09_pieces.go:94", after := #[{ on := 5, ground := Ground.data }, { on := 6, ground := Ground.data }, { on := 4, ground := Ground.guard }], guard := some (4, true) }) rfl (by kernel_rfl) (by kernel_rfl) (by kernel_rfl) (fun _ _ _ h => h) (by rfl) (by assumption) ?_
            try simp only [Act.put, List.setIfInBounds_toArray, List.set_cons_zero, List.set_cons_succ]
            refine take_no (i := 8) (oi := { dst := some 33, op := Op.fieldAddr 41 (Operand.tmp 32) 0, type := 0, pos := "l09_pieces.go:94", after := #[{ on := 7, ground := Ground.data }, { on := 4, ground := Ground.guard }], guard := some (4, true) }) rfl (by kernel_rfl) (by kernel_rfl) (by kernel_rfl) (fun _ _ _ h => h) (by rfl) (by assumption) ?_
            try simp only [Act.put, List.setIfInBounds_toArray, List.set_cons_zero, List.set_cons_succ]
            refine take_no (i := 9) (oi := { dst := some 34, op := Op.load 3 (Operand.tmp 33), type := 3, pos := "l09_pieces.go:94", after := #[{ on := 8, ground := Ground.data }, { on := 4, ground := Ground.guard }], guard := some (4, true) }) rfl (by kernel_rfl) (by kernel_rfl) (by kernel_rfl) (fun _ _ _ h => h) (by rfl) (by assumption) ?_
            try simp only [Act.put, List.setIfInBounds_toArray, List.set_cons_zero, List.set_cons_succ]
            refine take_no (i := 10) (oi := { dst := some 35, op := Op.load 41 (Operand.tmp 3), type := 41, pos := "l09_pieces.go:94", after := #[{ on := 4, ground := Ground.guard }], guard := some (4, true) }) rfl (by kernel_rfl) (by kernel_rfl) (by kernel_rfl) (fun _ _ _ h => h) (by rfl) (by assumption) ?_
            try simp only [Act.put, List.setIfInBounds_toArray, List.set_cons_zero, List.set_cons_succ]
            refine take_no (i := 11) (oi := { dst := some 36, op := Op.call { callee := Callee.value (Operand.func 51), args := #[Operand.tmp 35], argTypes := #[41] }, type := 3, pos := "l09_pieces.go:94", after := #[{ on := 10, ground := Ground.data }, { on := 4, ground := Ground.chain }, { on := 4, ground := Ground.guard }], guard := some (4, true) }) rfl (by kernel_rfl) (by kernel_rfl) (by kernel_rfl) (fun _ _ _ h => h) (by rfl) (by assumption) ?_
            try simp only [Act.put, List.setIfInBounds_toArray, List.set_cons_zero, List.set_cons_succ]
            refine take_no (i := 12) (oi := { dst := some 37, op := Op.binOp BinOp.leq 3 (Operand.tmp 34) (Operand.tmp 36) 3, type := 4, pos := "l09_pieces.go:94", after := #[{ on := 9, ground := Ground.data }, { on := 11, ground := Ground.data }, { on := 4, ground := Ground.guard }], guard := some (4, true) }) rfl (by kernel_rfl) (by kernel_rfl) (by kernel_rfl) (fun _ _ _ h => h) (by rfl) (by assumption) ?_
            try simp only [Act.put, List.setIfInBounds_toArray, List.set_cons_zero, List.set_cons_succ]
            refine take_yes (i := 13) (oi := { dst := some 38, op := Op.pick (Operand.tmp 29) (Operand.tmp 37) (Operand.const (Value.bool false)), type := 4, pos := "l09_pieces.go:94", after := #[{ on := 4, ground := Ground.data }, { on := 12, ground := Ground.data }], guard := none }) (v := .bool false) rfl (by kernel_rfl) (by kernel_rfl) (by kernel_rfl) (fun _ _ _ h => h) (by rfl) (fun w hSw => by (try dsimp only at hSw); go_simp) (by assumption) ?_
            try simp only [Act.put, List.setIfInBounds_toArray, List.set_cons_zero, List.set_cons_succ]
            refine wpAnyH_done (by kernel_rfl) ?_ _
            clear hHeld
            have HK := Lib.hid K2.2.2
            clear K2
            have K7 := jd_all HK.out.drew
            clear HK
            go_wp2_with (fail)
            refine wp_region_held_drew (S := fun W => W.cell? ⟨w.heap.size, 0, none⟩ = some (.int .i64 x.pos) ∧ W.cell? ⟨w.heap.size, 1, none⟩ = some (.string x.text) ∧ Jd w W x) (by kernel_rfl) K7 (fun hHeld => ?_)
            refine take_yes (i := 0) (oi := { dst := some 41, op := Op.move (Operand.tmp 0), type := 24, pos := "l09_pieces.go:98", after := #[], guard := none }) (v := .slice (some ⟨b, off, none⟩) l.length lc) rfl (by kernel_rfl) (by kernel_rfl) (by kernel_rfl) (fun _ _ _ h => h) (by rfl) (fun w hSw => by (try dsimp only at hSw); go_simp) (by assumption) ?_
            try simp only [Act.put, List.setIfInBounds_toArray, List.set_cons_zero, List.set_cons_succ]
            refine take_yes (i := 1) (oi := { dst := some 42, op := Op.move (Operand.tmp 5), type := 3, pos := "l09_pieces.go:98", after := #[], guard := none }) (v := .int .i64 (A : Int)) rfl (by kernel_rfl) (by kernel_rfl) (by kernel_rfl) (fun _ _ _ h => h) (by rfl) (fun w hSw => by (try dsimp only at hSw); go_simp) (by assumption) ?_
            try simp only [Act.put, List.setIfInBounds_toArray, List.set_cons_zero, List.set_cons_succ]
            refine take_yes (i := 2) (oi := { dst := some 43, op := Op.move (Operand.tmp 5), type := 3, pos := "l09_pieces.go:98", after := #[], guard := none }) (v := .int .i64 (A : Int)) rfl (by kernel_rfl) (by kernel_rfl) (by kernel_rfl) (fun _ _ _ h => h) (by rfl) (fun w hSw => by (try dsimp only at hSw); go_simp) (by assumption) ?_
            try simp only [Act.put, List.setIfInBounds_toArray, List.set_cons_zero, List.set_cons_succ]
            refine take_yes (i := 3) (oi := { dst := some 44, op := Op.slice 24 (Operand.tmp 41) none (some (Operand.tmp 42)) (some (Operand.tmp 43)), type := 24, pos := "l09_pieces.go:98", after := #[{ on := 0, ground := Ground.data }, { on := 1, ground := Ground.data }, { on := 2, ground := Ground.data }], guard := none }) (v := .slice a1 A A) rfl (by kernel_rfl) (by kernel_rfl) (by kernel_rfl) (fun _ _ _ h => h) (by rfl) (fun w hSw => by (try dsimp only at hSw); go_simp) (by assumption) ?_
            try simp only [Act.put, List.setIfInBounds_toArray, List.set_cons_zero, List.set_cons_succ]
            refine take_yes (i := 4) (oi := { dst := some 45, op := Op.load 41 (Operand.tmp 3), type := 41, pos := "l09_pieces.go:98", after := #[], guard := none }) (v := .agg #[.int .i64 x.pos, .string x.text]) rfl (by kernel_rfl) (by kernel_rfl) (by kernel_rfl) (fun _ _ _ h => h) (by rfl) (fun w hSw => by (try dsimp only at hSw); go_simp) (by assumption) ?_
            try simp only [Act.put, List.setIfInBounds_toArray, List.set_cons_zero, List.set_cons_succ]
            refine take_yes (i := 5) (oi := { dst := some 46, op := Op.move (Operand.tmp 0), type := 24, pos := "l09_pieces.go:98", after := #[], guard := none }) (v := .slice (some ⟨b, off, none⟩) l.length lc) rfl (by kernel_rfl) (by kernel_rfl) (by kernel_rfl) (fun _ _ _ h => h) (by rfl) (fun w hSw => by (try dsimp only at hSw); go_simp) (by assumption) ?_
            try simp only [Act.put, List.setIfInBounds_toArray, List.set_cons_zero, List.set_cons_succ]
            refine take_yes (i := 6) (oi := { dst := some 47, op := Op.move (Operand.tmp 5), type := 3, pos := "l09_pieces.go:98", after := #[], guard := none }) (v := .int .i64 (A : Int)) rfl (by kernel_rfl) (by kernel_rfl) (by kernel_rfl) (fun _ _ _ h => h) (by rfl) (fun w hSw => by (try dsimp only at hSw); go_simp) (by assumption) ?_
            try simp only [Act.put, List.setIfInBounds_toArray, List.set_cons_zero, List.set_cons_succ]
            refine take_yes (i := 7) (oi := { dst := some 48, op := Op.move (Operand.tmp 6), type := 3, pos := "l09_pieces.go:98", after := #[], guard := none }) (v := .int .i64 (G : Int)) rfl (by kernel_rfl) (by kernel_rfl) (by kernel_rfl) (fun _ _ _ h => h) (by rfl) (fun w hSw => by (try dsimp only at hSw); go_simp) (by assumption) ?_
            try simp only [Act.put, List.setIfInBounds_toArray, List.set_cons_zero, List.set_cons_succ]
            refine take_yes (i := 8) (oi := { dst := some 49, op := Op.move (Operand.tmp 6), type := 3, pos := "l09_pieces.go:98", after := #[], guard := none }) (v := .int .i64 (G : Int)) rfl (by kernel_rfl) (by kernel_rfl) (by kernel_rfl) (fun _ _ _ h => h) (by rfl) (fun w hSw => by (try dsimp only at hSw); go_simp) (by assumption) ?_
            try simp only [Act.put, List.setIfInBounds_toArray, List.set_cons_zero, List.set_cons_succ]
            refine take_yes (i := 9) (oi := { dst := some 50, op := Op.slice 24 (Operand.tmp 46) (some (Operand.tmp 47)) (some (Operand.tmp 48)) (some (Operand.tmp 49)), type := 24, pos := "l09_pieces.go:98", after := #[{ on := 5, ground := Ground.data }, { on := 6, ground := Ground.data }, { on := 7, ground := Ground.data }, { on := 8, ground := Ground.data }], guard := none }) (v := .slice a2 M M) rfl (by kernel_rfl) (by kernel_rfl) (by kernel_rfl) (fun _ _ _ h => h) (by rfl) (fun w hSw => by (try dsimp only at hSw); go_simp) (by assumption) ?_
            try simp only [Act.put, List.setIfInBounds_toArray, List.set_cons_zero, List.set_cons_succ]
            refine wpAnyH_ready (rs := [10]) (by kernel_rfl) (by simp) ?_
            refine AllReadyH.cons (o := { dst := some 51, op := Op.call { callee := Callee.value (Operand.func 66), args := #[Operand.tmp 45, Operand.tmp 50], argTypes := #[41, 24] }, type := 41, pos := "l09_pieces.go:98", after := #[{ on := 4, ground := Ground.data }, { on := 9, ground := Ground.data }], guard := none }) rfl (fun K hK => ?_) AllReadyH.nil
            go_simp
            with_reducible refine (cM _ (HS.out.2.1 _ (hv.below hHeld.2.2.below))).mono ?_
            rintro e w8 ⟨rfl, hb8⟩
            have K8 := jd_all (hHeld.2.2.kept hb8)
            refine hK.out _ _ K8 (fun hHeldN => ?_)
            clear hK K hHeld
            have hHeld := hHeldN
            clear hHeldN
            try simp only [Act.put, List.setIfInBounds_toArray, List.set_cons_zero, List.set_cons_succ]
            refine wpAnyH_ready (rs := [11]) (by kernel_rfl) (by simp) ?_
            refine AllReadyH.cons (o := { dst := some 52, op := Op.buildSlice 24 1 #[(0, Operand.tmp 51)], type := 24, pos := "l09_pieces.go:98", after := #[{ on := 10, ground := Ground.data }], guard := none }) rfl (fun K hK => ?_) AllReadyH.nil
            go_simp
            have K9 := jd_all (hHeld.2.2.kept (below_new w8 (.cells #[.int .i64 J.pos, .string J.text] 41)))
            refine hK.out _ _ K9 (fun hHeldN => ?_)
            clear hK K hHeld
            have hHeld := hHeldN
            clear hHeldN
            try simp only [Act.put, List.setIfInBounds_toArray, List.set_cons_zero, List.set_cons_succ]
            refine wpAnyH_ready (rs := [12]) (by kernel_rfl) (by simp) ?_
            refine AllReadyH.cons (o := { dst := some 53, op := Op.call { callee := Callee.builtin Builtin.append, args := #[Operand.tmp 44, Operand.tmp 52], argTypes := #[24, 24] }, type := 24, pos := "l09_pieces.go:98", after := #[{ on := 3, ground := Ground.data }, { on := 11, ground := Ground.data }, { on := 10, ground := Ground.chain }], guard := none }) rfl (fun K hK => ?_) AllReadyH.nil
            obtain ⟨v9, w9, hrun, hown, hgrow⟩ := eapp_fresh pcK 24 24 uPc (w8.alloc (.cells #[.int .i64 J.pos, .string J.text] 41)) a1 (.slice (some ⟨w8.heap.size, 0, none⟩) 1 1) T [J] (by rw [hTl]; exact (HS.out.1 _ (hv.below hHeld.2.2.below)).rd) (rd_onePc w8 J) (by simp) (by rw [hTl]; simp; omega)
            rw [hTl] at hrun
            obtain ⟨ya, yc, hfe, -⟩ := OwnE.form hown
            rw [show (T ++ [J]).length = A + 1 by simp [hTl]] at hfe
            subst hfe
            refine wp_append_run (.tmp 44) (.tmp 52) 24 24 rfl _ _ rfl rfl hrun ?_
            have K10 := jd_all (hHeld.2.2.grown hgrow (fun k hk => by cases hk))
            have HN := Lib.hid (And.intro (hown.mono (B' := w.heap.size) (by have := K9.2.2.below.size; exact this) (Nat.le_refl _)) K10.2.2)
            clear hown hgrow
            refine hK.out _ _ K10 (fun hHeldN => ?_)
            clear hK K hHeld
            have hHeld := hHeldN
            clear hHeldN
            try simp only [Act.put, List.setIfInBounds_toArray, List.set_cons_zero, List.set_cons_succ]
            refine take_yes (i := 13) (oi := { dst := some 7, op := Op.assign (Operand.tmp 53), type := 24, pos := "l09_pieces.go:98", after := #[{ on := 12, ground := Ground.data }, { on := 12, ground := Ground.chain }, { on := 0, ground := Ground.phase }, { on := 1, ground := Ground.phase }, { on := 2, ground := Ground.phase }, { on := 3, ground := Ground.phase }, { on := 4, ground := Ground.phase }, { on := 5, ground := Ground.phase }, { on := 6, ground := Ground.phase }, { on := 7, ground := Ground.phase }, { on := 8, ground := Ground.phase }, { on := 9, ground := Ground.phase }, { on := 10, ground := Ground.phase }, { on := 11, ground := Ground.phase }, { on := 12, ground := Ground.phase }], guard := none }) (v := .slice ya (A + 1) yc) rfl (by kernel_rfl) (by kernel_rfl) (by kernel_rfl) (fun _ _ _ h => h) (by rfl) (fun w hSw => by (try dsimp only at hSw); go_simp) (by assumption) ?_
            try simp only [Act.put, List.setIfInBounds_toArray, List.set_cons_zero, List.set_cons_succ]
            refine wpAnyH_done (by kernel_rfl) ?_ _
            clear hHeld
            clear K7 K8 K9 K10 hb8 hrun hsl1 hsl2
            have hB9 : w.heap.size ≤ w9.heap.size := HN.out.2.below.size
            have hx9 := (HS.out.2.2 _ (hv.below HN.out.2.below)).rd
            have ho9 := HN.out.1
            have hln : (T ++ [J] ++ D).length = A + (D.length + 1) := by simp only [List.length_append, List.length_cons, List.length_nil]; omega
            go_wp2_with (at_builtin; refine wpList_append_els pcK rfl _ _ 24 24 rfl uPc uPc w.heap.size (.slice ya (A + 1) yc) _ (T ++ [J]) D rfl rfl ho9 hB9 hx9 (by simp; omega) ?_; intro v10 w10 hown hgrow _; have hB10 := HN.out.2.below.grown hgrow HN.out.2.below.size (fun g hg => (OwnE.block ho9 g hg).1); obtain ⟨za, zc, hfe, -⟩ := OwnE.form hown; rw [hln] at hfe; have HF := Lib.hid (And.intro hown hB10); clear hown hgrow hB10 ho9 hx9 hB9; subst hfe)
            go_ret
            refine ⟨_, rfl, ?_, HF.out.2⟩
            have := HF.out.1
            rw [List.append_assoc] at this
            exact this
    · have hkA2 : A = k := by omega
      subst hkA2
      have HAl := Lib.hid (show A = l.length by omega)
      have q : ¬ (A : Int) < (l.length : Int) := by omega
      have K2 := jd_all hJd.drew
      clear hJd
      go_wp2_with (fail)
      refine wp_region_held_drew (S := fun W => W.cell? ⟨w.heap.size, 0, none⟩ = some (.int .i64 x.pos) ∧ W.cell? ⟨w.heap.size, 1, none⟩ = some (.string x.text) ∧ Jd w W x) (by kernel_rfl) K2 (fun hHeld => ?_)
      refine take_yes (i := 0) (oi := { dst := some 8, op := Op.move (Operand.tmp 5), type := 3, pos := "l09_pieces.go:90", after := #[], guard := none }) (v := .int .i64 (A : Int)) rfl (by kernel_rfl) (by kernel_rfl) (by kernel_rfl) (fun _ _ _ h => h) (by rfl) (fun w hSw => by (try dsimp only at hSw); go_simp) (by assumption) ?_
      try simp only [Act.put, List.setIfInBounds_toArray, List.set_cons_zero, List.set_cons_succ]
      refine take_yes (i := 1) (oi := { dst := some 9, op := Op.move (Operand.tmp 0), type := 24, pos := "l09_pieces.go:90", after := #[], guard := none }) (v := .slice oa l.length lc) rfl (by kernel_rfl) (by kernel_rfl) (by kernel_rfl) (fun _ _ _ h => h) (by rfl) (fun w hSw => by (try dsimp only at hSw); go_simp) (by assumption) ?_
      try simp only [Act.put, List.setIfInBounds_toArray, List.set_cons_zero, List.set_cons_succ]
      refine take_yes (i := 2) (oi := { dst := some 10, op := Op.call { callee := Callee.builtin Builtin.len, args := #[Operand.tmp 9], argTypes := #[24] }, type := 3, pos := "l09_pieces.go:90", after := #[{ on := 1, ground := Ground.data }], guard := none }) (v := .int .i64 (l.length : Int)) rfl (by kernel_rfl) (by kernel_rfl) (by kernel_rfl) (fun _ _ _ h => h) (by rfl) (fun w hSw => by (try dsimp only at hSw); go_simp) (by assumption) ?_
      try simp only [Act.put, List.setIfInBounds_toArray, List.set_cons_zero, List.set_cons_succ]
      refine take_yes (i := 3) (oi := { dst := some 11, op := Op.binOp BinOp.lss 3 (Operand.tmp 8) (Operand.tmp 10) 3, type := 4, pos := "l09_pieces.go:90", after := #[{ on := 0, ground := Ground.data }, { on := 2, ground := Ground.data }], guard := none }) (v := .bool false) rfl (by kernel_rfl) (by kernel_rfl) (by kernel_rfl) (fun _ _ _ h => h) (by rfl) (fun w hSw => by (try dsimp only at hSw); go_simp) (by assumption) ?_
      try simp only [Act.put, List.setIfInBounds_toArray, List.set_cons_zero, List.set_cons_succ]
      refine take_yes (i := 4) (oi := { dst := some 12, op := Op.move (Operand.tmp 11), type := 4, pos := "l09_pieces.go:90", after := #[{ on := 3, ground := Ground.data }], guard := none }) (v := .bool false) rfl (by kernel_rfl) (by kernel_rfl) (by kernel_rfl) (fun _ _ _ h => h) (by rfl) (fun w hSw => by (try dsimp only at hSw); go_simp) (by assumption) ?_
      try simp only [Act.put, List.setIfInBounds_toArray, List.set_cons_zero, List.set_cons_succ]
      refine take_no (i := 5) (oi := { dst := some 13, op := Op.move (Operand.tmp 0), type := 24, pos := "l09_pieces.go:90", after := #[{ on := 4, ground := Ground.guard }], guard := some (4, true) }) rfl (by kernel_rfl) (by kernel_rfl) (by kernel_rfl) (fun _ _ _ h => h) (by rfl) (by assumption) ?_
      try simp only [Act.put, List.setIfInBounds_toArray, List.set_cons_zero, List.set_cons_succ]
      refine take_no (i := 6) (oi := { dst := some 14, op := Op.move (Operand.tmp 5), type := 3, pos := "l09_pieces.go:90", after := #[{ on := 4, ground := Ground.guard }], guard := some (4, true) }) rfl (by kernel_rfl) (by kernel_rfl) (by kernel_rfl) (fun _ _ _ h => h) (by rfl) (by assumption) ?_
      try simp only [Act.put, List.setIfInBounds_toArray, List.set_cons_zero, List.set_cons_succ]
      refine take_no (i := 7) (oi := { dst := some 15, op := Op.indexAddr 24 (Operand.tmp 13) (Operand.tmp 14), type := 0, pos := "l09_pieces.go:90", after := #[{ on := 5, ground := Ground.data }, { on := 6, ground := Ground.data }, { on := 4, ground := Ground.guard }], guard := some (4, true) }) rfl (by kernel_rfl) (by kernel_rfl) (by kernel_rfl) (fun _ _ _ h => h) (by rfl) (by assumption) ?_
      try simp only [Act.put, List.setIfInBounds_toArray, List.set_cons_zero, List.set_cons_succ]
      refine take_no (i := 8) (oi := { dst := some 16, op := Op.load 41 (Operand.tmp 15), type := 41, pos := "l09_pieces.go:90", after := #[{ on := 7, ground := Ground.data }, { on := 4, ground := Ground.guard }], guard := some (4, true) }) rfl (by kernel_rfl) (by kernel_rfl) (by kernel_rfl) (fun _ _ _ h => h) (by rfl) (by assumption) ?_
      try simp only [Act.put, List.setIfInBounds_toArray, List.set_cons_zero, List.set_cons_succ]
      refine take_no (i := 9) (oi := { dst := some 17, op := Op.call { callee := Callee.value (Operand.func 51), args := #[Operand.tmp 16], argTypes := #[41] }, type := 3, pos := "l09_pieces.go:90", after := #[{ on := 8, ground := Ground.data }, { on := 4, ground := Ground.chain }, { on := 4, ground := Ground.guard }], guard := some (4, true) }) rfl (by kernel_rfl) (by kernel_rfl) (by kernel_rfl) (fun _ _ _ h => h) (by rfl) (by assumption) ?_
      try simp only [Act.put, List.setIfInBounds_toArray, List.set_cons_zero, List.set_cons_succ]
      refine take_no (i := 10) (oi := { dst := some 18, op := Op.fieldAddr 41 (Operand.tmp 3) 0, type := 0, pos := "l09_pieces.go:90", after := #[{ on := 4, ground := Ground.guard }], guard := some (4, true) }) rfl (by kernel_rfl) (by kernel_rfl) (by kernel_rfl) (fun _ _ _ h => h) (by rfl) (by assumption) ?_
      try simp only [Act.put, List.setIfInBounds_toArray, List.set_cons_zero, List.set_cons_succ]
      refine take_no (i := 11) (oi := { dst := some 19, op := Op.load 3 (Operand.tmp 18), type := 3, pos := "l09_pieces.go:90", after := #[{ on := 10, ground := Ground.data }, { on := 4, ground := Ground.guard }], guard := some (4, true) }) rfl (by kernel_rfl) (by kernel_rfl) (by kernel_rfl) (fun _ _ _ h => h) (by rfl) (by assumption) ?_
      try simp only [Act.put, List.setIfInBounds_toArray, List.set_cons_zero, List.set_cons_succ]
      refine take_no (i := 12) (oi := { dst := some 20, op := Op.binOp BinOp.lss 3 (Operand.tmp 17) (Operand.tmp 19) 3, type := 4, pos := "l09_pieces.go:90", after := #[{ on := 9, ground := Ground.data }, { on := 11, ground := Ground.data }, { on := 4, ground := Ground.guard }], guard := some (4, true) }) rfl (by kernel_rfl) (by kernel_rfl) (by kernel_rfl) (fun _ _ _ h => h) (by rfl) (by assumption) ?_
      try simp only [Act.put, List.setIfInBounds_toArray, List.set_cons_zero, List.set_cons_succ]
      refine take_yes (i := 13) (oi := { dst := some 21, op := Op.pick (Operand.tmp 12) (Operand.tmp 20) (Operand.const (Value.bool false)), type := 4, pos := "l09_pieces.go:90", after := #[{ on := 4, ground := Ground.data }, { on := 12, ground := Ground.data }], guard := none }) (v := .bool false) rfl (by kernel_rfl) (by kernel_rfl) (by kernel_rfl) (fun _ _ _ h => h) (by rfl) (fun w hSw => by (try dsimp only at hSw); go_simp) (by assumption) ?_
      try simp only [Act.put, List.setIfInBounds_toArray, List.set_cons_zero, List.set_cons_succ]
      refine wpAnyH_done (by kernel_rfl) ?_ _
      clear hHeld
      have HK := Lib.hid K2.2.2
      clear K2
      go_wp2_with (fail)
      go_loopw [6] (fun i wr2 => ∃ k : Nat, A ≤ k ∧ k ≤ G ∧ i = .int .i64 k ∧ Jd w wr2 x) (fun i _ => G - (intOf i).toNat)
      case atStart => exact ⟨A, Nat.le_refl _, by omega, rfl, HK.out⟩
      case round =>
        clear HK
        obtain ⟨k, hkA, hk, rfl, hJd⟩ := hrel
        by_cases hlt : k < l.length
        · exact absurd hlt (by have := HAl.out; omega)
        · have hkG2 : G = k := by omega
          subst hkG2
          have q : ¬ (G : Int) < (l.length : Int) := by omega
          have K2 := jd_all hJd.drew
          clear hJd
          go_wp2_with (fail)
          refine wp_region_held_drew (S := fun W => W.cell? ⟨w.heap.size, 0, none⟩ = some (.int .i64 x.pos) ∧ W.cell? ⟨w.heap.size, 1, none⟩ = some (.string x.text) ∧ Jd w W x) (by kernel_rfl) K2 (fun hHeld => ?_)
          refine take_yes (i := 0) (oi := { dst := some 25, op := Op.move (Operand.tmp 6), type := 3, pos := "l09_pieces.go:94", after := #[], guard := none }) (v := .int .i64 (G : Int)) rfl (by kernel_rfl) (by kernel_rfl) (by kernel_rfl) (fun _ _ _ h => h) (by rfl) (fun w hSw => by (try dsimp only at hSw); go_simp) (by assumption) ?_
          try simp only [Act.put, List.setIfInBounds_toArray, List.set_cons_zero, List.set_cons_succ]
          refine take_yes (i := 1) (oi := { dst := some 26, op := Op.move (Operand.tmp 0), type := 24, pos := "l09_pieces.go:94", after := #[], guard := none }) (v := .slice oa l.length lc) rfl (by kernel_rfl) (by kernel_rfl) (by kernel_rfl) (fun _ _ _ h => h) (by rfl) (fun w hSw => by (try dsimp only at hSw); go_simp) (by assumption) ?_
          try simp only [Act.put, List.setIfInBounds_toArray, List.set_cons_zero, List.set_cons_succ]
          refine take_yes (i := 2) (oi := { dst := some 27, op := Op.call { callee := Callee.builtin Builtin.len, args := #[Operand.tmp 26], argTypes := #[24] }, type := 3, pos := "l09_pieces.go:94", after := #[{ on := 1, ground := Ground.data }], guard := none }) (v := .int .i64 (l.length : Int)) rfl (by kernel_rfl) (by kernel_rfl) (by kernel_rfl) (fun _ _ _ h => h) (by rfl) (fun w hSw => by (try dsimp only at hSw); go_simp) (by assumption) ?_
          try simp only [Act.put, List.setIfInBounds_toArray, List.set_cons_zero, List.set_cons_succ]
          refine take_yes (i := 3) (oi := { dst := some 28, op := Op.binOp BinOp.lss 3 (Operand.tmp 25) (Operand.tmp 27) 3, type := 4, pos := "l09_pieces.go:94", after := #[{ on := 0, ground := Ground.data }, { on := 2, ground := Ground.data }], guard := none }) (v := .bool false) rfl (by kernel_rfl) (by kernel_rfl) (by kernel_rfl) (fun _ _ _ h => h) (by rfl) (fun w hSw => by (try dsimp only at hSw); go_simp) (by assumption) ?_
          try simp only [Act.put, List.setIfInBounds_toArray, List.set_cons_zero, List.set_cons_succ]
          refine take_yes (i := 4) (oi := { dst := some 29, op := Op.move (Operand.tmp 28), type := 4, pos := "l09_pieces.go:94", after := #[{ on := 3, ground := Ground.data }], guard := none }) (v := .bool false) rfl (by kernel_rfl) (by kernel_rfl) (by kernel_rfl) (fun _ _ _ h => h) (by rfl) (fun w hSw => by (try dsimp only at hSw); go_simp) (by assumption) ?_
          try simp only [Act.put, List.setIfInBounds_toArray, List.set_cons_zero, List.set_cons_succ]
          refine take_no (i := 5) (oi := { dst := some 30, op := Op.move (Operand.tmp 0), type := 24, pos := "l09_pieces.go:94", after := #[{ on := 4, ground := Ground.guard }], guard := some (4, true) }) rfl (by kernel_rfl) (by kernel_rfl) (by kernel_rfl) (fun _ _ _ h => h) (by rfl) (by assumption) ?_
          try simp only [Act.put, List.setIfInBounds_toArray, List.set_cons_zero, List.set_cons_succ]
          refine take_no (i := 6) (oi := { dst := some 31, op := Op.move (Operand.tmp 6), type := 3, pos := "l09_pieces.go:94", after := #[{ on := 4, ground := Ground.guard }], guard := some (4, true) }) rfl (by kernel_rfl) (by kernel_rfl) (by kernel_rfl) (fun _ _ _ h => h) (by rfl) (by assumption) ?_
          try simp only [Act.put, List.setIfInBounds_toArray, List.set_cons_zero, List.set_cons_succ]
          refine take_no (i := 7) (oi := { dst := some 32, op := Op.indexAddr 24 (Operand.tmp 30) (Operand.tmp 31), type := 0, pos := "l09_pieces.go:94", after := #[{ on := 5, ground := Ground.data }, { on := 6, ground := Ground.data }, { on := 4, ground := Ground.guard }], guard := some (4, true) }) rfl (by kernel_rfl) (by kernel_rfl) (by kernel_rfl) (fun _ _ _ h => h) (by rfl) (by assumption) ?_
          try simp only [Act.put, List.setIfInBounds_toArray, List.set_cons_zero, List.set_cons_succ]
          refine take_no (i := 8) (oi := { dst := some 33, op := Op.fieldAddr 41 (Operand.tmp 32) 0, type := 0, pos := "l09_pieces.go:94", after := #[{ on := 7, ground := Ground.data }, { on := 4, ground := Ground.guard }], guard := some (4, true) }) rfl (by kernel_rfl) (by kernel_rfl) (by kernel_rfl) (fun _ _ _ h => h) (by rfl) (by assumption) ?_
          try simp only [Act.put, List.setIfInBounds_toArray, List.set_cons_zero, List.set_cons_succ]
          refine take_no (i := 9) (oi := { dst := some 34, op := Op.load 3 (Operand.tmp 33), type := 3, pos := "l09_pieces.go:94", after := #[{ on := 8, ground := Ground.data }, { on := 4, ground := Ground.guard }], guard := some (4, true) }) rfl (by kernel_rfl) (by kernel_rfl) (by kernel_rfl) (fun _ _ _ h => h) (by rfl) (by assumption) ?_
          try simp only [Act.put, List.setIfInBounds_toArray, List.set_cons_zero, List.set_cons_succ]
          refine take_no (i := 10) (oi := { dst := some 35, op := Op.load 41 (Operand.tmp 3), type := 41, pos := "l09_pieces.go:94", after := #[{ on := 4, ground := Ground.guard }], guard := some (4, true) }) rfl (by kernel_rfl) (by kernel_rfl) (by kernel_rfl) (fun _ _ _ h => h) (by rfl) (by assumption) ?_
          try simp only [Act.put, List.setIfInBounds_toArray, List.set_cons_zero, List.set_cons_succ]
          refine take_no (i := 11) (oi := { dst := some 36, op := Op.call { callee := Callee.value (Operand.func 51), args := #[Operand.tmp 35], argTypes := #[41] }, type := 3, pos := "l09_pieces.go:94", after := #[{ on := 10, ground := Ground.data }, { on := 4, ground := Ground.chain }, { on := 4, ground := Ground.guard }], guard := some (4, true) }) rfl (by kernel_rfl) (by kernel_rfl) (by kernel_rfl) (fun _ _ _ h => h) (by rfl) (by assumption) ?_
          try simp only [Act.put, List.setIfInBounds_toArray, List.set_cons_zero, List.set_cons_succ]
          refine take_no (i := 12) (oi := { dst := some 37, op := Op.binOp BinOp.leq 3 (Operand.tmp 34) (Operand.tmp 36) 3, type := 4, pos := "l09_pieces.go:94", after := #[{ on := 9, ground := Ground.data }, { on := 11, ground := Ground.data }, { on := 4, ground := Ground.guard }], guard := some (4, true) }) rfl (by kernel_rfl) (by kernel_rfl) (by kernel_rfl) (fun _ _ _ h => h) (by rfl) (by assumption) ?_
          try simp only [Act.put, List.setIfInBounds_toArray, List.set_cons_zero, List.set_cons_succ]
          refine take_yes (i := 13) (oi := { dst := some 38, op := Op.pick (Operand.tmp 29) (Operand.tmp 37) (Operand.const (Value.bool false)), type := 4, pos := "l09_pieces.go:94", after := #[{ on := 4, ground := Ground.data }, { on := 12, ground := Ground.data }], guard := none }) (v := .bool false) rfl (by kernel_rfl) (by kernel_rfl) (by kernel_rfl) (fun _ _ _ h => h) (by rfl) (fun w hSw => by (try dsimp only at hSw); go_simp) (by assumption) ?_
          try simp only [Act.put, List.setIfInBounds_toArray, List.set_cons_zero, List.set_cons_succ]
          refine wpAnyH_done (by kernel_rfl) ?_ _
          clear hHeld
          have HK := Lib.hid K2.2.2
          clear K2
          have K7 := jd_all HK.out.drew
          clear HK
          go_wp2_with (fail)
          refine wp_region_held_drew (S := fun W => W.cell? ⟨w.heap.size, 0, none⟩ = some (.int .i64 x.pos) ∧ W.cell? ⟨w.heap.size, 1, none⟩ = some (.string x.text) ∧ Jd w W x) (by kernel_rfl) K7 (fun hHeld => ?_)
          refine take_yes (i := 0) (oi := { dst := some 41, op := Op.move (Operand.tmp 0), type := 24, pos := "l09_pieces.go:98", after := #[], guard := none }) (v := .slice oa l.length lc) rfl (by kernel_rfl) (by kernel_rfl) (by kernel_rfl) (fun _ _ _ h => h) (by rfl) (fun w hSw => by (try dsimp only at hSw); go_simp) (by assumption) ?_
          try simp only [Act.put, List.setIfInBounds_toArray, List.set_cons_zero, List.set_cons_succ]
          refine take_yes (i := 1) (oi := { dst := some 42, op := Op.move (Operand.tmp 5), type := 3, pos := "l09_pieces.go:98", after := #[], guard := none }) (v := .int .i64 (A : Int)) rfl (by kernel_rfl) (by kernel_rfl) (by kernel_rfl) (fun _ _ _ h => h) (by rfl) (fun w hSw => by (try dsimp only at hSw); go_simp) (by assumption) ?_
          try simp only [Act.put, List.setIfInBounds_toArray, List.set_cons_zero, List.set_cons_succ]
          refine take_yes (i := 2) (oi := { dst := some 43, op := Op.move (Operand.tmp 5), type := 3, pos := "l09_pieces.go:98", after := #[], guard := none }) (v := .int .i64 (A : Int)) rfl (by kernel_rfl) (by kernel_rfl) (by kernel_rfl) (fun _ _ _ h => h) (by rfl) (fun w hSw => by (try dsimp only at hSw); go_simp) (by assumption) ?_
          try simp only [Act.put, List.setIfInBounds_toArray, List.set_cons_zero, List.set_cons_succ]
          refine take_yes (i := 3) (oi := { dst := some 44, op := Op.slice 24 (Operand.tmp 41) none (some (Operand.tmp 42)) (some (Operand.tmp 43)), type := 24, pos := "l09_pieces.go:98", after := #[{ on := 0, ground := Ground.data }, { on := 1, ground := Ground.data }, { on := 2, ground := Ground.data }], guard := none }) (v := .slice a1 A A) rfl (by kernel_rfl) (by kernel_rfl) (by kernel_rfl) (fun _ _ _ h => h) (by rfl) (fun w hSw => by (try dsimp only at hSw); go_simp) (by assumption) ?_
          try simp only [Act.put, List.setIfInBounds_toArray, List.set_cons_zero, List.set_cons_succ]
          refine take_yes (i := 4) (oi := { dst := some 45, op := Op.load 41 (Operand.tmp 3), type := 41, pos := "l09_pieces.go:98", after := #[], guard := none }) (v := .agg #[.int .i64 x.pos, .string x.text]) rfl (by kernel_rfl) (by kernel_rfl) (by kernel_rfl) (fun _ _ _ h => h) (by rfl) (fun w hSw => by (try dsimp only at hSw); go_simp) (by assumption) ?_
          try simp only [Act.put, List.setIfInBounds_toArray, List.set_cons_zero, List.set_cons_succ]
          refine take_yes (i := 5) (oi := { dst := some 46, op := Op.move (Operand.tmp 0), type := 24, pos := "l09_pieces.go:98", after := #[], guard := none }) (v := .slice oa l.length lc) rfl (by kernel_rfl) (by kernel_rfl) (by kernel_rfl) (fun _ _ _ h => h) (by rfl) (fun w hSw => by (try dsimp only at hSw); go_simp) (by assumption) ?_
          try simp only [Act.put, List.setIfInBounds_toArray, List.set_cons_zero, List.set_cons_succ]
          refine take_yes (i := 6) (oi := { dst := some 47, op := Op.move (Operand.tmp 5), type := 3, pos := "l09_pieces.go:98", after := #[], guard := none }) (v := .int .i64 (A : Int)) rfl (by kernel_rfl) (by kernel_rfl) (by kernel_rfl) (fun _ _ _ h => h) (by rfl) (fun w hSw => by (try dsimp only at hSw); go_simp) (by assumption) ?_
          try simp only [Act.put, List.setIfInBounds_toArray, List.set_cons_zero, List.set_cons_succ]
          refine take_yes (i := 7) (oi := { dst := some 48, op := Op.move (Operand.tmp 6), type := 3, pos := "l09_pieces.go:98", after := #[], guard := none }) (v := .int .i64 (G : Int)) rfl (by kernel_rfl) (by kernel_rfl) (by kernel_rfl) (fun _ _ _ h => h) (by rfl) (fun w hSw => by (try dsimp only at hSw); go_simp) (by assumption) ?_
          try simp only [Act.put, List.setIfInBounds_toArray, List.set_cons_zero, List.set_cons_succ]
          refine take_yes (i := 8) (oi := { dst := some 49, op := Op.move (Operand.tmp 6), type := 3, pos := "l09_pieces.go:98", after := #[], guard := none }) (v := .int .i64 (G : Int)) rfl (by kernel_rfl) (by kernel_rfl) (by kernel_rfl) (fun _ _ _ h => h) (by rfl) (fun w hSw => by (try dsimp only at hSw); go_simp) (by assumption) ?_
          try simp only [Act.put, List.setIfInBounds_toArray, List.set_cons_zero, List.set_cons_succ]
          refine take_yes (i := 9) (oi := { dst := some 50, op := Op.slice 24 (Operand.tmp 46) (some (Operand.tmp 47)) (some (Operand.tmp 48)) (some (Operand.tmp 49)), type := 24, pos := "l09_pieces.go:98", after := #[{ on := 5, ground := Ground.data }, { on := 6, ground := Ground.data }, { on := 7, ground := Ground.data }, { on := 8, ground := Ground.data }], guard := none }) (v := .slice a2 M M) rfl (by kernel_rfl) (by kernel_rfl) (by kernel_rfl) (fun _ _ _ h => h) (by rfl) (fun w hSw => by (try dsimp only at hSw); go_simp) (by assumption) ?_
          try simp only [Act.put, List.setIfInBounds_toArray, List.set_cons_zero, List.set_cons_succ]
          refine wpAnyH_ready (rs := [10]) (by kernel_rfl) (by simp) ?_
          refine AllReadyH.cons (o := { dst := some 51, op := Op.call { callee := Callee.value (Operand.func 66), args := #[Operand.tmp 45, Operand.tmp 50], argTypes := #[41, 24] }, type := 41, pos := "l09_pieces.go:98", after := #[{ on := 4, ground := Ground.data }, { on := 9, ground := Ground.data }], guard := none }) rfl (fun K hK => ?_) AllReadyH.nil
          go_simp
          with_reducible refine (cM _ (HS.out.2.1 _ (hv.below hHeld.2.2.below))).mono ?_
          rintro e w8 ⟨rfl, hb8⟩
          have K8 := jd_all (hHeld.2.2.kept hb8)
          refine hK.out _ _ K8 (fun hHeldN => ?_)
          clear hK K hHeld
          have hHeld := hHeldN
          clear hHeldN
          try simp only [Act.put, List.setIfInBounds_toArray, List.set_cons_zero, List.set_cons_succ]
          refine wpAnyH_ready (rs := [11]) (by kernel_rfl) (by simp) ?_
          refine AllReadyH.cons (o := { dst := some 52, op := Op.buildSlice 24 1 #[(0, Operand.tmp 51)], type := 24, pos := "l09_pieces.go:98", after := #[{ on := 10, ground := Ground.data }], guard := none }) rfl (fun K hK => ?_) AllReadyH.nil
          go_simp
          have K9 := jd_all (hHeld.2.2.kept (below_new w8 (.cells #[.int .i64 J.pos, .string J.text] 41)))
          refine hK.out _ _ K9 (fun hHeldN => ?_)
          clear hK K hHeld
          have hHeld := hHeldN
          clear hHeldN
          try simp only [Act.put, List.setIfInBounds_toArray, List.set_cons_zero, List.set_cons_succ]
          refine wpAnyH_ready (rs := [12]) (by kernel_rfl) (by simp) ?_
          refine AllReadyH.cons (o := { dst := some 53, op := Op.call { callee := Callee.builtin Builtin.append, args := #[Operand.tmp 44, Operand.tmp 52], argTypes := #[24, 24] }, type := 24, pos := "l09_pieces.go:98", after := #[{ on := 3, ground := Ground.data }, { on := 11, ground := Ground.data }, { on := 10, ground := Ground.chain }], guard := none }) rfl (fun K hK => ?_) AllReadyH.nil
          obtain ⟨v9, w9, hrun, hown, hgrow⟩ := eapp_fresh pcK 24 24 uPc (w8.alloc (.cells #[.int .i64 J.pos, .string J.text] 41)) a1 (.slice (some ⟨w8.heap.size, 0, none⟩) 1 1) T [J] (by rw [hTl]; exact (HS.out.1 _ (hv.below hHeld.2.2.below)).rd) (rd_onePc w8 J) (by simp) (by rw [hTl]; simp; omega)
          rw [hTl] at hrun
          obtain ⟨ya, yc, hfe, -⟩ := OwnE.form hown
          rw [show (T ++ [J]).length = A + 1 by simp [hTl]] at hfe
          subst hfe
          refine wp_append_run (.tmp 44) (.tmp 52) 24 24 rfl _ _ rfl rfl hrun ?_
          have K10 := jd_all (hHeld.2.2.grown hgrow (fun k hk => by cases hk))
          have HN := Lib.hid (And.intro (hown.mono (B' := w.heap.size) (by have := K9.2.2.below.size; exact this) (Nat.le_refl _)) K10.2.2)
          clear hown hgrow
          refine hK.out _ _ K10 (fun hHeldN => ?_)
          clear hK K hHeld
          have hHeld := hHeldN
          clear hHeldN
          try simp only [Act.put, List.setIfInBounds_toArray, List.set_cons_zero, List.set_cons_succ]
          refine take_yes (i := 13) (oi := { dst := some 7, op := Op.assign (Operand.tmp 53), type := 24, pos := "l09_pieces.go:98", after := #[{ on := 12, ground := Ground.data }, { on := 12, ground := Ground.chain }, { on := 0, ground := Ground.phase }, { on := 1, ground := Ground.phase }, { on := 2, ground := Ground.phase }, { on := 3, ground := Ground.phase }, { on := 4, ground := Ground.phase }, { on := 5, ground := Ground.phase }, { on := 6, ground := Ground.phase }, { on := 7, ground := Ground.phase }, { on := 8, ground := Ground.phase }, { on := 9, ground := Ground.phase }, { on := 10, ground := Ground.phase }, { on := 11, ground := Ground.phase }, { on := 12, ground := Ground.phase }], guard := none }) (v := .slice ya (A + 1) yc) rfl (by kernel_rfl) (by kernel_rfl) (by kernel_rfl) (fun _ _ _ h => h) (by rfl) (fun w hSw => by (try dsimp only at hSw); go_simp) (by assumption) ?_
          try simp only [Act.put, List.setIfInBounds_toArray, List.set_cons_zero, List.set_cons_succ]
          refine wpAnyH_done (by kernel_rfl) ?_ _
          clear hHeld
          clear K7 K8 K9 K10 hb8 hrun hsl1 hsl2
          have hB9 : w.heap.size ≤ w9.heap.size := HN.out.2.below.size
          have hx9 := (HS.out.2.2 _ (hv.below HN.out.2.below)).rd
          have ho9 := HN.out.1
          have hln : (T ++ [J] ++ D).length = A + (D.length + 1) := by simp only [List.length_append, List.length_cons, List.length_nil]; omega
          go_wp2_with (at_builtin; refine wpList_append_els pcK rfl _ _ 24 24 rfl uPc uPc w.heap.size (.slice ya (A + 1) yc) _ (T ++ [J]) D rfl rfl ho9 hB9 hx9 (by simp; omega) ?_; intro v10 w10 hown hgrow _; have hB10 := HN.out.2.below.grown hgrow HN.out.2.below.size (fun g hg => (OwnE.block ho9 g hg).1); obtain ⟨za, zc, hfe, -⟩ := OwnE.form hown; rw [hln] at hfe; have HF := Lib.hid (And.intro hown hB10); clear hown hgrow hB10 ho9 hx9 hB9; subst hfe)
          go_ret
          refine ⟨_, rfl, ?_, HF.out.2⟩
          have := HF.out.1
          rw [List.append_assoc] at this
          exact this
end Go.Proofs.Ytdajfnonehianaa
