import Derived.Test.YtdajfnonehianaaPxa
namespace Go.Proofs.Ytdajfnonehianaa
open Go.RowKit

theorem wpList_append_lieN {α : Type} (K : EK α) {ops : Array Oper} {rest : List Oper} {o : Oper} {a : Act} {W : World} {Q : Exit → Act → World → Prop} (hgd : o.guard = none) (s y : Operand) (t : TypeId)
    (ho : o.op = .call { callee := .builtin .append, args := #[s, y], argTypes := #[t, t] }) (ht : Try.prog.underlying t = some (.slice K.t)) {lo b : Nat}
    (v x : Value) (xs ys : List α) (hs : a.eval s = v) (hy : a.eval y = x) (hv : LieN K W lo b v xs) (hlo : lo < W.heap.size) (hb : b < W.heap.size) (hx : RdE K W x ys) (h0 : 0 < ys.length) (hl : xs.length + ys.length ≤ 1099511627776)
    (h : ∀ v' W', LieN K W' lo b v' (xs ++ ys) → Below (lo + 1) W W' → W'.heap[b]? = W.heap[b]? → wpList Try.prog ops Q rest (a.put o.dst v') W') : wpList Try.prog ops Q (o :: rest) a W := by
  refine wpList_plain hgd fun K' hK => ?_
  obtain ⟨v', w', hr, h2, h3, h5⟩ := lieN_app t o.type ht x ys hv hlo hb hx h0 hl
  unfold Oper.wp execOp
  simp only [ho, resolve, invoke, builtin, Sem.run_bind, Sem.run_pure, Result.andThen_ok, List.map_toArray, List.map_cons, List.map_nil, hs, hy, hr]
  exact hK _ _ (h v' w' h2 h3 h5)
theorem step_append_lieN {α : Type} (K : EK α) {ops : Array Oper} {o : Oper} {a : Act} {W : World} {K' : Act → World → Prop} {Q : Exit → Act → World → Prop} {E : Prop} (hgd : o.guard = none) (s y : Operand) (t : TypeId)
    (ho : o.op = .call { callee := .builtin .append, args := #[s, y], argTypes := #[t, t] }) (ht : Try.prog.underlying t = some (.slice K.t)) {lo b : Nat}
    (v x : Value) (xs ys : List α) (hs : a.eval s = v) (hy : a.eval y = x) (hv : LieN K W lo b v xs) (hlo : lo < W.heap.size) (hb : b < W.heap.size) (hx : RdE K W x ys) (h0 : 0 < ys.length) (hl : xs.length + ys.length ≤ 1099511627776)
    (h : ∀ v' W', LieN K W' lo b v' (xs ++ ys) → Below (lo + 1) W W' → W'.heap[b]? = W.heap[b]? → K' (a.put o.dst v') W') :
    if Region.wanted o (yielded ops a.tmps) = true then Oper.wp Try.prog o a W K' Q else E := by
  have hw : Region.wanted o (yielded ops a.tmps) = true := by simp [Region.wanted, hgd]
  rw [if_pos hw]
  obtain ⟨v', w', hr, h2, h3, h5⟩ := lieN_app t o.type ht x ys hv hlo hb hx h0 hl
  unfold Oper.wp execOp
  simp only [ho, resolve, invoke, builtin, Sem.run_bind, Sem.run_pure, Result.andThen_ok, List.map_toArray, List.map_cons, List.map_nil, hs, hy, hr]
  exact h v' w' h2 h3 h5
section
variable {w W W' : World} {g b : Nat} {v u u2 : Value} {s s' : St} {x x2 : Int} {t t2 : ByteArray} {ms m2 : List Pc}
/-- Behind an append: the new list is not stored yet. -/
theorem Qp.app (h : Qp w W g v s b x t u ms) (hB : Below (w.heap.size + 1) W W') (hb : W'.heap[b]? = W.heap[b]?) (hl : LieN pcK W' w.heap.size b u2 m2) :
    (W'.cell? ⟨b, 2, none⟩ = some u ∧ W'.frozen? ⟨b, 2, none⟩ = false) ∧ Qp w (W'.setCell ⟨b, 2, none⟩ u2) g v s b x t u2 m2 := by
  obtain ⟨r0, r1, r2, hr⟩ := h.res
  have h1 := h.hb
  have h2 := h.hg
  have hc : Cel W' b 26 #[.int .i64 x, .string t, u] := by
    show W'.heap[b]? = _
    rw [hb]
    exact h.c
  have hr' : Cel W' w.heap.size 26 #[r0, r1, r2] := by
    show W'.heap[w.heap.size]? = _
    rw [hB.block _ (by omega)]
    exact hr
  have hBw : Below w.heap.size W' (W'.setCell ⟨b, 2, none⟩ u2) := (Below.refl _ _).setCell (p := ⟨b, 2, none⟩) (by simp; omega) u2
  have hd' : DrX W' g v s := h.d.below hB (by omega)
  refine ⟨⟨hc.cell 2, hc.frozen 2⟩, ⟨hd'.below hBw h2, (h.gr.thenX (hB.mono (by omega))).thenX hBw, by simpa using hc.set 2 u2, hl.setB 2 _, ⟨r0, r1, r2, hr'.other _ _ (by simp; omega)⟩, h1, h2⟩⟩
end
theorem one_rd (W : World) (z : Int) (y : ByteArray) : RdP (W.alloc (.cells #[.int .i64 z, .string y] 41)) (.slice (some ⟨W.heap.size, 0, none⟩) 1 1) [⟨z, y⟩] :=
  (OwnE.of_cel (K := pcK) (xs := [⟨z, y⟩]) (Cel.new W pcK.t _) (Nat.le_refl _) (Nat.lt_succ_self _) (by unfold maxLen; simp)).rd
theorem long_x (z : Int) (h0 : 0 ≤ z) (h1 : z ≤ 1000000) (w : World) :
    Calls Try.prog 61 #[.int .i64 z, .int .u8 97] w fun e w' => e = .returned (.string ⟨(List.replicate z.toNat (97 : UInt8)).toArray⟩) ∧ Below w.heap.size w w' := by
  have h := spec_long z.toNat 97 w (by omega)
  rwa [Int.toNat_of_nonneg h0] at h
end Go.Proofs.Ytdajfnonehianaa
