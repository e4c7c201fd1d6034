import Derived.Test.YtdajfnonehianaaPsp
import Derived.Test.YtdajfnonehianaaEk3
import Derived.Test.YtdajfnonehianaaDrz
import Derived.Test.YtdajfnonehianaaPcw
namespace Go.Proofs.Ytdajfnonehianaa
open Go.RowKit

/-- A row that lies above block lo, in another block than b. -/
def LieN {α : Type} (K : EK α) (W : World) (lo b : Nat) (u : Value) (xs : List α) : Prop :=
  (∀ (W' : World) (B C : Nat), LieE K W' B C u xs) ∨ ∃ k, LieE K W k (k + 1) u xs ∧ lo < k ∧ k < W.heap.size ∧ k ≠ b
section
variable {α : Type} {K : EK α} {W W' : World} {lo b : Nat} {u : Value} {xs : List α}
theorem LieN.of_lie {B C : Nat} (h : LieE K W B C u xs) (hB : lo < B) (hb : ∀ k, B ≤ k → k < C → k ≠ b) : LieN K W lo b u xs := by
  obtain ⟨a, c, rfl, hc, hn, hx⟩ := h
  by_cases h0 : 0 < c
  · obtain ⟨k, off, h1, h2, ⟨cur, h4, h5⟩, h3⟩ := hx h0
    exact .inr ⟨k, ⟨a, c, rfl, hc, hn, fun _ => ⟨k, off, h1, ⟨Nat.le_refl _, Nat.lt_succ_self _⟩, ⟨cur, h4, h5⟩, h3⟩⟩, by omega, (Array.getElem?_eq_some_iff.1 h4).1, hb k h2.1 h2.2⟩
  · obtain rfl : c = 0 := by omega
    exact .inl fun W' B C => ⟨a, 0, rfl, hc, hn, fun h => absurd h (Nat.lt_irrefl _)⟩
theorem LieN.lie (h : LieN K W lo b u xs) : LieE K W (lo + 1) W.heap.size u xs := by
  rcases h with h | ⟨k, h, h1, h2, -⟩
  · exact h _ _ _
  · exact h.mono (by omega) (by omega)
theorem LieN.rd (h : LieN K W lo b u xs) : RdE K W u xs := h.lie.rd
theorem LieN.form (h : LieN K W lo b u xs) : ∃ a c, u = .slice a xs.length c := by
  obtain ⟨a, c, h, -⟩ := h.lie.form
  exact ⟨a, c, h⟩
theorem LieN.stay (h : LieN K W lo b u xs) (hz : W.heap.size ≤ W'.heap.size) (hk : ∀ k, lo < k → k < W.heap.size → k ≠ b → W'.heap[k]? = W.heap[k]?) : LieN K W' lo b u xs := by
  rcases h with h | ⟨k, h, h1, h2, h3⟩
  · exact .inl h
  · refine .inr ⟨k, h.keepAt fun j hj1 hj2 => ?_, h1, by omega, h3⟩
    obtain rfl : j = k := by omega
    exact hk j h1 h2 h3
theorem LieN.nil : LieN K W lo b (.slice none 0 0) [] := .inl fun _ _ _ => LieE.nil
theorem lieN_app (t ty : TypeId) (ht : Try.prog.underlying t = some (.slice K.t)) (x : Value) (ys : List α) (hv : LieN K W lo b u xs) (hlo : lo < W.heap.size) (hb : b < W.heap.size) (hx : RdE K W x ys) (hy : 0 < ys.length) (hl : xs.length + ys.length ≤ 1099511627776) :
    ∃ v' W', (Builtin.append_ #[t, t] ty #[u, x]).run Try.prog W = .ok v' W' ∧ LieN K W' lo b v' (xs ++ ys) ∧ Below (lo + 1) W W' ∧ W'.heap[b]? = W.heap[b]? := by
  rcases hv with hv | ⟨k, hv, h1, h2, h3⟩
  · obtain ⟨v', W', hr, hl1, hB, hC⟩ := lie_app K t ty ht W u x xs ys (hv W W.heap.size 0) (Nat.le_refl _) hx hy hl
    exact ⟨v', W', hr, LieN.of_lie hl1 hlo (fun j hj _ => by omega), hB.mono (by omega), hB.block b hb⟩
  · obtain ⟨v', W', hr, hl1, hB, hC, hk⟩ := lie_app1 K t ty ht W u x xs ys hv h2 hx hy hl
    refine ⟨v', W', hr, ?_, hB.mono (by omega), hk b hb (fun e => h3 e.symm)⟩
    rcases hC with hC | hC
    · exact .inr ⟨k, hC, h1, by have := hB.size; omega, h3⟩
    · exact LieN.of_lie hC hlo (fun j hj _ => by omega)
end

/-! The drawn pieces as functions of the cursor's state. -/
/-- One round's piece. -/
noncomputable def rndP (s : St) (p : Ps) : Ps × St :=
  (putPiece p ((byteR s % 50 : Nat) : Int) (textT (byteS (byteS s)) (1 + byteR (byteS s) % 12)), (textL (byteS (byteS s)) (1 + byteR (byteS s) % 12)).2)
noncomputable def loopP : Nat → Nat → Ps → St → Ps × St
  | 0, _, p, s => (p, s)
  | n + 1, i, p, s => if i < byteR s % 6 then loopP n (i + 1) (rndP (byteS s) p).1 (rndP (byteS s) p).2 else (p, byteS s)
noncomputable def piecesS (s : St) : Ps × St := loopP 6 0 ⟨((byteR s % 9 : Nat) : Int), ⟨#[]⟩, []⟩ (byteS s)
def SmallP (p : Ps) : Prop := p.ready.size + sumP p.list ≤ 200 ∧ p.list.length ≤ 20
theorem small_put (p : Ps) (a : Int) (t : ByteArray) (h : SmallP p) : SmallP (putPiece p a t) := by
  unfold putPiece
  split
  · rename_i hq
    have h2 := hq.2
    unfold piecesOk heldP at h2
    split at h2
    · rename_i h3
      exact ⟨by omega, by omega⟩
    · cases h2
  · exact h
theorem rnd_ok (s : St) (hs : StOk s) (p : Ps) (h : SmallP p) : SmallP (rndP s p).1 ∧ StOk (rndP s p).2 ∧ (rndP s p).2.bs = s.bs := by
  have h1 := byte_ok hs
  have h2 := byte_ok h1
  refine ⟨small_put p _ _ h, textL_ok h2 _, (textL_bs h2 _).trans ?_⟩
  rw [(byte_f _ h1).2.2.1, (byte_f _ hs).2.2.1]
theorem loop_ok (n : Nat) : ∀ (i : Nat) (p : Ps) (s : St), StOk s → SmallP p → SmallP (loopP n i p s).1 ∧ StOk (loopP n i p s).2 ∧ (loopP n i p s).2.bs = s.bs := by
  induction n with
  | zero => exact fun i p s hs h => ⟨h, hs, rfl⟩
  | succ n ih =>
    intro i p s hs h
    unfold loopP
    have hb := byte_ok hs
    have hbs := (byte_f _ hs).2.2.1
    split
    · obtain ⟨r1, r2, r3⟩ := rnd_ok (byteS s) hb p h
      obtain ⟨i1, i2, i3⟩ := ih (i + 1) _ _ r2 r1
      exact ⟨i1, i2, i3.trans (r3.trans hbs)⟩
    · exact ⟨h, hb, hbs⟩
theorem pieces_ok (s : St) (hs : StOk s) : SmallP (piecesS s).1 ∧ StOk (piecesS s).2 ∧ (piecesS s).2.bs = s.bs := by
  unfold piecesS
  obtain ⟨h1, h2, h3⟩ := loop_ok 6 0 ⟨((byteR s % 9 : Nat) : Int), ⟨#[]⟩, []⟩ (byteS s) (byte_ok hs) ⟨by simp [sumP, ByteArray.size], by simp⟩
  exact ⟨h1, h2, h3.trans (byte_f _ hs).2.2.1⟩

/-! Steps of a draw under way. -/
theorem bel_x (s : St) (hs : StOk s) (k : Nat) (h0 : 0 < k) (hk : k ≤ 256) (i : Int) (hi : (k : Int) = i) (w : World) (g : Nat) (v : Value) (hd : DrX w g v s) :
    Calls Try.prog 38 #[.pointer (some ⟨g, 0, none⟩), .int .i64 i] w fun e w' => e = .returned (.int .i64 ((byteR s % k : Nat) : Int)) ∧ DrX w' g v (byteS s) ∧ Only g w w' := by
  subst hi
  exact (below_f s hs k h0 hk).2.2 w g v hd
theorem txt_x (s : St) (hs : StOk s) (k : Nat) (hk : k ≤ 5000) (i : Int) (hi : (k : Int) = i) (w : World) (g : Nat) (v : Value) (hd : DrX w g v s) :
    Calls Try.prog 39 #[.pointer (some ⟨g, 0, none⟩), .int .i64 i] w fun e w' => e = .returned (.string (textT s k)) ∧ DrX w' g v (textL s k).2 ∧ Grew g w w' := by
  subst hi
  exact (text_f s hs k hk).2.2 w g v hd
theorem Grew.thenX {g : Nat} {w W W' : World} (h : Grew g w W) (k : Below w.heap.size W W') : Grew g w W' :=
  ⟨k.os.trans h.os, k.tape.trans h.tape, k.output.trans h.output, Nat.le_trans h.size k.size, fun i hi hn => (k.block i hi).trans (h.block i hi hn)⟩

/-- A draw of a stream, under way: the cursor in block g in the state s, the stream in block b, its list apart, the result's block. -/
structure Qp (w W : World) (g : Nat) (v : Value) (s : St) (b : Nat) (x : Int) (t : ByteArray) (u : Value) (ms : List Pc) : Prop where
  d : DrX W g v s
  gr : Grew g w W
  c : Cel W b 26 #[.int .i64 x, .string t, u]
  l : LieN pcK W w.heap.size b u ms
  res : ∃ r0 r1 r2, Cel W w.heap.size 26 #[r0, r1, r2]
  hb : w.heap.size < b
  hg : g < w.heap.size
section
variable {w W W' : World} {g b : Nat} {v u u2 : Value} {s s' : St} {x x2 : Int} {t t2 : ByteArray} {ms m2 : List Pc}
theorem Qp.grew (h : Qp w W g v s b x t u ms) (hG : Grew g W W') (hd : DrX W' g v s') : Qp w W' g v s' b x t u ms := by
  obtain ⟨r0, r1, r2, hr⟩ := h.res
  have h1 := h.hb
  have h2 := h.hg
  exact ⟨hd, h.gr.trans hG, h.c.grew hG (by omega), h.l.stay hG.size (fun k hk hk2 _ => hG.block k hk2 (fun e => by injection e with e; omega)), ⟨r0, r1, r2, hr.grew hG (by omega)⟩, h1, h2⟩
theorem Qp.only (h : Qp w W g v s b x t u ms) (ho : Only g W W') (hd : DrX W' g v s') : Qp w W' g v s' b x t u ms := h.grew ho.grew hd
theorem Qp.kept (h : Qp w W g v s b x t u ms) (hb : Below W.heap.size W W') : Qp w W' g v s b x t u ms := h.grew (Grew.of_below hb (Nat.le_refl _)) (h.d.below hb h.d.blk)
theorem Qp.drew (h : Qp w W g v s b x t u ms) : Qp w W.drew g v s b x t u ms := h.kept (Below.refl _ _).drew
theorem Qp.all (h : Qp w W g v s b x t u ms) : W.cell? ⟨b, 0, none⟩ = some (.int .i64 x) ∧ W.cell? ⟨b, 1, none⟩ = some (.string t) ∧ W.cell? ⟨b, 2, none⟩ = some u := cel3' h.c
theorem Qp.fr (h : Qp w W g v s b x t u ms) (i : Nat) : W.frozen? ⟨b, i, none⟩ = false ∧ W.frozen? ⟨w.heap.size, i, none⟩ = false := by
  obtain ⟨r0, r1, r2, hz⟩ := h.res
  exact ⟨h.c.frozen i, hz.frozen i⟩
theorem Qp.rs (h : Qp w W g v s b x t u ms) : ∃ r0 r1 r2, W.cell? ⟨w.heap.size, 0, none⟩ = some r0 ∧ W.cell? ⟨w.heap.size, 1, none⟩ = some r1 ∧ W.cell? ⟨w.heap.size, 2, none⟩ = some r2 := by
  obtain ⟨r0, r1, r2, hz⟩ := h.res
  exact ⟨r0, r1, r2, cel3' hz⟩
theorem Qp.set1 (h : Qp w W g v s b x t u ms) (i : Nat) (a : Value) (hl : LieN pcK W w.heap.size b u2 m2) (hc : Cel (W.setCell ⟨b, i, none⟩ a) b 26 #[.int .i64 x2, .string t2, u2]) : Qp w (W.setCell ⟨b, i, none⟩ a) g v s b x2 t2 u2 m2 := by
  obtain ⟨r0, r1, r2, hr⟩ := h.res
  have h1 := h.hb
  have hB : Below w.heap.size W (W.setCell ⟨b, i, none⟩ a) := (Below.refl _ _).setCell (p := ⟨b, i, none⟩) (by simp; omega) a
  exact ⟨h.d.below hB h.hg, h.gr.thenX hB, hc, hl.stay (by simp) (fun k _ _ hk => Below.heap_setCell _ _ _ _ hk), ⟨r0, r1, r2, hr.other _ _ (by simp; omega)⟩, h1, h.hg⟩
theorem Qp.set0 (h : Qp w W g v s b x t u ms) (z : Int) : Qp w (W.setCell ⟨b, 0, none⟩ (.int .i64 z)) g v s b z t u ms := h.set1 0 _ h.l (by simpa using h.c.set 0 (.int .i64 z))
theorem Qp.setT (h : Qp w W g v s b x t u ms) (z : ByteArray) : Qp w (W.setCell ⟨b, 1, none⟩ (.string z)) g v s b x z u ms := h.set1 1 _ h.l (by simpa using h.c.set 1 (.string z))
theorem Qp.setL (h : Qp w W g v s b x t u ms) (hl : LieN pcK W w.heap.size b u2 m2) : Qp w (W.setCell ⟨b, 2, none⟩ u2) g v s b x t u2 m2 := h.set1 2 _ hl (by simpa using h.c.set 2 u2)
theorem LieN.setB {α : Type} {K : EK α} {xs : List α} {lo : Nat} {uu : Value} (h : LieN K W lo b uu xs) (i : Nat) (a : Value) : LieN K (W.setCell ⟨b, i, none⟩ a) lo b uu xs := h.stay (by simp) (fun k _ _ hk => Below.heap_setCell _ _ _ _ hk)
theorem Qp.put (h : Qp w W g v s b x t u ms) (x2 : Int) (t2 : ByteArray) (hl : LieN pcK W w.heap.size b u2 m2) : Qp w (((W.setCell ⟨b, 0, none⟩ (.int .i64 x2)).setCell ⟨b, 1, none⟩ (.string t2)).setCell ⟨b, 2, none⟩ u2) g v s b x2 t2 u2 m2 :=
  ((h.set0 x2).setT t2).setL ((hl.setB 0 _).setB 1 _)
theorem Qp.give (h : Qp w W g v s b x t u ms) : Cel (((W.setCell ⟨w.heap.size, 0, none⟩ (.int .i64 x)).setCell ⟨w.heap.size, 1, none⟩ (.string t)).setCell ⟨w.heap.size, 2, none⟩ u) w.heap.size 26 #[.int .i64 x, .string t, u] ∧
    LieE pcK (((W.setCell ⟨w.heap.size, 0, none⟩ (.int .i64 x)).setCell ⟨w.heap.size, 1, none⟩ (.string t)).setCell ⟨w.heap.size, 2, none⟩ u) (w.heap.size + 1) (((W.setCell ⟨w.heap.size, 0, none⟩ (.int .i64 x)).setCell ⟨w.heap.size, 1, none⟩ (.string t)).setCell ⟨w.heap.size, 2, none⟩ u).heap.size u ms ∧
    DrX (((W.setCell ⟨w.heap.size, 0, none⟩ (.int .i64 x)).setCell ⟨w.heap.size, 1, none⟩ (.string t)).setCell ⟨w.heap.size, 2, none⟩ u) g v s ∧ Grew g w (((W.setCell ⟨w.heap.size, 0, none⟩ (.int .i64 x)).setCell ⟨w.heap.size, 1, none⟩ (.string t)).setCell ⟨w.heap.size, 2, none⟩ u) := by
  obtain ⟨r0, r1, r2, hz⟩ := h.res
  have hB : Below w.heap.size W (((W.setCell ⟨w.heap.size, 0, none⟩ (.int .i64 x)).setCell ⟨w.heap.size, 1, none⟩ (.string t)).setCell ⟨w.heap.size, 2, none⟩ u) := (((Below.refl _ _).setCell (p := ⟨w.heap.size, 0, none⟩) (Nat.le_refl _) _).setCell (p := ⟨w.heap.size, 1, none⟩) (Nat.le_refl _) _).setCell (p := ⟨w.heap.size, 2, none⟩) (Nat.le_refl _) _
  refine ⟨?_, ?_, h.d.below hB h.hg, h.gr.thenX hB⟩
  · have := ((hz.set 0 (.int .i64 x)).set 1 (.string t)).set 2 u
    simpa using this
  · have hl := h.l.lie
    have hl2 : LieE pcK (((W.setCell ⟨w.heap.size, 0, none⟩ (.int .i64 x)).setCell ⟨w.heap.size, 1, none⟩ (.string t)).setCell ⟨w.heap.size, 2, none⟩ u) (w.heap.size + 1) W.heap.size u ms := hl.keepAt fun k hk _ => by
      have hne : k ≠ w.heap.size := by omega
      rw [Below.heap_setCell _ _ _ _ hne, Below.heap_setCell _ _ _ _ hne, Below.heap_setCell _ _ _ _ hne]
    exact hl2.mono (Nat.le_refl _) (by simp)
end
end Go.Proofs.Ytdajfnonehianaa
