import Derived.Test.YtgfkmnadbcbfkaaTlw
import Derived.Test.YtgfkmnadbcbfkaaTil
namespace Go.Proofs.Ytgfkmnadbcbfkaa
open Go.RowKit

theorem KnO.far {W : World} {B C b i : Nat} {ku tu : Value} {ks : List Int} {ts : List Tv} (h : KnO W B C ku tu ks ts) (hb : b < B ∨ C ≤ b) (v : Value) : KnO (W.setCell ⟨b, i, none⟩ v) B C ku tu ks ts :=
  h.keepAt fun g h1 h2 => esetC_other b i [v] W g (by omega)
/-- What stays while Learn's law goes on: three boxes (the model's answer, the program's argument, its answer), each row in blocks of its own. -/
structure KnQ (W0 W : World) (b6 b7 b8 B0 C0 B1 C1 B2 C2 : Nat) (u1 u2 x1 x2 g1 g2 : Value) (ks : List Int) (os : List Tv) (kx : List Int) (tx : List Tv) (kg : List Int) (tg : List Tv) : Prop where
  b : Below W0.heap.size W0 W
  c6 : Cel W b6 27 #[u1, u2]
  c7 : Cel W b7 27 #[x1, x2]
  c8 : Cel W b8 27 #[g1, g2]
  m : KnO W B0 C0 u1 u2 ks os
  x : KnO W B1 C1 x1 x2 kx tx
  g : KnO W B2 C2 g1 g2 kg tg
  l1 : W0.heap.size ≤ B1
  l2 : B1 ≤ C1
  l3 : C1 ≤ B2
  s0 : C0 ≤ B1
  s1 : C1 ≤ W.heap.size
  s2 : C2 ≤ W.heap.size
  q6 : b6 < B1
  q7 : C1 ≤ b7 ∧ b7 < B2
  q8 : C1 ≤ b8 ∧ (b8 < B2 ∨ C2 ≤ b8)
  l4 : B2 ≤ C2
section
variable {W0 W W' : World} {b6 b7 b8 B0 C0 B1 C1 B2 C2 : Nat} {u1 u2 x1 x2 g1 g2 : Value} {ks kx kg ky : List Int} {os tx tg ty : List Tv}
theorem KnQ.kept (h : KnQ W0 W b6 b7 b8 B0 C0 B1 C1 B2 C2 u1 u2 x1 x2 g1 g2 ks os kx tx kg tg) (hb : Below W.heap.size W W') : KnQ W0 W' b6 b7 b8 B0 C0 B1 C1 B2 C2 u1 u2 x1 x2 g1 g2 ks os kx tx kg tg :=
  ⟨Below.then_ h.b hb, h.c6.kept hb, h.c7.kept hb, h.c8.kept hb, h.m.keep hb (by have := h.s0; have := h.l2; have := h.s1; omega), h.x.keep hb h.s1, h.g.keep hb h.s2, h.l1, h.l2, h.l3, h.s0, Nat.le_trans h.s1 hb.size, Nat.le_trans h.s2 hb.size, h.q6, h.q7, h.q8, h.l4⟩
theorem KnQ.markX (h : KnQ W0 W b6 b7 b8 B0 C0 B1 C1 B2 C2 u1 u2 x1 x2 g1 g2 ks os kx tx kg tg) (hx : KnO W' B1 C1 x1 x2 ky ty) (hb : Below B1 W W') (ho : ∀ i, i < W.heap.size → (i < B1 ∨ C1 ≤ i) → W'.heap[i]? = W.heap[i]?) :
    KnQ W0 W' b6 b7 b8 B0 C0 B1 C1 B2 C2 u1 u2 x1 x2 g1 g2 ks os ky ty kg tg := by
  have e6 := h.c6.lt
  have e7 := h.c7.lt
  have e8 := h.c8.lt
  have q6 := h.q6
  have q7 := h.q7
  have q8 := h.q8
  have l3 := h.l3
  have s2 := h.s2
  exact ⟨h.b.trans (hb.mono h.l1), (ho b6 e6 (.inl q6)).trans h.c6, (ho b7 e7 (.inr q7.1)).trans h.c7, (ho b8 e8 (.inr q8.1)).trans h.c8, h.m.keep hb h.s0, hx, h.g.keepAt fun g h1 h2 => ho g (by omega) (.inr (by omega)), h.l1, h.l2, h.l3, h.s0, Nat.le_trans h.s1 hb.size, Nat.le_trans h.s2 hb.size, q6, q7, q8, h.l4⟩
theorem KnQ.markG (h : KnQ W0 W b6 b7 b8 B0 C0 B1 C1 B2 C2 u1 u2 x1 x2 g1 g2 ks os kx tx kg tg) (hg : KnO W' B2 C2 g1 g2 ky ty) (hb : Below B2 W W') (ho : ∀ i, i < W.heap.size → (i < B2 ∨ C2 ≤ i) → W'.heap[i]? = W.heap[i]?) :
    KnQ W0 W' b6 b7 b8 B0 C0 B1 C1 B2 C2 u1 u2 x1 x2 g1 g2 ks os kx tx ky ty := by
  have e6 := h.c6.lt
  have e7 := h.c7.lt
  have e8 := h.c8.lt
  have q6 := h.q6
  have q7 := h.q7
  have q8 := h.q8
  have l1 := h.l1
  have l2 := h.l2
  have l3 := h.l3
  have s0 := h.s0
  exact ⟨h.b.trans (hb.mono (by omega)), (ho b6 e6 (.inl (by omega))).trans h.c6, (ho b7 e7 (.inl q7.2)).trans h.c7, (ho b8 e8 q8.2).trans h.c8, h.m.keep hb (by omega), h.x.keep hb l3, hg, h.l1, h.l2, h.l3, h.s0, Nat.le_trans h.s1 hb.size, Nat.le_trans h.s2 hb.size, q6, q7, q8, h.l4⟩
end

/-- While a region makes a Known and puts it into a box: what has come so far. -/
structure RgS (Wd W : World) (a1 a2 : Value) (ks : List Int) (ts : List Tv) (ha : Bool) (gb : Nat) (hx : Bool) (r1 r2 : Value) (os : List Tv) (p q : Nat) (hr : Bool) : Prop where
  s : Below Wd.heap.size Wd W
  A : ha = true → KnR W a1 a2 ks ts
  X : hx = true → Cel W gb 27 #[.slice none 0 0, .slice none 0 0] ∧ Wd.heap.size ≤ gb
  R : hr = true → KnO W p q r1 r2 ks os ∧ Wd.heap.size ≤ p ∧ p ≤ q ∧ q ≤ W.heap.size ∧ (hx = true → gb < p ∨ q ≤ gb)
section
variable {Wd W W' : World} {a1 a2 r1 r2 : Value} {ks : List Int} {ts os : List Tv} {ha hx hr : Bool} {gb p q : Nat}
theorem rg_kept (h : RgS Wd W a1 a2 ks ts ha gb hx r1 r2 os p q hr) (hb : Below W.heap.size W W') : RgS Wd W' a1 a2 ks ts ha gb hx r1 r2 os p q hr :=
  ⟨Below.then_ h.s hb, fun e => (h.A e).below hb, fun e => ⟨(h.X e).1.kept hb, (h.X e).2⟩, fun e => by
    obtain ⟨e1, e2, e3, e4, e5⟩ := h.R e
    exact ⟨e1.keep hb e4, e2, e3, Nat.le_trans e4 hb.size, e5⟩⟩
theorem rg_A {b1 b2 : Value} (h : RgS Wd W a1 a2 ks ts ha gb hx r1 r2 os p q hr) (hb : Below W.heap.size W W') (hk : KnR W' b1 b2 ks ts) : RgS Wd W' b1 b2 ks ts true gb hx r1 r2 os p q hr :=
  ⟨(rg_kept h hb).s, fun _ => hk, (rg_kept h hb).X, (rg_kept h hb).R⟩
theorem rg_X (h : RgS Wd W a1 a2 ks ts ha gb false r1 r2 os p q hr) : RgS Wd (W.alloc (.cells #[.slice none 0 0, .slice none 0 0] 27)) a1 a2 ks ts ha W.heap.size true r1 r2 os p q hr :=
  ⟨(rg_kept h (below_new _ _)).s, (rg_kept h (below_new _ _)).A, fun _ => ⟨Cel.new _ _ _, h.s.size⟩, fun e => by
    obtain ⟨e1, e2, e3, e4, -⟩ := (rg_kept h (below_new W (.cells #[.slice none 0 0, .slice none 0 0] 27))).R e
    exact ⟨e1, e2, e3, e4, fun _ => .inr (h.R e).2.2.2.1⟩⟩
theorem rg_R {s1 s2 : Value} (h : RgS Wd W a1 a2 ks ts ha gb hx r1 r2 os p q false) (hb : Below W.heap.size W W') (hk : KnO W' W.heap.size W'.heap.size s1 s2 ks os) : RgS Wd W' a1 a2 ks ts ha gb hx s1 s2 os W.heap.size W'.heap.size true :=
  ⟨(rg_kept h hb).s, (rg_kept h hb).A, (rg_kept h hb).X, fun _ => ⟨hk, h.s.size, hb.size, Nat.le_refl _, fun e => .inl (h.X e).1.lt⟩⟩
theorem rg_put (h : RgS Wd W a1 a2 ks ts ha gb true r1 r2 os p q true) :
    Below Wd.heap.size Wd ((W.setCell ⟨gb, 0, none⟩ r1).setCell ⟨gb, 1, none⟩ r2) ∧ Cel ((W.setCell ⟨gb, 0, none⟩ r1).setCell ⟨gb, 1, none⟩ r2) gb 27 #[r1, r2] ∧ KnO ((W.setCell ⟨gb, 0, none⟩ r1).setCell ⟨gb, 1, none⟩ r2) p q r1 r2 ks os ∧
      Wd.heap.size ≤ p ∧ p ≤ q ∧ q ≤ ((W.setCell ⟨gb, 0, none⟩ r1).setCell ⟨gb, 1, none⟩ r2).heap.size ∧ Wd.heap.size ≤ gb ∧ (gb < p ∨ q ≤ gb) := by
  have hz : ((W.setCell ⟨gb, 0, none⟩ r1).setCell ⟨gb, 1, none⟩ r2).heap.size = W.heap.size := esetC_size gb 0 [r1, r2] W
  obtain ⟨x1, x2⟩ := h.X rfl
  obtain ⟨e1, e2, e3, e4, e5⟩ := h.R rfl
  rw [hz]
  exact ⟨h.s.trans (esetC_below gb _ x2 0 [r1, r2] W), (x1.set 0 r1).set 1 r2, (e1.far (e5 rfl) _).far (e5 rfl) _, e2, e3, e4, x2, e5 rfl⟩
end

set_option linter.unusedSimpArgs false in
set_option maxRecDepth 100000 in
set_option maxHeartbeats 16000000 in
theorem learn_law (ku tu : Value) (ks : List Int) (ts : List Tv) (t : Tv) (w : World) (h : KnR w ku tu ks ts) (hkn : ks.length ≤ 9223372036854775807) (htn : ts.length ≤ 9223372036854775807) (hkw : KnW ks ts) (htw : TvW t) :
    Calls Try.prog 8 #[.agg #[ku, tu], .agg #[.int .i64 t.kind, .int .i64 t.one, .int .i64 t.two, .int .i64 t.a, .int .i64 t.b]] w fun e w' => e = .returned (.bool true) ∧ Below w.heap.size w w' := by
  obtain ⟨ka, kc, rfl⟩ := h.k.form
  obtain ⟨ta, tc, rfl⟩ := h.t.form
  have hA0 := (Cel.new w 41 #[.slice ka ks.length kc, .slice ta ts.length tc]).alloc (.cells #[.int .i64 t.kind, .int .i64 t.one, .int .i64 t.two, .int .i64 t.a, .int .i64 t.b] 42)
  have hZ0 := Cel.new (w.alloc (.cells #[.slice ka ks.length kc, .slice ta ts.length tc] 41)) 42 #[.int .i64 t.kind, .int .i64 t.one, .int .i64 t.two, .int .i64 t.a, .int .i64 t.b]
  have hB0 : Below w.heap.size w ((w.alloc (.cells #[.slice ka ks.length kc, .slice ta ts.length tc] 41)).alloc (.cells #[.int .i64 t.kind, .int .i64 t.one, .int .i64 t.two, .int .i64 t.a, .int .i64 t.b] 42)) := ((Below.refl _ _).alloc (Nat.le_refl _) _).alloc (by simp) _
  simp only [World.size_alloc] at hZ0
  obtain ⟨W0, hW0⟩ : ∃ W0, ((w.alloc (.cells #[.slice ka ks.length kc, .slice ta ts.length tc] 41)).alloc (.cells #[.int .i64 t.kind, .int .i64 t.one, .int .i64 t.two, .int .i64 t.a, .int .i64 t.b] 42)) = W0 := ⟨_, rfl⟩
  rw [hW0] at hA0 hZ0 hB0
  obtain ⟨h1, hh1⟩ : ∃ h1, w.heap.size + 1 = h1 := ⟨_, rfl⟩
  rw [hh1] at hZ0
  have HD := Lib.hid (show ∀ W, Below W0.heap.size W0 W → (Below w.heap.size w W ∧ KnR W (.slice ka ks.length kc) (.slice ta ts.length tc) ks ts ∧ (W.cell? ⟨w.heap.size, 0, none⟩ = some (.slice ka ks.length kc) ∧ W.cell? ⟨w.heap.size, 1, none⟩ = some (.slice ta ts.length tc)) ∧ (W.cell? ⟨h1, 0, none⟩ = some (.int .i64 t.kind) ∧ W.cell? ⟨h1, 1, none⟩ = some (.int .i64 t.one) ∧ W.cell? ⟨h1, 2, none⟩ = some (.int .i64 t.two) ∧ W.cell? ⟨h1, 3, none⟩ = some (.int .i64 t.a) ∧ W.cell? ⟨h1, 4, none⟩ = some (.int .i64 t.b))) from fun W hW => ⟨Below.then_ hB0 hW, h.below (Below.then_ hB0 hW), cel2k (hA0.kept hW), cel5tv (hZ0.kept hW)⟩)
  have HW := Lib.hid (And.intro hW0 hh1)
  have cZ := fun W h => sz_known (.slice ka ks.length kc) (.slice ta ts.length tc) ks ts W h hkn htn
  clear hA0 hZ0 hB0 hW0 hh1 h
  obtain ⟨-, hr0, ⟨c0, c1⟩, -⟩ := HD.out W0 (Below.refl _ _)
  have HR0 := Lib.hid hr0
  clear hr0
  go_enter Try.func8, Try.ntmps8
  go_upto_region 1 with (fail)
  rw [HW.out.1, HW.out.2]
  clear HW
  go_wp2_with (fail)
  with_reducible refine (cZ W0 HR0.out).mono ?_
  rintro e w1 ⟨r9, rfl, hr, hr2, b1⟩
  clear c0 c1 HR0 cZ
  by_cases q : r9 < 0
  · have HB := Lib.hid (HD.out _ b1).1
    clear hr b1
    go_wp2_with (fail)
    go_ret
    exact ⟨rfl, HB.out⟩
  · have hl := hr (by omega)
    have HB1 := Lib.hid (show Below W0.heap.size W0 w1.drew from b1.drew)
    have cK := fun W h => to_known (.slice ka ks.length kc) (.slice ta ts.length tc) ks ts W h hl
    have cM := fun W => to_tag t W
    have cS := fun u1 u2 W (h : KnR W u1 u2 ks ts) => spec_learn u1 u2 ks ts t W h (by omega) (by omega)
    have cI := fun u1 u2 W (h : KnR W u1 u2 ks ts) => impl_learn u1 u2 ks ts t W h (by omega) (by omega) hkw htw
    have hol := learn_len ks ts t
    generalize learnTs ks ts t = os at *
    have cE := fun u1 u2 u3 u4 W (h : KnR W u1 u2 ks os) (h' : KnR W u3 u4 ks os) => eq_known u1 u2 u3 u4 ks os W h h' (by omega) (by omega)
    have cX := fun u1 u2 u3 u4 W (h : KnR W u1 u2 ks ts) (h' : KnR W u3 u4 ks ts) => eq_known u1 u2 u3 u4 ks ts W h h' (by omega) (by omega)
    have q1 : ¬ ((1 + ks.length + ts.length * 5 : Nat) : Int) < 0 := by omega
    have q2 : ¬ ((1 + ks.length + os.length * 5 : Nat) : Int) < 0 := by omega
    have cmx := fun u1 u2 W B C (h : KnO W B C u1 u2 ks ts) hB hC => mark_known u1 u2 ks ts W B C h hB hC (by omega) (by omega)
    have cmg := fun u1 u2 W B C (h : KnO W B C u1 u2 ks os) hB hC => mark_known u1 u2 ks os W B C h hB hC (by omega) (by omega)
    have ch := fun u1 u2 W (h : KnR W u1 u2 (marks 1 ks.length) (markT (1 + ks.length) os.length)) => held_known u1 u2 ks.length os.length W h (by omega) (by omega)
    generalize ((1 + ks.length + ts.length * 5 : Nat) : Int) = n1 at *
    generalize ((1 + ks.length + os.length * 5 : Nat) : Int) = n2 at *
    have HLN := Lib.hid (show ks.length ≤ 1048576 ∧ ts.length ≤ 1048577 ∧ os.length ≤ 1048577 from ⟨by omega, by omega, by omega⟩)
    have HZ := Lib.hid (show ∀ W, Below w1.drew.heap.size w1.drew W → Below W0.heap.size W0 W ∧ True from fun W h => ⟨Below.then_ HB1.out h, trivial⟩)
    clear hr hr2 b1 hl hol hkn htn HB1
    go_wp2_with (fail)
    rename_i QQ KK hKK
    have REST5 : ∀ (b6 B0 C0 : Nat) (a1 a2 p1 p2 : Option Addr) (e1 e2 d1 d2 : Nat) (W : World), Below W0.heap.size W0 W ∧ Cel W b6 27 #[.slice p1 ks.length d1, .slice p2 os.length d2] ∧ KnO W B0 C0 (.slice p1 ks.length d1) (.slice p2 os.length d2) ks os ∧ C0 ≤ W.heap.size → KK { tmps := #[.agg #[.slice ka ks.length kc, .slice ta ts.length tc], .agg #[.int .i64 t.kind, .int .i64 t.one, .int .i64 t.two, .int .i64 t.a, .int .i64 t.b], .pointer (some ⟨w.heap.size, 0, none⟩), .pointer (some ⟨h1, 0, none⟩), .bool false, .int .i64 r9, .pointer (some ⟨b6, 0, none⟩), undef, undef, undef, undef, undef, undef, .agg #[.slice ka ks.length kc, .slice ta ts.length tc], .int .i64 1048576, .int .i64 r9, .int .i64 r9, .bool (decide (r9 < 0)), .agg #[.slice ka ks.length kc, .slice ta ts.length tc], .agg #[.slice a1 ks.length e1, .slice a2 ts.length e2], .agg #[.int .i64 t.kind, .int .i64 t.one, .int .i64 t.two, .int .i64 t.a, .int .i64 t.b], .agg #[.int .i64 t.kind, .int .i64 t.one, .int .i64 t.two, .int .i64 t.a, .int .i64 t.b], .agg #[.slice p1 ks.length d1, .slice p2 os.length d2], undef, undef, undef, undef, undef, undef, undef, undef, undef, undef, undef, undef, undef, undef, undef, undef, undef, undef, undef, undef, undef, undef, undef, undef, undef, undef, undef, undef, undef, undef, undef, undef, undef, undef, undef, undef, undef, undef, undef, undef, undef, undef, undef, undef, undef, undef, undef, undef, undef, undef, undef, undef, undef, undef], defers := [] } W := by
      clear HZ
      intro b6 B0 C0 a1 a2 p1 p2 e1 e2 d1 d2 W h5
      refine hKK _ _ ?_
      have HX0 := Lib.hid h5
      obtain ⟨-, hr3, ⟨c0, c1⟩, -⟩ := HD.out W h5.1
      have HR3 := Lib.hid hr3
      clear h5 hr3
      go_wp2_with (fail)
      with_reducible refine (cK _ HR3.out).mono ?_
      rintro e w5 ⟨x1, z1, x2, z2, rfl, o5, b5⟩
      have hn5 := below_new w5 (.cells #[.slice x1 ks.length z1, .slice x2 ts.length z2] 27)
      have HF7 := Lib.hid (show Below W0.heap.size W0 (w5.alloc (.cells #[.slice x1 ks.length z1, .slice x2 ts.length z2] 27)).drew ∧ Cel (w5.alloc (.cells #[.slice x1 ks.length z1, .slice x2 ts.length z2] 27)).drew b6 27 #[.slice p1 ks.length d1, .slice p2 os.length d2] ∧ KnO (w5.alloc (.cells #[.slice x1 ks.length z1, .slice x2 ts.length z2] 27)).drew B0 C0 (.slice p1 ks.length d1) (.slice p2 os.length d2) ks os ∧ C0 ≤ W.heap.size ∧ Cel (w5.alloc (.cells #[.slice x1 ks.length z1, .slice x2 ts.length z2] 27)).drew w5.heap.size 27 #[.slice x1 ks.length z1, .slice x2 ts.length z2] ∧ KnO (w5.alloc (.cells #[.slice x1 ks.length z1, .slice x2 ts.length z2] 27)).drew W.heap.size w5.heap.size (.slice x1 ks.length z1) (.slice x2 ts.length z2) ks ts ∧ b6 < W.heap.size ∧ W0.heap.size ≤ W.heap.size ∧ W.heap.size ≤ w5.heap.size ∧ w5.heap.size < (w5.alloc (.cells #[.slice x1 ks.length z1, .slice x2 ts.length z2] 27)).drew.heap.size from
        ⟨(Below.then_ (Below.then_ HX0.out.1 b5) hn5).drew, (HX0.out.2.1.kept b5).kept hn5.drew, (HX0.out.2.2.1.keep b5 HX0.out.2.2.2).keep hn5.drew (Nat.le_trans HX0.out.2.2.2 b5.size), HX0.out.2.2.2, (Cel.new _ _ _).drew, o5.keep hn5.drew (Nat.le_refl _), HX0.out.2.1.lt, HX0.out.1.size, b5.size, by show _ < (World.alloc _ _).heap.size; simp⟩)
      clear HX0 HR3 c0 c1 o5 b5 hn5
      go_wp2_with (fail)
      generalize w5.alloc (.cells #[.slice x1 ks.length z1, .slice x2 ts.length z2] 27) = w7 at *
      generalize W.heap.size = B1 at *
      generalize w5.heap.size = C1 at *
      have HZ := Lib.hid (show ∀ W, Below w7.drew.heap.size w7.drew W → Below W0.heap.size W0 W ∧ Cel W C1 27 #[.slice x1 ks.length z1, .slice x2 ts.length z2] ∧ KnR W (.slice x1 ks.length z1) (.slice x2 ts.length z2) ks ts from fun W h => ⟨Below.then_ HF7.out.1 h, HF7.out.2.2.2.2.1.kept h, HF7.out.2.2.2.2.2.1.rd.below h⟩)
      rename_i QQ7 KK7 hKK7
      have REST7 : ∀ (b8 B2 C2 : Nat) (p3 p4 : Option Addr) (d3 d4 : Nat) (w9 : World), KnQ W0 w9 b6 C1 b8 B0 C0 B1 C1 B2 C2 (.slice p1 ks.length d1) (.slice p2 os.length d2) (.slice x1 ks.length z1) (.slice x2 ts.length z2) (.slice p3 ks.length d3) (.slice p4 os.length d4) ks os ks ts ks os → KK7 { tmps := #[.agg #[.slice ka ks.length kc, .slice ta ts.length tc], .agg #[.int .i64 t.kind, .int .i64 t.one, .int .i64 t.two, .int .i64 t.a, .int .i64 t.b], .pointer (some ⟨w.heap.size, 0, none⟩), .pointer (some ⟨h1, 0, none⟩), .bool false, .int .i64 r9, .pointer (some ⟨b6, 0, none⟩), .pointer (some ⟨C1, 0, none⟩), .pointer (some ⟨b8, 0, none⟩), undef, undef, undef, undef, .agg #[.slice ka ks.length kc, .slice ta ts.length tc], .int .i64 1048576, .int .i64 r9, .int .i64 r9, .bool (decide (r9 < 0)), .agg #[.slice ka ks.length kc, .slice ta ts.length tc], .agg #[.slice a1 ks.length e1, .slice a2 ts.length e2], .agg #[.int .i64 t.kind, .int .i64 t.one, .int .i64 t.two, .int .i64 t.a, .int .i64 t.b], .agg #[.int .i64 t.kind, .int .i64 t.one, .int .i64 t.two, .int .i64 t.a, .int .i64 t.b], .agg #[.slice p1 ks.length d1, .slice p2 os.length d2], .agg #[.slice ka ks.length kc, .slice ta ts.length tc], .agg #[.slice x1 ks.length z1, .slice x2 ts.length z2], .agg #[.slice x1 ks.length z1, .slice x2 ts.length z2], .agg #[.int .i64 t.kind, .int .i64 t.one, .int .i64 t.two, .int .i64 t.a, .int .i64 t.b], .agg #[.int .i64 t.kind, .int .i64 t.one, .int .i64 t.two, .int .i64 t.a, .int .i64 t.b], .agg #[.slice p3 ks.length d3, .slice p4 os.length d4], undef, undef, undef, undef, undef, undef, undef, undef, undef, undef, undef, undef, undef, undef, undef, undef, undef, undef, undef, undef, undef, undef, undef, undef, undef, undef, undef, undef, undef, undef, undef, undef, undef, undef, undef, undef, undef, undef, undef, undef, undef, undef, undef, undef, undef, undef, undef, undef], defers := [] } w9 := by
        clear HZ HF7
        intro b8 B2 C2 p3 p4 d3 d4 w9 hQ
        refine hKK7 _ _ ?_
        have HQ := Lib.hid hQ
        clear hQ
        obtain ⟨k6, k7⟩ := cel2k HQ.out.c6
        obtain ⟨k8, k9⟩ := cel2k HQ.out.c8
        go_wp2_with (fail)
        with_reducible refine (cE _ _ _ _ _ HQ.out.g.rd HQ.out.m.rd).mono ?_
        rintro e w10 ⟨rfl, b10⟩
        have HQ1 := Lib.hid (HQ.out.kept b10)
        clear HQ b10 k6 k7 k8 k9
        go_wp2_with (fail)
        have HZ := Lib.hid (show ∀ W, Below w10.drew.heap.size w10.drew W → KnQ W0 W b6 C1 b8 B0 C0 B1 C1 B2 C2 (.slice p1 ks.length d1) (.slice p2 os.length d2) (.slice x1 ks.length z1) (.slice x2 ts.length z2) (.slice p3 ks.length d3) (.slice p4 os.length d4) ks os ks ts ks os from fun W h => HQ1.out.kept (Below.then_ (show Below w10.heap.size w10 w10.drew from (Below.refl _ _).drew) h))
        clear HQ1
        refine wp_region_held_drew (S := fun W => Below w10.drew.heap.size w10.drew W) (by kernel_rfl) (Below.refl _ _) (fun hHeld => ?_)
        generalize w10.drew = wd at *
        refine take_yes (i := 0) (oi := { dst := some 33, op := Op.load 27 (Operand.tmp 7), type := 27, pos := "exact.go:4293", after := #[], guard := none }) (v := .agg #[.slice x1 ks.length z1, .slice x2 ts.length z2]) rfl (by kernel_rfl) (by kernel_rfl) (by kernel_rfl) (fun _ _ _ h => h) (by rfl) (fun w hSw => by (try dsimp only at hSw); obtain ⟨k0, k1⟩ := cel2k (HZ.out _ hSw).c7; go_simp) (by assumption) ?_
        try simp only [Act.put, List.setIfInBounds_toArray, List.set_cons_zero, List.set_cons_succ]
        refine take_yes (i := 1) (oi := { dst := some 34, op := Op.load 41 (Operand.tmp 2), type := 41, pos := "exact.go:4293", after := #[], guard := none }) (v := .agg #[.slice ka ks.length kc, .slice ta ts.length tc]) rfl (by kernel_rfl) (by kernel_rfl) (by kernel_rfl) (fun _ _ _ h => h) (by rfl) (fun w hSw => by (try dsimp only at hSw); obtain ⟨-, -, ⟨c0, c1⟩, -⟩ := HD.out _ (HZ.out _ hSw).b; go_simp) (by assumption) ?_
        try simp only [Act.put, List.setIfInBounds_toArray, List.set_cons_zero, List.set_cons_succ]
        refine wpAnyH_ready (rs := [2]) (by kernel_rfl) (by simp) ?_
        refine AllReadyH.cons (o := { dst := some 35, op := Op.call { callee := Callee.value (Operand.func 25), args := #[Operand.tmp 34], argTypes := #[41] }, type := 27, pos := "exact.go:4293", after := #[{ on := 1, ground := Ground.data }], guard := none }) rfl (fun K hK => ?_) AllReadyH.nil
        go_simp
        with_reducible refine (cK _ (HD.out _ (HZ.out _ hHeld).b).2.1).mono ?_
        rintro e wF ⟨a3, e3, a4, e4, rfl, oF, bF⟩
        have KF := Below.then_ hHeld bF
        refine hK.out _ _ KF (fun hHeldN => ?_)
        clear hK K hHeld
        have hHeld := hHeldN
        clear hHeldN
        try simp only [Act.put, List.setIfInBounds_toArray, List.set_cons_zero, List.set_cons_succ]
        refine wpAnyH_ready (rs := [3]) (by kernel_rfl) (by simp) ?_
        refine AllReadyH.cons (o := { dst := some 36, op := Op.call { callee := Callee.value (Operand.func 27), args := #[Operand.tmp 33, Operand.tmp 35], argTypes := #[27, 27] }, type := 4, pos := "exact.go:4293", after := #[{ on := 0, ground := Ground.data }, { on := 2, ground := Ground.data }, { on := 2, ground := Ground.chain }], guard := none }) rfl (fun K hK => ?_) AllReadyH.nil
        go_simp
        with_reducible refine (cX _ _ _ _ _ (HZ.out _ hHeld).x.rd oF.rd).mono ?_
        rintro e wG ⟨rfl, bG⟩
        have KG := Below.then_ hHeld bG
        refine hK.out _ _ KG (fun hHeldN => ?_)
        clear hK K hHeld
        have hHeld := hHeldN
        clear hHeldN
        try simp only [Act.put, List.setIfInBounds_toArray, List.set_cons_zero, List.set_cons_succ]
        refine take_yes (i := 4) (oi := { dst := some 37, op := Op.unOp UnOp.not 4 (Operand.tmp 36), type := 4, pos := "exact.go:4293", after := #[{ on := 3, ground := Ground.data }], guard := none }) (v := .bool false) rfl (by kernel_rfl) (by kernel_rfl) (by kernel_rfl) (fun _ _ _ h => h) (by rfl) (fun w hSw => by (try dsimp only at hSw); go_simp) (by assumption) ?_
        try simp only [Act.put, List.setIfInBounds_toArray, List.set_cons_zero, List.set_cons_succ]
        refine wpAnyH_done (by kernel_rfl) ?_ _
        have hHeld2 := hHeld
        clear hHeld
        have HQ2 := Lib.hid (HZ.out _ hHeld2)
        clear hHeld2 KF KG oF bF bG HZ
        generalize wG = w12 at *
        obtain ⟨k6, k7⟩ := cel2k HQ2.out.c7
        go_wp2_with (fail)
        with_reducible refine (cmx _ _ _ _ _ HQ2.out.x (Nat.le_trans HQ2.out.l2 HQ2.out.s1) HQ2.out.s1).mono ?_
        rintro e w13 ⟨rfl, o13, b13, r13⟩
        have HQ3 := Lib.hid (HQ2.out.markX o13 b13 r13)
        clear HQ2 o13 b13 r13 k6 k7
        obtain ⟨k6, k7⟩ := cel2k HQ3.out.c6
        obtain ⟨k8, k9⟩ := cel2k HQ3.out.c8
        go_wp2_with (fail)
        with_reducible refine (cE _ _ _ _ _ HQ3.out.g.rd HQ3.out.m.rd).mono ?_
        rintro e w14 ⟨rfl, b14⟩
        have HQ4 := Lib.hid (HQ3.out.kept b14)
        clear HQ3 b14 k6 k7 k8 k9
        obtain ⟨k8, k9⟩ := cel2k HQ4.out.c8
        go_wp2_with (fail)
        with_reducible refine (cmg _ _ _ _ _ HQ4.out.g (Nat.le_trans HQ4.out.l4 HQ4.out.s2) HQ4.out.s2).mono ?_
        rintro e w15 ⟨rfl, o15, b15, r15⟩
        have HQ5 := Lib.hid (HQ4.out.markG o15 b15 r15)
        clear HQ4 o15 b15 r15 k8 k9
        obtain ⟨k8, k9⟩ := cel2k HQ5.out.c8
        go_wp2_with (fail)
        with_reducible refine (ch _ _ _ HQ5.out.g.rd).mono ?_
        rintro e w16 ⟨rfl, b16⟩
        have HQ6 := Lib.hid (HQ5.out.kept b16)
        clear HQ5 b16 k8 k9
        have HZ := Lib.hid (show ∀ W, Below w16.drew.heap.size w16.drew W → Below W0.heap.size W0 W ∧ KnQ W0 W b6 C1 b8 B0 C0 B1 C1 B2 C2 (.slice p1 ks.length d1) (.slice p2 os.length d2) (.slice x1 ks.length z1) (.slice x2 ts.length z2) (.slice p3 ks.length d3) (.slice p4 os.length d4) ks os (marks 1 ks.length) (markT (1 + ks.length) ts.length) (marks 1 ks.length) (markT (1 + ks.length) os.length) from fun W h => have hq := HQ6.out.kept (Below.then_ (show Below w16.heap.size w16 w16.drew from (Below.refl _ _).drew) h); ⟨hq.b, hq⟩)
        clear HQ6
        go_wp2_with (fail)
        have HN : Hid (RgS w16.drew w16.drew (.slice none 0 0) (.slice none 0 0) ks ts false 0 false (.slice none 0 0) (.slice none 0 0) os 0 0 false) := Lib.hid ⟨Below.refl _ _, fun h => (by cases h), fun h => (by cases h), fun h => (by cases h)⟩
        have hS5 := HN.out.s
        refine wp_region_held_drew (S := fun W => Below w16.drew.heap.size w16.drew W) (by kernel_rfl) hS5 (fun hHeld => ?_)
        clear hS5
        generalize w16.drew = wd at *
        refine take_yes (i := 0) (oi := { dst := some 60, op := Op.load 41 (Operand.tmp 2), type := 41, pos := "exact.go:4311", after := #[], guard := none }) (v := .agg #[.slice ka ks.length kc, .slice ta ts.length tc]) rfl (by kernel_rfl) (by kernel_rfl) (by kernel_rfl) (fun _ _ _ h => h) (by rfl) (fun w hSw => by (try dsimp only at hSw); obtain ⟨-, -, ⟨c0, c1⟩, -⟩ := HD.out _ (HZ.out _ hSw).1; go_simp) (by assumption) ?_
        try simp only [Act.put, List.setIfInBounds_toArray, List.set_cons_zero, List.set_cons_succ]
        refine take_yes (i := 2) (oi := { dst := some 62, op := Op.load 42 (Operand.tmp 3), type := 42, pos := "exact.go:4311", after := #[], guard := none }) (v := .agg #[.int .i64 t.kind, .int .i64 t.one, .int .i64 t.two, .int .i64 t.a, .int .i64 t.b]) rfl (by kernel_rfl) (by kernel_rfl) (by kernel_rfl) (fun _ _ _ h => h) (by rfl) (fun w hSw => by (try dsimp only at hSw); obtain ⟨-, -, -, ⟨t0, t1, t2, t3, t4⟩⟩ := HD.out _ (HZ.out _ hSw).1; go_simp) (by assumption) ?_
        try simp only [Act.put, List.setIfInBounds_toArray, List.set_cons_zero, List.set_cons_succ]
        refine wpAnyH_ready (rs := [1, 5]) (by kernel_rfl) (by simp) ?_
        refine AllReadyH.cons (o := { dst := some 61, op := Op.call { callee := Callee.value (Operand.func 25), args := #[Operand.tmp 60], argTypes := #[41] }, type := 27, pos := "exact.go:4311", after := #[{ on := 0, ground := Ground.data }], guard := none }) rfl (fun K hK => ?_) ?_
        · go_simp
          with_reducible refine (cK _ (HD.out _ (HZ.out _ hHeld).1).2.1).mono ?_
          rintro e wA2 ⟨a5, e5, a6, e6, rfl, oA, bA⟩
          have HN3 := Lib.hid (rg_A HN.out bA oA.rd)
          have KK1 := HN3.out.s
          clear oA bA HN
          refine hK.out _ _ KK1 (fun hHeldN => ?_)
          clear hK K hHeld
          have hHeld := hHeldN
          clear hHeldN
          try simp only [Act.put, List.setIfInBounds_toArray, List.set_cons_zero, List.set_cons_succ]
          refine wpAnyH_ready (rs := [3, 5]) (by kernel_rfl) (by simp) ?_
          refine AllReadyH.cons (o := { dst := some 63, op := Op.call { callee := Callee.value (Operand.func 26), args := #[Operand.tmp 62], argTypes := #[42] }, type := 29, pos := "exact.go:4311", after := #[{ on := 2, ground := Ground.data }, { on := 1, ground := Ground.chain }], guard := none }) rfl (fun K hK => ?_) ?_
          · go_simp
            with_reducible refine (cM _).mono ?_
            rintro e wB5 ⟨rfl, bB⟩
            have HN6 := Lib.hid (rg_kept HN3.out bB)
            have KK4 := HN6.out.s
            clear bB HN3
            refine hK.out _ _ KK4 (fun hHeldN => ?_)
            clear hK K hHeld
            have hHeld := hHeldN
            clear hHeldN
            try simp only [Act.put, List.setIfInBounds_toArray, List.set_cons_zero, List.set_cons_succ]
            refine wpAnyH_ready (rs := [4, 5]) (by kernel_rfl) (by simp) ?_
            refine AllReadyH.cons (o := { dst := some 64, op := Op.call { callee := Callee.value (Operand.func 11), args := #[Operand.tmp 61, Operand.tmp 63], argTypes := #[27, 29] }, type := 27, pos := "exact.go:4311", after := #[{ on := 1, ground := Ground.data }, { on := 3, ground := Ground.data }, { on := 3, ground := Ground.chain }], guard := none }) rfl (fun K hK => ?_) ?_
            · go_simp
              with_reducible refine (cI _ _ _ (HN6.out.A rfl)).mono ?_
              rintro e wC8 ⟨p5, d5, p6, d6, rfl, oR, bC⟩
              have HN9 := Lib.hid (rg_R HN6.out bC oR)
              have KK7 := HN9.out.s
              clear oR bC HN6
              refine hK.out _ _ KK7 (fun hHeldN => ?_)
              clear hK K hHeld
              have hHeld := hHeldN
              clear hHeldN
              try simp only [Act.put, List.setIfInBounds_toArray, List.set_cons_zero, List.set_cons_succ]
              refine wpAnyH_ready (rs := [5]) (by kernel_rfl) (by simp) ?_
              refine AllReadyH.cons (o := { dst := some 12, op := Op.alloc 27, type := 0, pos := "exact.go:4311", after := #[], guard := none }) rfl (fun K hK => ?_) AllReadyH.nil
              go_simp
              have HN12 := Lib.hid (rg_X HN9.out)
              clear HN9
              generalize wC8.alloc (.cells #[.slice none 0 0, .slice none 0 0] 27) = wD11 at *
              have KK10 := HN12.out.s
              refine hK.out _ _ KK10 (fun hHeldN => ?_)
              clear hK K hHeld
              have hHeld := hHeldN
              clear hHeldN
              try simp only [Act.put, List.setIfInBounds_toArray, List.set_cons_zero, List.set_cons_succ]
              refine wpAnyH_ready (rs := [6]) (by kernel_rfl) (by simp) ?_
              refine AllReadyH.cons (o := { dst := none, op := Op.store 27 (Operand.tmp 12) (Operand.tmp 64), type := 0, pos := "exact.go:4311", after := #[{ on := 5, ground := Ground.data }, { on := 4, ground := Ground.data }, { on := 4, ground := Ground.chain }, { on := 0, ground := Ground.phase }, { on := 1, ground := Ground.phase }, { on := 2, ground := Ground.phase }, { on := 3, ground := Ground.phase }, { on := 4, ground := Ground.phase }, { on := 5, ground := Ground.phase }], guard := none }) rfl (fun K hK => ?_) AllReadyH.nil
              have hx := HN12.out.X rfl
              obtain ⟨x0, x1'⟩ := cel2k hx.1
              have f0 := hx.1.frozen 0
              have f1 := hx.1.frozen 1
              go_simp
              have HP := Lib.hid (rg_put HN12.out)
              clear x0 x1' f0 f1 hx HN12
              generalize ((wD11.setCell ⟨wC8.heap.size, 0, none⟩ (.slice p5 ks.length d5)).setCell ⟨wC8.heap.size, 1, none⟩ (.slice p6 os.length d6)) = w9x at *
              have KK9 := HP.out.1
              refine hK.out _ _ KK9 (fun hHeldN => ?_)
              clear hK K hHeld
              have hHeld := hHeldN
              clear hHeldN
              try simp only [Act.put, List.setIfInBounds_toArray, List.set_cons_zero, List.set_cons_succ]
              refine wpAnyH_done (by kernel_rfl) ?_ _
              have hHeld2 := hHeld
              clear hHeld
              have HQ7 := Lib.hid (HZ.out _ HP.out.1).2
              have HH7 := Lib.hid (And.intro HP.out.2.1 HP.out.2.2.1.rd)
              clear HP KK9 hHeld2 HZ
              generalize wC8.heap.size = b12 at *
              obtain ⟨k6, k7⟩ := cel2k HQ7.out.c6
              obtain ⟨k8, k9⟩ := cel2k HH7.out.1
              go_wp2_with (fail)
              with_reducible refine (cE _ _ _ _ _ HH7.out.2 HQ7.out.m.rd).mono ?_
              rintro e w18 ⟨rfl, b18⟩
              have HQ8 := Lib.hid (HQ7.out.kept b18)
              clear HQ7 HH7 b18 k6 k7 k8 k9
              obtain ⟨k8, k9⟩ := cel2k HQ8.out.c8
              go_wp2_with (fail)
              with_reducible refine (ch _ _ _ HQ8.out.g.rd).mono ?_
              rintro e w19 ⟨rfl, b19⟩
              have HQ9 := Lib.hid (HD.out _ (HQ8.out.kept b19).b).1
              clear HQ8 b19 k8 k9
              go_wp2_with (fail)
              go_ret
              exact ⟨rfl, HQ9.out⟩
            refine AllReadyH.cons (o := { dst := some 12, op := Op.alloc 27, type := 0, pos := "exact.go:4311", after := #[], guard := none }) rfl (fun K hK => ?_) AllReadyH.nil
            go_simp
            have HN15 := Lib.hid (rg_X HN6.out)
            clear HN6
            generalize wB5.alloc (.cells #[.slice none 0 0, .slice none 0 0] 27) = wD14 at *
            have KK13 := HN15.out.s
            refine hK.out _ _ KK13 (fun hHeldN => ?_)
            clear hK K hHeld
            have hHeld := hHeldN
            clear hHeldN
            try simp only [Act.put, List.setIfInBounds_toArray, List.set_cons_zero, List.set_cons_succ]
            refine wpAnyH_ready (rs := [4]) (by kernel_rfl) (by simp) ?_
            refine AllReadyH.cons (o := { dst := some 64, op := Op.call { callee := Callee.value (Operand.func 11), args := #[Operand.tmp 61, Operand.tmp 63], argTypes := #[27, 29] }, type := 27, pos := "exact.go:4311", after := #[{ on := 1, ground := Ground.data }, { on := 3, ground := Ground.data }, { on := 3, ground := Ground.chain }], guard := none }) rfl (fun K hK => ?_) AllReadyH.nil
            go_simp
            with_reducible refine (cI _ _ _ (HN15.out.A rfl)).mono ?_
            rintro e wC17 ⟨p5, d5, p6, d6, rfl, oR, bC⟩
            have HN18 := Lib.hid (rg_R HN15.out bC oR)
            have KK16 := HN18.out.s
            clear oR bC HN15
            refine hK.out _ _ KK16 (fun hHeldN => ?_)
            clear hK K hHeld
            have hHeld := hHeldN
            clear hHeldN
            try simp only [Act.put, List.setIfInBounds_toArray, List.set_cons_zero, List.set_cons_succ]
            refine wpAnyH_ready (rs := [6]) (by kernel_rfl) (by simp) ?_
            refine AllReadyH.cons (o := { dst := none, op := Op.store 27 (Operand.tmp 12) (Operand.tmp 64), type := 0, pos := "exact.go:4311", after := #[{ on := 5, ground := Ground.data }, { on := 4, ground := Ground.data }, { on := 4, ground := Ground.chain }, { on := 0, ground := Ground.phase }, { on := 1, ground := Ground.phase }, { on := 2, ground := Ground.phase }, { on := 3, ground := Ground.phase }, { on := 4, ground := Ground.phase }, { on := 5, ground := Ground.phase }], guard := none }) rfl (fun K hK => ?_) AllReadyH.nil
            have hx := HN18.out.X rfl
            obtain ⟨x0, x1'⟩ := cel2k hx.1
            have f0 := hx.1.frozen 0
            have f1 := hx.1.frozen 1
            go_simp
            have HP := Lib.hid (rg_put HN18.out)
            clear x0 x1' f0 f1 hx HN18
            generalize ((wC17.setCell ⟨wB5.heap.size, 0, none⟩ (.slice p5 ks.length d5)).setCell ⟨wB5.heap.size, 1, none⟩ (.slice p6 os.length d6)) = w9x at *
            have KK9 := HP.out.1
            refine hK.out _ _ KK9 (fun hHeldN => ?_)
            clear hK K hHeld
            have hHeld := hHeldN
            clear hHeldN
            try simp only [Act.put, List.setIfInBounds_toArray, List.set_cons_zero, List.set_cons_succ]
            refine wpAnyH_done (by kernel_rfl) ?_ _
            have hHeld2 := hHeld
            clear hHeld
            have HQ7 := Lib.hid (HZ.out _ HP.out.1).2
            have HH7 := Lib.hid (And.intro HP.out.2.1 HP.out.2.2.1.rd)
            clear HP KK9 hHeld2 HZ
            generalize wB5.heap.size = b12 at *
            obtain ⟨k6, k7⟩ := cel2k HQ7.out.c6
            obtain ⟨k8, k9⟩ := cel2k HH7.out.1
            go_wp2_with (fail)
            with_reducible refine (cE _ _ _ _ _ HH7.out.2 HQ7.out.m.rd).mono ?_
            rintro e w18 ⟨rfl, b18⟩
            have HQ8 := Lib.hid (HQ7.out.kept b18)
            clear HQ7 HH7 b18 k6 k7 k8 k9
            obtain ⟨k8, k9⟩ := cel2k HQ8.out.c8
            go_wp2_with (fail)
            with_reducible refine (ch _ _ _ HQ8.out.g.rd).mono ?_
            rintro e w19 ⟨rfl, b19⟩
            have HQ9 := Lib.hid (HD.out _ (HQ8.out.kept b19).b).1
            clear HQ8 b19 k8 k9
            go_wp2_with (fail)
            go_ret
            exact ⟨rfl, HQ9.out⟩
          refine AllReadyH.cons (o := { dst := some 12, op := Op.alloc 27, type := 0, pos := "exact.go:4311", after := #[], guard := none }) rfl (fun K hK => ?_) AllReadyH.nil
          go_simp
          have HN21 := Lib.hid (rg_X HN3.out)
          clear HN3
          generalize wA2.alloc (.cells #[.slice none 0 0, .slice none 0 0] 27) = wD20 at *
          have KK19 := HN21.out.s
          refine hK.out _ _ KK19 (fun hHeldN => ?_)
          clear hK K hHeld
          have hHeld := hHeldN
          clear hHeldN
          try simp only [Act.put, List.setIfInBounds_toArray, List.set_cons_zero, List.set_cons_succ]
          refine wpAnyH_ready (rs := [3]) (by kernel_rfl) (by simp) ?_
          refine AllReadyH.cons (o := { dst := some 63, op := Op.call { callee := Callee.value (Operand.func 26), args := #[Operand.tmp 62], argTypes := #[42] }, type := 29, pos := "exact.go:4311", after := #[{ on := 2, ground := Ground.data }, { on := 1, ground := Ground.chain }], guard := none }) rfl (fun K hK => ?_) AllReadyH.nil
          go_simp
          with_reducible refine (cM _).mono ?_
          rintro e wB23 ⟨rfl, bB⟩
          have HN24 := Lib.hid (rg_kept HN21.out bB)
          have KK22 := HN24.out.s
          clear bB HN21
          refine hK.out _ _ KK22 (fun hHeldN => ?_)
          clear hK K hHeld
          have hHeld := hHeldN
          clear hHeldN
          try simp only [Act.put, List.setIfInBounds_toArray, List.set_cons_zero, List.set_cons_succ]
          refine wpAnyH_ready (rs := [4]) (by kernel_rfl) (by simp) ?_
          refine AllReadyH.cons (o := { dst := some 64, op := Op.call { callee := Callee.value (Operand.func 11), args := #[Operand.tmp 61, Operand.tmp 63], argTypes := #[27, 29] }, type := 27, pos := "exact.go:4311", after := #[{ on := 1, ground := Ground.data }, { on := 3, ground := Ground.data }, { on := 3, ground := Ground.chain }], guard := none }) rfl (fun K hK => ?_) AllReadyH.nil
          go_simp
          with_reducible refine (cI _ _ _ (HN24.out.A rfl)).mono ?_
          rintro e wC26 ⟨p5, d5, p6, d6, rfl, oR, bC⟩
          have HN27 := Lib.hid (rg_R HN24.out bC oR)
          have KK25 := HN27.out.s
          clear oR bC HN24
          refine hK.out _ _ KK25 (fun hHeldN => ?_)
          clear hK K hHeld
          have hHeld := hHeldN
          clear hHeldN
          try simp only [Act.put, List.setIfInBounds_toArray, List.set_cons_zero, List.set_cons_succ]
          refine wpAnyH_ready (rs := [6]) (by kernel_rfl) (by simp) ?_
          refine AllReadyH.cons (o := { dst := none, op := Op.store 27 (Operand.tmp 12) (Operand.tmp 64), type := 0, pos := "exact.go:4311", after := #[{ on := 5, ground := Ground.data }, { on := 4, ground := Ground.data }, { on := 4, ground := Ground.chain }, { on := 0, ground := Ground.phase }, { on := 1, ground := Ground.phase }, { on := 2, ground := Ground.phase }, { on := 3, ground := Ground.phase }, { on := 4, ground := Ground.phase }, { on := 5, ground := Ground.phase }], guard := none }) rfl (fun K hK => ?_) AllReadyH.nil
          have hx := HN27.out.X rfl
          obtain ⟨x0, x1'⟩ := cel2k hx.1
          have f0 := hx.1.frozen 0
          have f1 := hx.1.frozen 1
          go_simp
          have HP := Lib.hid (rg_put HN27.out)
          clear x0 x1' f0 f1 hx HN27
          generalize ((wC26.setCell ⟨wA2.heap.size, 0, none⟩ (.slice p5 ks.length d5)).setCell ⟨wA2.heap.size, 1, none⟩ (.slice p6 os.length d6)) = w9x at *
          have KK9 := HP.out.1
          refine hK.out _ _ KK9 (fun hHeldN => ?_)
          clear hK K hHeld
          have hHeld := hHeldN
          clear hHeldN
          try simp only [Act.put, List.setIfInBounds_toArray, List.set_cons_zero, List.set_cons_succ]
          refine wpAnyH_done (by kernel_rfl) ?_ _
          have hHeld2 := hHeld
          clear hHeld
          have HQ7 := Lib.hid (HZ.out _ HP.out.1).2
          have HH7 := Lib.hid (And.intro HP.out.2.1 HP.out.2.2.1.rd)
          clear HP KK9 hHeld2 HZ
          generalize wA2.heap.size = b12 at *
          obtain ⟨k6, k7⟩ := cel2k HQ7.out.c6
          obtain ⟨k8, k9⟩ := cel2k HH7.out.1
          go_wp2_with (fail)
          with_reducible refine (cE _ _ _ _ _ HH7.out.2 HQ7.out.m.rd).mono ?_
          rintro e w18 ⟨rfl, b18⟩
          have HQ8 := Lib.hid (HQ7.out.kept b18)
          clear HQ7 HH7 b18 k6 k7 k8 k9
          obtain ⟨k8, k9⟩ := cel2k HQ8.out.c8
          go_wp2_with (fail)
          with_reducible refine (ch _ _ _ HQ8.out.g.rd).mono ?_
          rintro e w19 ⟨rfl, b19⟩
          have HQ9 := Lib.hid (HD.out _ (HQ8.out.kept b19).b).1
          clear HQ8 b19 k8 k9
          go_wp2_with (fail)
          go_ret
          exact ⟨rfl, HQ9.out⟩
        refine AllReadyH.cons (o := { dst := some 12, op := Op.alloc 27, type := 0, pos := "exact.go:4311", after := #[], guard := none }) rfl (fun K hK => ?_) AllReadyH.nil
        go_simp
        have HN30 := Lib.hid (rg_X HN.out)
        clear HN
        generalize wd.alloc (.cells #[.slice none 0 0, .slice none 0 0] 27) = wD29 at *
        have KK28 := HN30.out.s
        refine hK.out _ _ KK28 (fun hHeldN => ?_)
        clear hK K hHeld
        have hHeld := hHeldN
        clear hHeldN
        try simp only [Act.put, List.setIfInBounds_toArray, List.set_cons_zero, List.set_cons_succ]
        refine wpAnyH_ready (rs := [1]) (by kernel_rfl) (by simp) ?_
        refine AllReadyH.cons (o := { dst := some 61, op := Op.call { callee := Callee.value (Operand.func 25), args := #[Operand.tmp 60], argTypes := #[41] }, type := 27, pos := "exact.go:4311", after := #[{ on := 0, ground := Ground.data }], guard := none }) rfl (fun K hK => ?_) AllReadyH.nil
        go_simp
        with_reducible refine (cK _ (HD.out _ (HZ.out _ hHeld).1).2.1).mono ?_
        rintro e wA32 ⟨a5, e5, a6, e6, rfl, oA, bA⟩
        have HN33 := Lib.hid (rg_A HN30.out bA oA.rd)
        have KK31 := HN33.out.s
        clear oA bA HN30
        refine hK.out _ _ KK31 (fun hHeldN => ?_)
        clear hK K hHeld
        have hHeld := hHeldN
        clear hHeldN
        try simp only [Act.put, List.setIfInBounds_toArray, List.set_cons_zero, List.set_cons_succ]
        refine wpAnyH_ready (rs := [3]) (by kernel_rfl) (by simp) ?_
        refine AllReadyH.cons (o := { dst := some 63, op := Op.call { callee := Callee.value (Operand.func 26), args := #[Operand.tmp 62], argTypes := #[42] }, type := 29, pos := "exact.go:4311", after := #[{ on := 2, ground := Ground.data }, { on := 1, ground := Ground.chain }], guard := none }) rfl (fun K hK => ?_) AllReadyH.nil
        go_simp
        with_reducible refine (cM _).mono ?_
        rintro e wB35 ⟨rfl, bB⟩
        have HN36 := Lib.hid (rg_kept HN33.out bB)
        have KK34 := HN36.out.s
        clear bB HN33
        refine hK.out _ _ KK34 (fun hHeldN => ?_)
        clear hK K hHeld
        have hHeld := hHeldN
        clear hHeldN
        try simp only [Act.put, List.setIfInBounds_toArray, List.set_cons_zero, List.set_cons_succ]
        refine wpAnyH_ready (rs := [4]) (by kernel_rfl) (by simp) ?_
        refine AllReadyH.cons (o := { dst := some 64, op := Op.call { callee := Callee.value (Operand.func 11), args := #[Operand.tmp 61, Operand.tmp 63], argTypes := #[27, 29] }, type := 27, pos := "exact.go:4311", after := #[{ on := 1, ground := Ground.data }, { on := 3, ground := Ground.data }, { on := 3, ground := Ground.chain }], guard := none }) rfl (fun K hK => ?_) AllReadyH.nil
        go_simp
        with_reducible refine (cI _ _ _ (HN36.out.A rfl)).mono ?_
        rintro e wC38 ⟨p5, d5, p6, d6, rfl, oR, bC⟩
        have HN39 := Lib.hid (rg_R HN36.out bC oR)
        have KK37 := HN39.out.s
        clear oR bC HN36
        refine hK.out _ _ KK37 (fun hHeldN => ?_)
        clear hK K hHeld
        have hHeld := hHeldN
        clear hHeldN
        try simp only [Act.put, List.setIfInBounds_toArray, List.set_cons_zero, List.set_cons_succ]
        refine wpAnyH_ready (rs := [6]) (by kernel_rfl) (by simp) ?_
        refine AllReadyH.cons (o := { dst := none, op := Op.store 27 (Operand.tmp 12) (Operand.tmp 64), type := 0, pos := "exact.go:4311", after := #[{ on := 5, ground := Ground.data }, { on := 4, ground := Ground.data }, { on := 4, ground := Ground.chain }, { on := 0, ground := Ground.phase }, { on := 1, ground := Ground.phase }, { on := 2, ground := Ground.phase }, { on := 3, ground := Ground.phase }, { on := 4, ground := Ground.phase }, { on := 5, ground := Ground.phase }], guard := none }) rfl (fun K hK => ?_) AllReadyH.nil
        have hx := HN39.out.X rfl
        obtain ⟨x0, x1'⟩ := cel2k hx.1
        have f0 := hx.1.frozen 0
        have f1 := hx.1.frozen 1
        go_simp
        have HP := Lib.hid (rg_put HN39.out)
        clear x0 x1' f0 f1 hx HN39
        generalize ((wC38.setCell ⟨wd.heap.size, 0, none⟩ (.slice p5 ks.length d5)).setCell ⟨wd.heap.size, 1, none⟩ (.slice p6 os.length d6)) = w9x at *
        have KK9 := HP.out.1
        refine hK.out _ _ KK9 (fun hHeldN => ?_)
        clear hK K hHeld
        have hHeld := hHeldN
        clear hHeldN
        try simp only [Act.put, List.setIfInBounds_toArray, List.set_cons_zero, List.set_cons_succ]
        refine wpAnyH_done (by kernel_rfl) ?_ _
        have hHeld2 := hHeld
        clear hHeld
        have HQ7 := Lib.hid (HZ.out _ HP.out.1).2
        have HH7 := Lib.hid (And.intro HP.out.2.1 HP.out.2.2.1.rd)
        clear HP KK9 hHeld2 HZ
        generalize wd.heap.size = b12 at *
        obtain ⟨k6, k7⟩ := cel2k HQ7.out.c6
        obtain ⟨k8, k9⟩ := cel2k HH7.out.1
        go_wp2_with (fail)
        with_reducible refine (cE _ _ _ _ _ HH7.out.2 HQ7.out.m.rd).mono ?_
        rintro e w18 ⟨rfl, b18⟩
        have HQ8 := Lib.hid (HQ7.out.kept b18)
        clear HQ7 HH7 b18 k6 k7 k8 k9
        obtain ⟨k8, k9⟩ := cel2k HQ8.out.c8
        go_wp2_with (fail)
        with_reducible refine (ch _ _ _ HQ8.out.g.rd).mono ?_
        rintro e w19 ⟨rfl, b19⟩
        have HQ9 := Lib.hid (HD.out _ (HQ8.out.kept b19).b).1
        clear HQ8 b19 k8 k9
        go_wp2_with (fail)
        go_ret
        exact ⟨rfl, HQ9.out⟩
      have HN : Hid (RgS w7.drew w7.drew (.slice none 0 0) (.slice none 0 0) ks ts false 0 false (.slice none 0 0) (.slice none 0 0) os 0 0 false) := Lib.hid ⟨Below.refl _ _, fun h => (by cases h), fun h => (by cases h), fun h => (by cases h)⟩
      have hS5 := HN.out.s
      refine wp_region_held_drew (S := fun W => Below w7.drew.heap.size w7.drew W) (by kernel_rfl) hS5 (fun hHeld => ?_)
      clear hS5
      generalize w7.drew = wd at *
      refine take_yes (i := 0) (oi := { dst := some 25, op := Op.load 27 (Operand.tmp 7), type := 27, pos := "exact.go:4289", after := #[], guard := none }) (v := .agg #[.slice x1 ks.length z1, .slice x2 ts.length z2]) rfl (by kernel_rfl) (by kernel_rfl) (by kernel_rfl) (fun _ _ _ h => h) (by rfl) (fun w hSw => by (try dsimp only at hSw); obtain ⟨k0, k1⟩ := cel2k (HZ.out _ hSw).2.1; go_simp) (by assumption) ?_
      try simp only [Act.put, List.setIfInBounds_toArray, List.set_cons_zero, List.set_cons_succ]
      refine take_yes (i := 1) (oi := { dst := some 26, op := Op.load 42 (Operand.tmp 3), type := 42, pos := "exact.go:4289", after := #[], guard := none }) (v := .agg #[.int .i64 t.kind, .int .i64 t.one, .int .i64 t.two, .int .i64 t.a, .int .i64 t.b]) rfl (by kernel_rfl) (by kernel_rfl) (by kernel_rfl) (fun _ _ _ h => h) (by rfl) (fun w hSw => by (try dsimp only at hSw); obtain ⟨-, -, -, ⟨t0, t1, t2, t3, t4⟩⟩ := HD.out _ (HZ.out _ hSw).1; go_simp) (by assumption) ?_
      try simp only [Act.put, List.setIfInBounds_toArray, List.set_cons_zero, List.set_cons_succ]
      refine wpAnyH_ready (rs := [2, 4]) (by kernel_rfl) (by simp) ?_
      refine AllReadyH.cons (o := { dst := some 27, op := Op.call { callee := Callee.value (Operand.func 26), args := #[Operand.tmp 26], argTypes := #[42] }, type := 29, pos := "exact.go:4289", after := #[{ on := 1, ground := Ground.data }], guard := none }) rfl (fun K hK => ?_) ?_
      · go_simp
        with_reducible refine (cM _).mono ?_
        rintro e wB41 ⟨rfl, bB⟩
        have HN42 := Lib.hid (rg_kept HN.out bB)
        have KK40 := HN42.out.s
        clear bB HN
        refine hK.out _ _ KK40 (fun hHeldN => ?_)
        clear hK K hHeld
        have hHeld := hHeldN
        clear hHeldN
        try simp only [Act.put, List.setIfInBounds_toArray, List.set_cons_zero, List.set_cons_succ]
        refine wpAnyH_ready (rs := [3, 4]) (by kernel_rfl) (by simp) ?_
        refine AllReadyH.cons (o := { dst := some 28, op := Op.call { callee := Callee.value (Operand.func 11), args := #[Operand.tmp 25, Operand.tmp 27], argTypes := #[27, 29] }, type := 27, pos := "exact.go:4289", after := #[{ on := 0, ground := Ground.data }, { on := 2, ground := Ground.data }, { on := 2, ground := Ground.chain }], guard := none }) rfl (fun K hK => ?_) ?_
        · go_simp
          with_reducible refine (cI _ _ _ (HZ.out _ hHeld).2.2).mono ?_
          rintro e wC44 ⟨p3, d3, p4, d4, rfl, oR, bC⟩
          have HN45 := Lib.hid (rg_R HN42.out bC oR)
          have KK43 := HN45.out.s
          clear oR bC HN42
          refine hK.out _ _ KK43 (fun hHeldN => ?_)
          clear hK K hHeld
          have hHeld := hHeldN
          clear hHeldN
          try simp only [Act.put, List.setIfInBounds_toArray, List.set_cons_zero, List.set_cons_succ]
          refine wpAnyH_ready (rs := [4]) (by kernel_rfl) (by simp) ?_
          refine AllReadyH.cons (o := { dst := some 8, op := Op.alloc 27, type := 0, pos := "exact.go:4289", after := #[], guard := none }) rfl (fun K hK => ?_) AllReadyH.nil
          go_simp
          have HN48 := Lib.hid (rg_X HN45.out)
          clear HN45
          generalize wC44.alloc (.cells #[.slice none 0 0, .slice none 0 0] 27) = wD47 at *
          have KK46 := HN48.out.s
          refine hK.out _ _ KK46 (fun hHeldN => ?_)
          clear hK K hHeld
          have hHeld := hHeldN
          clear hHeldN
          try simp only [Act.put, List.setIfInBounds_toArray, List.set_cons_zero, List.set_cons_succ]
          refine wpAnyH_ready (rs := [5]) (by kernel_rfl) (by simp) ?_
          refine AllReadyH.cons (o := { dst := none, op := Op.store 27 (Operand.tmp 8) (Operand.tmp 28), type := 0, pos := "exact.go:4289", after := #[{ on := 4, ground := Ground.data }, { on := 3, ground := Ground.data }, { on := 3, ground := Ground.chain }, { on := 0, ground := Ground.phase }, { on := 1, ground := Ground.phase }, { on := 2, ground := Ground.phase }, { on := 3, ground := Ground.phase }, { on := 4, ground := Ground.phase }], guard := none }) rfl (fun K hK => ?_) AllReadyH.nil
          have hx := HN48.out.X rfl
          obtain ⟨x0, x1'⟩ := cel2k hx.1
          have f0 := hx.1.frozen 0
          have f1 := hx.1.frozen 1
          go_simp
          have HP := Lib.hid (rg_put HN48.out)
          clear x0 x1' f0 f1 hx HN48
          generalize ((wD47.setCell ⟨wC44.heap.size, 0, none⟩ (.slice p3 ks.length d3)).setCell ⟨wC44.heap.size, 1, none⟩ (.slice p4 os.length d4)) = w9 at *
          have KK9 := HP.out.1
          refine hK.out _ _ KK9 (fun hHeldN => ?_)
          clear hK K hHeld
          have hHeld := hHeldN
          clear hHeldN
          try simp only [Act.put, List.setIfInBounds_toArray, List.set_cons_zero, List.set_cons_succ]
          refine wpAnyH_done (by kernel_rfl) ?_ _
          have hHeld2 := hHeld
          clear hHeld
          obtain ⟨B2, C2, hQ⟩ : ∃ B2 C2, KnQ W0 w9 b6 C1 (wC44.heap.size) B0 C0 B1 C1 B2 C2 (.slice p1 ks.length d1) (.slice p2 os.length d2) (.slice x1 ks.length z1) (.slice x2 ts.length z2) (.slice p3 ks.length d3) (.slice p4 os.length d4) ks os ks ts ks os := by
            obtain ⟨f1, f2, f3, f4, f5, f6, f7, f8, f9, f10⟩ := HF7.out
            obtain ⟨m0, m1, m2, m3, m4, m5, m6, m7⟩ := HP.out
            exact ⟨_, _, Below.then_ f1 m0, f2.kept m0, f5.kept m0, m1, f3.keep m0 (by omega), f6.keep m0 (by omega), m2, f8, f9, by omega, f4, by have := m0.size; omega, m5, f7, ⟨Nat.le_refl _, by omega⟩, ⟨by omega, m7⟩, m4⟩
          exact REST7 _ _ _ _ _ _ _ _ hQ
        refine AllReadyH.cons (o := { dst := some 8, op := Op.alloc 27, type := 0, pos := "exact.go:4289", after := #[], guard := none }) rfl (fun K hK => ?_) AllReadyH.nil
        go_simp
        have HN51 := Lib.hid (rg_X HN42.out)
        clear HN42
        generalize wB41.alloc (.cells #[.slice none 0 0, .slice none 0 0] 27) = wD50 at *
        have KK49 := HN51.out.s
        refine hK.out _ _ KK49 (fun hHeldN => ?_)
        clear hK K hHeld
        have hHeld := hHeldN
        clear hHeldN
        try simp only [Act.put, List.setIfInBounds_toArray, List.set_cons_zero, List.set_cons_succ]
        refine wpAnyH_ready (rs := [3]) (by kernel_rfl) (by simp) ?_
        refine AllReadyH.cons (o := { dst := some 28, op := Op.call { callee := Callee.value (Operand.func 11), args := #[Operand.tmp 25, Operand.tmp 27], argTypes := #[27, 29] }, type := 27, pos := "exact.go:4289", after := #[{ on := 0, ground := Ground.data }, { on := 2, ground := Ground.data }, { on := 2, ground := Ground.chain }], guard := none }) rfl (fun K hK => ?_) AllReadyH.nil
        go_simp
        with_reducible refine (cI _ _ _ (HZ.out _ hHeld).2.2).mono ?_
        rintro e wC53 ⟨p3, d3, p4, d4, rfl, oR, bC⟩
        have HN54 := Lib.hid (rg_R HN51.out bC oR)
        have KK52 := HN54.out.s
        clear oR bC HN51
        refine hK.out _ _ KK52 (fun hHeldN => ?_)
        clear hK K hHeld
        have hHeld := hHeldN
        clear hHeldN
        try simp only [Act.put, List.setIfInBounds_toArray, List.set_cons_zero, List.set_cons_succ]
        refine wpAnyH_ready (rs := [5]) (by kernel_rfl) (by simp) ?_
        refine AllReadyH.cons (o := { dst := none, op := Op.store 27 (Operand.tmp 8) (Operand.tmp 28), type := 0, pos := "exact.go:4289", after := #[{ on := 4, ground := Ground.data }, { on := 3, ground := Ground.data }, { on := 3, ground := Ground.chain }, { on := 0, ground := Ground.phase }, { on := 1, ground := Ground.phase }, { on := 2, ground := Ground.phase }, { on := 3, ground := Ground.phase }, { on := 4, ground := Ground.phase }], guard := none }) rfl (fun K hK => ?_) AllReadyH.nil
        have hx := HN54.out.X rfl
        obtain ⟨x0, x1'⟩ := cel2k hx.1
        have f0 := hx.1.frozen 0
        have f1 := hx.1.frozen 1
        go_simp
        have HP := Lib.hid (rg_put HN54.out)
        clear x0 x1' f0 f1 hx HN54
        generalize ((wC53.setCell ⟨wB41.heap.size, 0, none⟩ (.slice p3 ks.length d3)).setCell ⟨wB41.heap.size, 1, none⟩ (.slice p4 os.length d4)) = w9 at *
        have KK9 := HP.out.1
        refine hK.out _ _ KK9 (fun hHeldN => ?_)
        clear hK K hHeld
        have hHeld := hHeldN
        clear hHeldN
        try simp only [Act.put, List.setIfInBounds_toArray, List.set_cons_zero, List.set_cons_succ]
        refine wpAnyH_done (by kernel_rfl) ?_ _
        have hHeld2 := hHeld
        clear hHeld
        obtain ⟨B2, C2, hQ⟩ : ∃ B2 C2, KnQ W0 w9 b6 C1 (wB41.heap.size) B0 C0 B1 C1 B2 C2 (.slice p1 ks.length d1) (.slice p2 os.length d2) (.slice x1 ks.length z1) (.slice x2 ts.length z2) (.slice p3 ks.length d3) (.slice p4 os.length d4) ks os ks ts ks os := by
          obtain ⟨f1, f2, f3, f4, f5, f6, f7, f8, f9, f10⟩ := HF7.out
          obtain ⟨m0, m1, m2, m3, m4, m5, m6, m7⟩ := HP.out
          exact ⟨_, _, Below.then_ f1 m0, f2.kept m0, f5.kept m0, m1, f3.keep m0 (by omega), f6.keep m0 (by omega), m2, f8, f9, by omega, f4, by have := m0.size; omega, m5, f7, ⟨Nat.le_refl _, by omega⟩, ⟨by omega, m7⟩, m4⟩
        exact REST7 _ _ _ _ _ _ _ _ hQ
      refine AllReadyH.cons (o := { dst := some 8, op := Op.alloc 27, type := 0, pos := "exact.go:4289", after := #[], guard := none }) rfl (fun K hK => ?_) AllReadyH.nil
      go_simp
      have HN57 := Lib.hid (rg_X HN.out)
      clear HN
      generalize wd.alloc (.cells #[.slice none 0 0, .slice none 0 0] 27) = wD56 at *
      have KK55 := HN57.out.s
      refine hK.out _ _ KK55 (fun hHeldN => ?_)
      clear hK K hHeld
      have hHeld := hHeldN
      clear hHeldN
      try simp only [Act.put, List.setIfInBounds_toArray, List.set_cons_zero, List.set_cons_succ]
      refine wpAnyH_ready (rs := [2]) (by kernel_rfl) (by simp) ?_
      refine AllReadyH.cons (o := { dst := some 27, op := Op.call { callee := Callee.value (Operand.func 26), args := #[Operand.tmp 26], argTypes := #[42] }, type := 29, pos := "exact.go:4289", after := #[{ on := 1, ground := Ground.data }], guard := none }) rfl (fun K hK => ?_) AllReadyH.nil
      go_simp
      with_reducible refine (cM _).mono ?_
      rintro e wB59 ⟨rfl, bB⟩
      have HN60 := Lib.hid (rg_kept HN57.out bB)
      have KK58 := HN60.out.s
      clear bB HN57
      refine hK.out _ _ KK58 (fun hHeldN => ?_)
      clear hK K hHeld
      have hHeld := hHeldN
      clear hHeldN
      try simp only [Act.put, List.setIfInBounds_toArray, List.set_cons_zero, List.set_cons_succ]
      refine wpAnyH_ready (rs := [3]) (by kernel_rfl) (by simp) ?_
      refine AllReadyH.cons (o := { dst := some 28, op := Op.call { callee := Callee.value (Operand.func 11), args := #[Operand.tmp 25, Operand.tmp 27], argTypes := #[27, 29] }, type := 27, pos := "exact.go:4289", after := #[{ on := 0, ground := Ground.data }, { on := 2, ground := Ground.data }, { on := 2, ground := Ground.chain }], guard := none }) rfl (fun K hK => ?_) AllReadyH.nil
      go_simp
      with_reducible refine (cI _ _ _ (HZ.out _ hHeld).2.2).mono ?_
      rintro e wC62 ⟨p3, d3, p4, d4, rfl, oR, bC⟩
      have HN63 := Lib.hid (rg_R HN60.out bC oR)
      have KK61 := HN63.out.s
      clear oR bC HN60
      refine hK.out _ _ KK61 (fun hHeldN => ?_)
      clear hK K hHeld
      have hHeld := hHeldN
      clear hHeldN
      try simp only [Act.put, List.setIfInBounds_toArray, List.set_cons_zero, List.set_cons_succ]
      refine wpAnyH_ready (rs := [5]) (by kernel_rfl) (by simp) ?_
      refine AllReadyH.cons (o := { dst := none, op := Op.store 27 (Operand.tmp 8) (Operand.tmp 28), type := 0, pos := "exact.go:4289", after := #[{ on := 4, ground := Ground.data }, { on := 3, ground := Ground.data }, { on := 3, ground := Ground.chain }, { on := 0, ground := Ground.phase }, { on := 1, ground := Ground.phase }, { on := 2, ground := Ground.phase }, { on := 3, ground := Ground.phase }, { on := 4, ground := Ground.phase }], guard := none }) rfl (fun K hK => ?_) AllReadyH.nil
      have hx := HN63.out.X rfl
      obtain ⟨x0, x1'⟩ := cel2k hx.1
      have f0 := hx.1.frozen 0
      have f1 := hx.1.frozen 1
      go_simp
      have HP := Lib.hid (rg_put HN63.out)
      clear x0 x1' f0 f1 hx HN63
      generalize ((wC62.setCell ⟨wd.heap.size, 0, none⟩ (.slice p3 ks.length d3)).setCell ⟨wd.heap.size, 1, none⟩ (.slice p4 os.length d4)) = w9 at *
      have KK9 := HP.out.1
      refine hK.out _ _ KK9 (fun hHeldN => ?_)
      clear hK K hHeld
      have hHeld := hHeldN
      clear hHeldN
      try simp only [Act.put, List.setIfInBounds_toArray, List.set_cons_zero, List.set_cons_succ]
      refine wpAnyH_done (by kernel_rfl) ?_ _
      have hHeld2 := hHeld
      clear hHeld
      obtain ⟨B2, C2, hQ⟩ : ∃ B2 C2, KnQ W0 w9 b6 C1 (wd.heap.size) B0 C0 B1 C1 B2 C2 (.slice p1 ks.length d1) (.slice p2 os.length d2) (.slice x1 ks.length z1) (.slice x2 ts.length z2) (.slice p3 ks.length d3) (.slice p4 os.length d4) ks os ks ts ks os := by
        obtain ⟨f1, f2, f3, f4, f5, f6, f7, f8, f9, f10⟩ := HF7.out
        obtain ⟨m0, m1, m2, m3, m4, m5, m6, m7⟩ := HP.out
        exact ⟨_, _, Below.then_ f1 m0, f2.kept m0, f5.kept m0, m1, f3.keep m0 (by omega), f6.keep m0 (by omega), m2, f8, f9, by omega, f4, by have := m0.size; omega, m5, f7, ⟨Nat.le_refl _, by omega⟩, ⟨by omega, m7⟩, m4⟩
      exact REST7 _ _ _ _ _ _ _ _ hQ
    have HN : Hid (RgS w1.drew w1.drew (.slice none 0 0) (.slice none 0 0) ks ts false 0 false (.slice none 0 0) (.slice none 0 0) os 0 0 false) := Lib.hid ⟨Below.refl _ _, fun h => (by cases h), fun h => (by cases h), fun h => (by cases h)⟩
    have hS5 := HN.out.s
    refine wp_region_held_drew (S := fun W => Below w1.drew.heap.size w1.drew W) (by kernel_rfl) hS5 (fun hHeld => ?_)
    clear hS5
    generalize w1.drew = wd at *
    refine take_yes (i := 0) (oi := { dst := some 18, op := Op.load 41 (Operand.tmp 2), type := 41, pos := "exact.go:4287", after := #[], guard := none }) (v := .agg #[.slice ka ks.length kc, .slice ta ts.length tc]) rfl (by kernel_rfl) (by kernel_rfl) (by kernel_rfl) (fun _ _ _ h => h) (by rfl) (fun w hSw => by (try dsimp only at hSw); obtain ⟨-, -, ⟨c0, c1⟩, -⟩ := HD.out _ (HZ.out _ hSw).1; go_simp) (by assumption) ?_
    try simp only [Act.put, List.setIfInBounds_toArray, List.set_cons_zero, List.set_cons_succ]
    refine take_yes (i := 2) (oi := { dst := some 20, op := Op.load 42 (Operand.tmp 3), type := 42, pos := "exact.go:4287", after := #[], guard := none }) (v := .agg #[.int .i64 t.kind, .int .i64 t.one, .int .i64 t.two, .int .i64 t.a, .int .i64 t.b]) rfl (by kernel_rfl) (by kernel_rfl) (by kernel_rfl) (fun _ _ _ h => h) (by rfl) (fun w hSw => by (try dsimp only at hSw); obtain ⟨-, -, -, ⟨t0, t1, t2, t3, t4⟩⟩ := HD.out _ (HZ.out _ hSw).1; go_simp) (by assumption) ?_
    try simp only [Act.put, List.setIfInBounds_toArray, List.set_cons_zero, List.set_cons_succ]
    refine wpAnyH_ready (rs := [1, 5]) (by kernel_rfl) (by simp) ?_
    refine AllReadyH.cons (o := { dst := some 19, op := Op.call { callee := Callee.value (Operand.func 25), args := #[Operand.tmp 18], argTypes := #[41] }, type := 27, pos := "exact.go:4287", after := #[{ on := 0, ground := Ground.data }], guard := none }) rfl (fun K hK => ?_) ?_
    · go_simp
      with_reducible refine (cK _ (HD.out _ (HZ.out _ hHeld).1).2.1).mono ?_
      rintro e wA65 ⟨a1, e1, a2, e2, rfl, oA, bA⟩
      have HN66 := Lib.hid (rg_A HN.out bA oA.rd)
      have KK64 := HN66.out.s
      clear oA bA HN
      refine hK.out _ _ KK64 (fun hHeldN => ?_)
      clear hK K hHeld
      have hHeld := hHeldN
      clear hHeldN
      try simp only [Act.put, List.setIfInBounds_toArray, List.set_cons_zero, List.set_cons_succ]
      refine wpAnyH_ready (rs := [3, 5]) (by kernel_rfl) (by simp) ?_
      refine AllReadyH.cons (o := { dst := some 21, op := Op.call { callee := Callee.value (Operand.func 26), args := #[Operand.tmp 20], argTypes := #[42] }, type := 29, pos := "exact.go:4287", after := #[{ on := 2, ground := Ground.data }, { on := 1, ground := Ground.chain }], guard := none }) rfl (fun K hK => ?_) ?_
      · go_simp
        with_reducible refine (cM _).mono ?_
        rintro e wB68 ⟨rfl, bB⟩
        have HN69 := Lib.hid (rg_kept HN66.out bB)
        have KK67 := HN69.out.s
        clear bB HN66
        refine hK.out _ _ KK67 (fun hHeldN => ?_)
        clear hK K hHeld
        have hHeld := hHeldN
        clear hHeldN
        try simp only [Act.put, List.setIfInBounds_toArray, List.set_cons_zero, List.set_cons_succ]
        refine wpAnyH_ready (rs := [4, 5]) (by kernel_rfl) (by simp) ?_
        refine AllReadyH.cons (o := { dst := some 22, op := Op.call { callee := Callee.value (Operand.func 16), args := #[Operand.tmp 19, Operand.tmp 21], argTypes := #[27, 29] }, type := 27, pos := "exact.go:4287", after := #[{ on := 1, ground := Ground.data }, { on := 3, ground := Ground.data }, { on := 3, ground := Ground.chain }], guard := none }) rfl (fun K hK => ?_) ?_
        · go_simp
          with_reducible refine (cS _ _ _ (HN69.out.A rfl)).mono ?_
          rintro e wC71 ⟨p1, d1, p2, d2, rfl, oR, bC⟩
          have HN72 := Lib.hid (rg_R HN69.out bC oR)
          have KK70 := HN72.out.s
          clear oR bC HN69
          refine hK.out _ _ KK70 (fun hHeldN => ?_)
          clear hK K hHeld
          have hHeld := hHeldN
          clear hHeldN
          try simp only [Act.put, List.setIfInBounds_toArray, List.set_cons_zero, List.set_cons_succ]
          refine wpAnyH_ready (rs := [5]) (by kernel_rfl) (by simp) ?_
          refine AllReadyH.cons (o := { dst := some 6, op := Op.alloc 27, type := 0, pos := "exact.go:4287", after := #[], guard := none }) rfl (fun K hK => ?_) AllReadyH.nil
          go_simp
          have HN75 := Lib.hid (rg_X HN72.out)
          clear HN72
          generalize wC71.alloc (.cells #[.slice none 0 0, .slice none 0 0] 27) = wD74 at *
          have KK73 := HN75.out.s
          refine hK.out _ _ KK73 (fun hHeldN => ?_)
          clear hK K hHeld
          have hHeld := hHeldN
          clear hHeldN
          try simp only [Act.put, List.setIfInBounds_toArray, List.set_cons_zero, List.set_cons_succ]
          refine wpAnyH_ready (rs := [6]) (by kernel_rfl) (by simp) ?_
          refine AllReadyH.cons (o := { dst := none, op := Op.store 27 (Operand.tmp 6) (Operand.tmp 22), type := 0, pos := "exact.go:4287", after := #[{ on := 5, ground := Ground.data }, { on := 4, ground := Ground.data }, { on := 4, ground := Ground.chain }, { on := 0, ground := Ground.phase }, { on := 1, ground := Ground.phase }, { on := 2, ground := Ground.phase }, { on := 3, ground := Ground.phase }, { on := 4, ground := Ground.phase }, { on := 5, ground := Ground.phase }], guard := none }) rfl (fun K hK => ?_) AllReadyH.nil
          have hx := HN75.out.X rfl
          obtain ⟨x0, x1'⟩ := cel2k hx.1
          have f0 := hx.1.frozen 0
          have f1 := hx.1.frozen 1
          go_simp
          have HP := Lib.hid (rg_put HN75.out)
          clear x0 x1' f0 f1 hx HN75
          generalize ((wD74.setCell ⟨wC71.heap.size, 0, none⟩ (.slice p1 ks.length d1)).setCell ⟨wC71.heap.size, 1, none⟩ (.slice p2 os.length d2)) = w9 at *
          have KK9 := HP.out.1
          refine hK.out _ _ KK9 (fun hHeldN => ?_)
          clear hK K hHeld
          have hHeld := hHeldN
          clear hHeldN
          try simp only [Act.put, List.setIfInBounds_toArray, List.set_cons_zero, List.set_cons_succ]
          refine wpAnyH_done (by kernel_rfl) ?_ _
          have hHeld2 := hHeld
          clear hHeld
          exact REST5 _ _ _ _ _ _ _ _ _ _ _ _ ⟨(HZ.out _ HP.out.1).1, HP.out.2.1, HP.out.2.2.1, HP.out.2.2.2.2.2.1⟩
        refine AllReadyH.cons (o := { dst := some 6, op := Op.alloc 27, type := 0, pos := "exact.go:4287", after := #[], guard := none }) rfl (fun K hK => ?_) AllReadyH.nil
        go_simp
        have HN78 := Lib.hid (rg_X HN69.out)
        clear HN69
        generalize wB68.alloc (.cells #[.slice none 0 0, .slice none 0 0] 27) = wD77 at *
        have KK76 := HN78.out.s
        refine hK.out _ _ KK76 (fun hHeldN => ?_)
        clear hK K hHeld
        have hHeld := hHeldN
        clear hHeldN
        try simp only [Act.put, List.setIfInBounds_toArray, List.set_cons_zero, List.set_cons_succ]
        refine wpAnyH_ready (rs := [4]) (by kernel_rfl) (by simp) ?_
        refine AllReadyH.cons (o := { dst := some 22, op := Op.call { callee := Callee.value (Operand.func 16), args := #[Operand.tmp 19, Operand.tmp 21], argTypes := #[27, 29] }, type := 27, pos := "exact.go:4287", after := #[{ on := 1, ground := Ground.data }, { on := 3, ground := Ground.data }, { on := 3, ground := Ground.chain }], guard := none }) rfl (fun K hK => ?_) AllReadyH.nil
        go_simp
        with_reducible refine (cS _ _ _ (HN78.out.A rfl)).mono ?_
        rintro e wC80 ⟨p1, d1, p2, d2, rfl, oR, bC⟩
        have HN81 := Lib.hid (rg_R HN78.out bC oR)
        have KK79 := HN81.out.s
        clear oR bC HN78
        refine hK.out _ _ KK79 (fun hHeldN => ?_)
        clear hK K hHeld
        have hHeld := hHeldN
        clear hHeldN
        try simp only [Act.put, List.setIfInBounds_toArray, List.set_cons_zero, List.set_cons_succ]
        refine wpAnyH_ready (rs := [6]) (by kernel_rfl) (by simp) ?_
        refine AllReadyH.cons (o := { dst := none, op := Op.store 27 (Operand.tmp 6) (Operand.tmp 22), type := 0, pos := "exact.go:4287", after := #[{ on := 5, ground := Ground.data }, { on := 4, ground := Ground.data }, { on := 4, ground := Ground.chain }, { on := 0, ground := Ground.phase }, { on := 1, ground := Ground.phase }, { on := 2, ground := Ground.phase }, { on := 3, ground := Ground.phase }, { on := 4, ground := Ground.phase }, { on := 5, ground := Ground.phase }], guard := none }) rfl (fun K hK => ?_) AllReadyH.nil
        have hx := HN81.out.X rfl
        obtain ⟨x0, x1'⟩ := cel2k hx.1
        have f0 := hx.1.frozen 0
        have f1 := hx.1.frozen 1
        go_simp
        have HP := Lib.hid (rg_put HN81.out)
        clear x0 x1' f0 f1 hx HN81
        generalize ((wC80.setCell ⟨wB68.heap.size, 0, none⟩ (.slice p1 ks.length d1)).setCell ⟨wB68.heap.size, 1, none⟩ (.slice p2 os.length d2)) = w9 at *
        have KK9 := HP.out.1
        refine hK.out _ _ KK9 (fun hHeldN => ?_)
        clear hK K hHeld
        have hHeld := hHeldN
        clear hHeldN
        try simp only [Act.put, List.setIfInBounds_toArray, List.set_cons_zero, List.set_cons_succ]
        refine wpAnyH_done (by kernel_rfl) ?_ _
        have hHeld2 := hHeld
        clear hHeld
        exact REST5 _ _ _ _ _ _ _ _ _ _ _ _ ⟨(HZ.out _ HP.out.1).1, HP.out.2.1, HP.out.2.2.1, HP.out.2.2.2.2.2.1⟩
      refine AllReadyH.cons (o := { dst := some 6, op := Op.alloc 27, type := 0, pos := "exact.go:4287", after := #[], guard := none }) rfl (fun K hK => ?_) AllReadyH.nil
      go_simp
      have HN84 := Lib.hid (rg_X HN66.out)
      clear HN66
      generalize wA65.alloc (.cells #[.slice none 0 0, .slice none 0 0] 27) = wD83 at *
      have KK82 := HN84.out.s
      refine hK.out _ _ KK82 (fun hHeldN => ?_)
      clear hK K hHeld
      have hHeld := hHeldN
      clear hHeldN
      try simp only [Act.put, List.setIfInBounds_toArray, List.set_cons_zero, List.set_cons_succ]
      refine wpAnyH_ready (rs := [3]) (by kernel_rfl) (by simp) ?_
      refine AllReadyH.cons (o := { dst := some 21, op := Op.call { callee := Callee.value (Operand.func 26), args := #[Operand.tmp 20], argTypes := #[42] }, type := 29, pos := "exact.go:4287", after := #[{ on := 2, ground := Ground.data }, { on := 1, ground := Ground.chain }], guard := none }) rfl (fun K hK => ?_) AllReadyH.nil
      go_simp
      with_reducible refine (cM _).mono ?_
      rintro e wB86 ⟨rfl, bB⟩
      have HN87 := Lib.hid (rg_kept HN84.out bB)
      have KK85 := HN87.out.s
      clear bB HN84
      refine hK.out _ _ KK85 (fun hHeldN => ?_)
      clear hK K hHeld
      have hHeld := hHeldN
      clear hHeldN
      try simp only [Act.put, List.setIfInBounds_toArray, List.set_cons_zero, List.set_cons_succ]
      refine wpAnyH_ready (rs := [4]) (by kernel_rfl) (by simp) ?_
      refine AllReadyH.cons (o := { dst := some 22, op := Op.call { callee := Callee.value (Operand.func 16), args := #[Operand.tmp 19, Operand.tmp 21], argTypes := #[27, 29] }, type := 27, pos := "exact.go:4287", after := #[{ on := 1, ground := Ground.data }, { on := 3, ground := Ground.data }, { on := 3, ground := Ground.chain }], guard := none }) rfl (fun K hK => ?_) AllReadyH.nil
      go_simp
      with_reducible refine (cS _ _ _ (HN87.out.A rfl)).mono ?_
      rintro e wC89 ⟨p1, d1, p2, d2, rfl, oR, bC⟩
      have HN90 := Lib.hid (rg_R HN87.out bC oR)
      have KK88 := HN90.out.s
      clear oR bC HN87
      refine hK.out _ _ KK88 (fun hHeldN => ?_)
      clear hK K hHeld
      have hHeld := hHeldN
      clear hHeldN
      try simp only [Act.put, List.setIfInBounds_toArray, List.set_cons_zero, List.set_cons_succ]
      refine wpAnyH_ready (rs := [6]) (by kernel_rfl) (by simp) ?_
      refine AllReadyH.cons (o := { dst := none, op := Op.store 27 (Operand.tmp 6) (Operand.tmp 22), type := 0, pos := "exact.go:4287", after := #[{ on := 5, ground := Ground.data }, { on := 4, ground := Ground.data }, { on := 4, ground := Ground.chain }, { on := 0, ground := Ground.phase }, { on := 1, ground := Ground.phase }, { on := 2, ground := Ground.phase }, { on := 3, ground := Ground.phase }, { on := 4, ground := Ground.phase }, { on := 5, ground := Ground.phase }], guard := none }) rfl (fun K hK => ?_) AllReadyH.nil
      have hx := HN90.out.X rfl
      obtain ⟨x0, x1'⟩ := cel2k hx.1
      have f0 := hx.1.frozen 0
      have f1 := hx.1.frozen 1
      go_simp
      have HP := Lib.hid (rg_put HN90.out)
      clear x0 x1' f0 f1 hx HN90
      generalize ((wC89.setCell ⟨wA65.heap.size, 0, none⟩ (.slice p1 ks.length d1)).setCell ⟨wA65.heap.size, 1, none⟩ (.slice p2 os.length d2)) = w9 at *
      have KK9 := HP.out.1
      refine hK.out _ _ KK9 (fun hHeldN => ?_)
      clear hK K hHeld
      have hHeld := hHeldN
      clear hHeldN
      try simp only [Act.put, List.setIfInBounds_toArray, List.set_cons_zero, List.set_cons_succ]
      refine wpAnyH_done (by kernel_rfl) ?_ _
      have hHeld2 := hHeld
      clear hHeld
      exact REST5 _ _ _ _ _ _ _ _ _ _ _ _ ⟨(HZ.out _ HP.out.1).1, HP.out.2.1, HP.out.2.2.1, HP.out.2.2.2.2.2.1⟩
    refine AllReadyH.cons (o := { dst := some 6, op := Op.alloc 27, type := 0, pos := "exact.go:4287", after := #[], guard := none }) rfl (fun K hK => ?_) AllReadyH.nil
    go_simp
    have HN93 := Lib.hid (rg_X HN.out)
    clear HN
    generalize wd.alloc (.cells #[.slice none 0 0, .slice none 0 0] 27) = wD92 at *
    have KK91 := HN93.out.s
    refine hK.out _ _ KK91 (fun hHeldN => ?_)
    clear hK K hHeld
    have hHeld := hHeldN
    clear hHeldN
    try simp only [Act.put, List.setIfInBounds_toArray, List.set_cons_zero, List.set_cons_succ]
    refine wpAnyH_ready (rs := [1]) (by kernel_rfl) (by simp) ?_
    refine AllReadyH.cons (o := { dst := some 19, op := Op.call { callee := Callee.value (Operand.func 25), args := #[Operand.tmp 18], argTypes := #[41] }, type := 27, pos := "exact.go:4287", after := #[{ on := 0, ground := Ground.data }], guard := none }) rfl (fun K hK => ?_) AllReadyH.nil
    go_simp
    with_reducible refine (cK _ (HD.out _ (HZ.out _ hHeld).1).2.1).mono ?_
    rintro e wA95 ⟨a1, e1, a2, e2, rfl, oA, bA⟩
    have HN96 := Lib.hid (rg_A HN93.out bA oA.rd)
    have KK94 := HN96.out.s
    clear oA bA HN93
    refine hK.out _ _ KK94 (fun hHeldN => ?_)
    clear hK K hHeld
    have hHeld := hHeldN
    clear hHeldN
    try simp only [Act.put, List.setIfInBounds_toArray, List.set_cons_zero, List.set_cons_succ]
    refine wpAnyH_ready (rs := [3]) (by kernel_rfl) (by simp) ?_
    refine AllReadyH.cons (o := { dst := some 21, op := Op.call { callee := Callee.value (Operand.func 26), args := #[Operand.tmp 20], argTypes := #[42] }, type := 29, pos := "exact.go:4287", after := #[{ on := 2, ground := Ground.data }, { on := 1, ground := Ground.chain }], guard := none }) rfl (fun K hK => ?_) AllReadyH.nil
    go_simp
    with_reducible refine (cM _).mono ?_
    rintro e wB98 ⟨rfl, bB⟩
    have HN99 := Lib.hid (rg_kept HN96.out bB)
    have KK97 := HN99.out.s
    clear bB HN96
    refine hK.out _ _ KK97 (fun hHeldN => ?_)
    clear hK K hHeld
    have hHeld := hHeldN
    clear hHeldN
    try simp only [Act.put, List.setIfInBounds_toArray, List.set_cons_zero, List.set_cons_succ]
    refine wpAnyH_ready (rs := [4]) (by kernel_rfl) (by simp) ?_
    refine AllReadyH.cons (o := { dst := some 22, op := Op.call { callee := Callee.value (Operand.func 16), args := #[Operand.tmp 19, Operand.tmp 21], argTypes := #[27, 29] }, type := 27, pos := "exact.go:4287", after := #[{ on := 1, ground := Ground.data }, { on := 3, ground := Ground.data }, { on := 3, ground := Ground.chain }], guard := none }) rfl (fun K hK => ?_) AllReadyH.nil
    go_simp
    with_reducible refine (cS _ _ _ (HN99.out.A rfl)).mono ?_
    rintro e wC101 ⟨p1, d1, p2, d2, rfl, oR, bC⟩
    have HN102 := Lib.hid (rg_R HN99.out bC oR)
    have KK100 := HN102.out.s
    clear oR bC HN99
    refine hK.out _ _ KK100 (fun hHeldN => ?_)
    clear hK K hHeld
    have hHeld := hHeldN
    clear hHeldN
    try simp only [Act.put, List.setIfInBounds_toArray, List.set_cons_zero, List.set_cons_succ]
    refine wpAnyH_ready (rs := [6]) (by kernel_rfl) (by simp) ?_
    refine AllReadyH.cons (o := { dst := none, op := Op.store 27 (Operand.tmp 6) (Operand.tmp 22), type := 0, pos := "exact.go:4287", after := #[{ on := 5, ground := Ground.data }, { on := 4, ground := Ground.data }, { on := 4, ground := Ground.chain }, { on := 0, ground := Ground.phase }, { on := 1, ground := Ground.phase }, { on := 2, ground := Ground.phase }, { on := 3, ground := Ground.phase }, { on := 4, ground := Ground.phase }, { on := 5, ground := Ground.phase }], guard := none }) rfl (fun K hK => ?_) AllReadyH.nil
    have hx := HN102.out.X rfl
    obtain ⟨x0, x1'⟩ := cel2k hx.1
    have f0 := hx.1.frozen 0
    have f1 := hx.1.frozen 1
    go_simp
    have HP := Lib.hid (rg_put HN102.out)
    clear x0 x1' f0 f1 hx HN102
    generalize ((wC101.setCell ⟨wd.heap.size, 0, none⟩ (.slice p1 ks.length d1)).setCell ⟨wd.heap.size, 1, none⟩ (.slice p2 os.length d2)) = w9 at *
    have KK9 := HP.out.1
    refine hK.out _ _ KK9 (fun hHeldN => ?_)
    clear hK K hHeld
    have hHeld := hHeldN
    clear hHeldN
    try simp only [Act.put, List.setIfInBounds_toArray, List.set_cons_zero, List.set_cons_succ]
    refine wpAnyH_done (by kernel_rfl) ?_ _
    have hHeld2 := hHeld
    clear hHeld
    exact REST5 _ _ _ _ _ _ _ _ _ _ _ _ ⟨(HZ.out _ HP.out.1).1, HP.out.2.1, HP.out.2.2.1, HP.out.2.2.2.2.2.1⟩
end Go.Proofs.Ytgfkmnadbcbfkaa
