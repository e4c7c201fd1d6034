import Derived.Test.YtgfkmnadbcbfkaaTkn
import Derived.Test.YtgfkmnadbcbfkaaTsp
namespace Go.Proofs.Ytgfkmnadbcbfkaa
open Go.RowKit

/-- While rows are copied: keys and tags of one's own so far, and the box, if it is there. -/
structure LnS (W : World) (B : Nat) (iv tv : Value) (xs : List Int) (ys : List Tv) (b : Nat) (has : Bool) : Prop where
  o : KnO W B W.heap.size iv tv xs ys
  l : B ≤ W.heap.size
  x : has = true → Cel W b 27 #[.slice none 0 0, .slice none 0 0] ∧ B ≤ b ∧ iv.ownBlock ≠ some b ∧ tv.ownBlock ≠ some b
section
variable {W W' : World} {B b : Nat} {iv tv : Value} {xs zs : List Int} {ys us : List Tv} {has : Bool}
theorem own_block_lt {α : Type} {K : EK α} {v : Value} {xs : List α} (h : OwnE K W B W.heap.size v xs) : v.ownBlock ≠ some W.heap.size := fun e => Nat.lt_irrefl _ (h.block _ e).2
theorem ln_ints (h : LnS W B (.slice none 0 0) tv [] ys b has) : LnS (W.alloc (.cells #[] 3)) B (.slice (some ⟨W.heap.size, 0, none⟩) 0 0) tv [] ys b has :=
  ⟨⟨(eown_empty intK W).mono h.l (Nat.le_refl _), eown_alloc h.o.t _, fun g hg e => own_block_lt h.o.t (by simp [Value.ownBlock] at hg; rw [hg]; exact e)⟩, Nat.le_trans h.l (by simp), fun hb => by
    obtain ⟨x1, x2, -, x4⟩ := h.x hb
    have hlt := x1.lt
    exact ⟨x1.alloc _, x2, fun e => by simp [Value.ownBlock] at e; omega, x4⟩⟩
theorem ln_tags (h : LnS W B iv (.slice none 0 0) xs [] b has) : LnS (W.alloc (.cells #[] 29)) B iv (.slice (some ⟨W.heap.size, 0, none⟩) 0 0) xs [] b has :=
  ⟨⟨eown_alloc h.o.k _, (eown_empty tvK W).mono h.l (Nat.le_refl _), fun g hg e => own_block_lt h.o.k (by simp [Value.ownBlock] at e; rw [e]; exact hg)⟩, Nat.le_trans h.l (by simp), fun hb => by
    obtain ⟨x1, x2, x3, -⟩ := h.x hb
    have hlt := x1.lt
    exact ⟨x1.alloc _, x2, x3, fun e => by simp [Value.ownBlock] at e; omega⟩⟩
theorem ln_box (h : LnS W B iv tv xs ys b false) : LnS (W.alloc (.cells #[.slice none 0 0, .slice none 0 0] 27)) B iv tv xs ys W.heap.size true :=
  ⟨⟨eown_alloc h.o.k _, eown_alloc h.o.t _, h.o.sep⟩, Nat.le_trans h.l (by simp), fun _ => ⟨Cel.new _ _ _, h.l, own_block_lt h.o.k, own_block_lt h.o.t⟩⟩
theorem ln_gi {v' : Value} (h : LnS W B iv tv xs ys b has) (ho : OwnE intK W' B W'.heap.size v' zs) (hg : W.grownBy W' iv.ownBlock) (hl : v'.ownBlock = iv.ownBlock ∨ v'.ownBlock = some W.heap.size) : LnS W' B v' tv zs ys b has :=
  ⟨⟨ho, (h.o.t.grown hg (Nat.le_refl _) fun g e1 e2 => h.o.sep g e2.symm e1).mono (Nat.le_refl _) hg.size, fun g e1 e2 => by
    rcases hl with e | e
    · exact h.o.sep g (e ▸ e1) e2
    · exact own_block_lt h.o.t (by rw [e2, ← e1, e])⟩, Nat.le_trans h.l hg.size, fun hb => by
    obtain ⟨x1, x2, x3, x4⟩ := h.x hb
    have hlt := x1.lt
    refine ⟨x1.grown hg fun e => x3 e.symm, x2, fun e1 => ?_, x4⟩
    rcases hl with e | e
    · exact x3 (e ▸ e1)
    · rw [e] at e1; simp at e1; omega⟩
theorem ln_gt {v' : Value} (h : LnS W B iv tv xs ys b has) (ho : OwnE tvK W' B W'.heap.size v' us) (hg : W.grownBy W' tv.ownBlock) (hl : v'.ownBlock = tv.ownBlock ∨ v'.ownBlock = some W.heap.size) : LnS W' B iv v' xs us b has :=
  ⟨⟨(h.o.k.grown hg (Nat.le_refl _) fun g e1 e2 => h.o.sep g e1 e2.symm).mono (Nat.le_refl _) hg.size, ho, fun g e1 e2 => by
    rcases hl with e | e
    · exact h.o.sep g e1 (e ▸ e2)
    · exact own_block_lt h.o.k (by rw [e1, ← e2, e])⟩, Nat.le_trans h.l hg.size, fun hb => by
    obtain ⟨x1, x2, x3, x4⟩ := h.x hb
    have hlt := x1.lt
    refine ⟨x1.grown hg fun e => x4 e.symm, x2, x3, fun e1 => ?_⟩
    rcases hl with e | e
    · exact x4 (e ▸ e1)
    · rw [e] at e1; simp at e1; omega⟩
end

/-- The box filled. -/
structure LnF (W : World) (B : Nat) (iv tv : Value) (xs : List Int) (ys : List Tv) (b : Nat) : Prop where
  o : KnO W B W.heap.size iv tv xs ys
  l : B ≤ b
  x : Cel W b 27 #[iv, tv]
  n1 : iv.ownBlock ≠ some b
  n2 : tv.ownBlock ≠ some b
theorem own_at {α : Type} {K : EK α} {W : World} {B C g i : Nat} {u : Value} {L : List α} (h : OwnE K W B C u L) (hg : u.ownBlock ≠ some g) (x : Value) : OwnE K (W.setCell ⟨g, i, none⟩ x) B C u L :=
  h.keepAt fun k hk => esetC_other g i [x] W k (fun e => hg (e ▸ hk))
theorem ln_put {W : World} {B b : Nat} {iv tv : Value} {xs : List Int} {ys : List Tv} (h : LnS W B iv tv xs ys b true) : LnF ((W.setCell ⟨b, 0, none⟩ iv).setCell ⟨b, 1, none⟩ tv) B iv tv xs ys b := by
  obtain ⟨x1, x2, x3, x4⟩ := h.x rfl
  have hz : ((W.setCell ⟨b, 0, none⟩ iv).setCell ⟨b, 1, none⟩ tv).heap.size = W.heap.size := esetC_size b 0 [iv, tv] W
  refine ⟨?_, x2, (x1.set 0 iv).set 1 tv, x3, x4⟩
  rw [hz]
  exact ⟨own_at (own_at h.o.k x3 _) x3 _, own_at (own_at h.o.t x4 _) x4 _, h.o.sep⟩

section
variable {W W' : World} {B b : Nat} {iv tv v' : Value} {xs : List Int} {ys us : List Tv}
theorem lnf_keep (h : LnF W B iv tv xs ys b) (hb : Below W.heap.size W W') : LnF W' B iv tv xs ys b := ⟨h.o.full hb, h.l, h.x.kept hb, h.n1, h.n2⟩
theorem lnf_grow (h : LnF W B iv tv xs ys b) (ho : OwnE tvK W' B W'.heap.size v' us) (hg : W.grownBy W' tv.ownBlock) (hl : v'.ownBlock = tv.ownBlock ∨ v'.ownBlock = some W.heap.size) :
    Cel W' b 27 #[iv, tv] ∧ LnF (W'.setCell ⟨b, 1, none⟩ v') B iv v' xs us b := by
  have hx := h.x.grown hg fun e => h.n2 e.symm
  have hlt := h.x.lt
  have hn : v'.ownBlock ≠ some b := fun e1 => by
    rcases hl with e | e
    · exact h.n2 (e ▸ e1)
    · rw [e] at e1; simp at e1; omega
  refine ⟨hx, ⟨?_, h.l, hx.set 1 v', h.n1, hn⟩⟩
  rw [show (W'.setCell ⟨b, 1, none⟩ v').heap.size = W'.heap.size from esetC_size b 1 [v'] W']
  refine ⟨own_at ((h.o.k.grown hg (Nat.le_refl _) fun g e1 e2 => h.o.sep g e1 e2.symm).mono (Nat.le_refl _) hg.size) h.n1 _, own_at ho hn _, fun g e1 e2 => ?_⟩
  rcases hl with e | e
  · exact h.o.sep g e1 (e ▸ e2)
  · exact own_block_lt h.o.k (by rw [e1, ← e2, e])
end

set_option linter.unusedSimpArgs false in
set_option maxRecDepth 100000 in
set_option maxHeartbeats 8000000 in
theorem spec_learn (ku tu : Value) (ks : List Int) (ts : List Tv) (t : Tv) (w : World) (h : KnR w ku tu ks ts) (hkn : ks.length ≤ 1048576) (htn : ts.length ≤ 1048576) :
    Calls Try.prog 16 #[.agg #[ku, tu], .agg #[.int .i64 t.kind, .int .i64 t.one, .int .i64 t.two, .int .i64 t.a, .int .i64 t.b]] w fun e w' => ∃ a c b d, e = .returned (.agg #[.slice a ks.length c, .slice b (learnTs ks ts t).length d]) ∧ KnO w' w.heap.size w'.heap.size (.slice a ks.length c) (.slice b (learnTs ks ts t).length d) ks (learnTs ks ts t) ∧ Below w.heap.size w w' := by
  obtain ⟨ka, kc, rfl⟩ := h.k.form
  obtain ⟨ta, tc, rfl⟩ := h.t.form
  have hA0 := ((Cel.new w 27 #[.slice ka ks.length kc, .slice ta ts.length tc]).alloc (.cells #[.int .i64 t.kind, .int .i64 t.one, .int .i64 t.two, .int .i64 t.a, .int .i64 t.b] 29)).alloc (.cells #[.slice none 0 0, .slice none 0 0] 27)
  have hZ0 := (Cel.new (w.alloc (.cells #[.slice ka ks.length kc, .slice ta ts.length tc] 27)) 29 #[.int .i64 t.kind, .int .i64 t.one, .int .i64 t.two, .int .i64 t.a, .int .i64 t.b]).alloc (.cells #[.slice none 0 0, .slice none 0 0] 27)
  have hO0 := Cel.new ((w.alloc (.cells #[.slice ka ks.length kc, .slice ta ts.length tc] 27)).alloc (.cells #[.int .i64 t.kind, .int .i64 t.one, .int .i64 t.two, .int .i64 t.a, .int .i64 t.b] 29)) 27 #[.slice none 0 0, .slice none 0 0]
  have hB0 : Below w.heap.size w (((w.alloc (.cells #[.slice ka ks.length kc, .slice ta ts.length tc] 27)).alloc (.cells #[.int .i64 t.kind, .int .i64 t.one, .int .i64 t.two, .int .i64 t.a, .int .i64 t.b] 29)).alloc (.cells #[.slice none 0 0, .slice none 0 0] 27)) := (((Below.refl _ _).alloc (Nat.le_refl _) _).alloc (by simp) _).alloc (by simp; omega) _
  simp only [World.size_alloc] at hZ0 hO0
  obtain ⟨W0, hW0⟩ : ∃ W0, (((w.alloc (.cells #[.slice ka ks.length kc, .slice ta ts.length tc] 27)).alloc (.cells #[.int .i64 t.kind, .int .i64 t.one, .int .i64 t.two, .int .i64 t.a, .int .i64 t.b] 29)).alloc (.cells #[.slice none 0 0, .slice none 0 0] 27)) = W0 := ⟨_, rfl⟩
  rw [hW0] at hA0 hZ0 hB0 hO0
  obtain ⟨h1, hh1⟩ : ∃ h1, w.heap.size + 1 = h1 := ⟨_, rfl⟩
  rw [hh1] at hZ0 hO0
  obtain ⟨h2, hh2⟩ : ∃ h2, h1 + 1 = h2 := ⟨_, rfl⟩
  rw [hh2] at hO0
  have HH := Lib.hid (show w.heap.size ≤ h2 ∧ h2 < W0.heap.size from ⟨by omega, hO0.lt⟩)
  have HD := Lib.hid (show ∀ W, Below W0.heap.size W0 W → (Below w.heap.size w W ∧ KnR W (.slice ka ks.length kc) (.slice ta ts.length tc) ks ts ∧ (W.cell? ⟨w.heap.size, 0, none⟩ = some (.slice ka ks.length kc) ∧ W.cell? ⟨w.heap.size, 1, none⟩ = some (.slice ta ts.length tc)) ∧ (W.cell? ⟨h1, 0, none⟩ = some (.int .i64 t.kind) ∧ W.cell? ⟨h1, 1, none⟩ = some (.int .i64 t.one) ∧ W.cell? ⟨h1, 2, none⟩ = some (.int .i64 t.two) ∧ W.cell? ⟨h1, 3, none⟩ = some (.int .i64 t.a) ∧ W.cell? ⟨h1, 4, none⟩ = some (.int .i64 t.b)) ∧ Cel W h2 27 #[.slice none 0 0, .slice none 0 0]) from fun W hW => ⟨Below.then_ hB0 hW, h.below (Below.then_ hB0 hW), cel2k (hA0.kept hW), cel5tv (hZ0.kept hW), hO0.kept hW⟩)
  have HW := Lib.hid (And.intro hW0 (And.intro hh1 hh2))
  have cS := fun W (h : KnR W (.slice ka ks.length kc) (.slice ta ts.length tc) ks ts) => spec_canMake (.slice ka ks.length kc) (.slice ta ts.length tc) ks ts t W h.k h.t (by omega) (by omega)
  clear hA0 hZ0 hB0 hO0 hW0 hh1 hh2 h
  have hS : Below W0.heap.size W0 W0.drew := (Below.refl _ _).drew
  have HN : Hid (LnS W0.drew W0.heap.size (.slice none 0 0) (.slice none 0 0) [] [] 0 false) := Lib.hid ⟨⟨OwnE.nil, OwnE.nil, fun g hg => by simp [Value.ownBlock] at hg⟩, Nat.le_refl _, fun h => by cases h⟩
  go_enter Try.func16, Try.ntmps16
  go_upto_region 1 with (fail)
  rw [HW.out.1, HW.out.2.1, HW.out.2.2]
  clear HW
  rename_i QQ KK hKK
  have REST : ∀ (g3 g12 gb : Nat) (a1 a2 : Option Addr) (d1 d2 : Nat) (W : World), Below W0.heap.size W0 W → LnF W W0.heap.size (.slice a1 ks.length d1) (.slice a2 ts.length d2) ks ts gb → KK { tmps := #[.agg #[.slice ka ks.length kc, .slice ta ts.length tc], .agg #[.int .i64 t.kind, .int .i64 t.one, .int .i64 t.two, .int .i64 t.a, .int .i64 t.b], .pointer (some ⟨w.heap.size, 0, none⟩), .pointer (some ⟨h1, 0, none⟩), .pointer (some ⟨h2, 0, none⟩), .pointer (some ⟨gb, 0, none⟩), .slice (some ⟨g3, 0, none⟩) 0 0, .pointer (some ⟨w.heap.size, 0, none⟩), .slice ka ks.length kc, .slice a1 ks.length d1, .slice (some ⟨g12, 0, none⟩) 0 0, .pointer (some ⟨w.heap.size, 1, none⟩), .slice ta ts.length tc, .slice a2 ts.length d2, .agg #[.slice a1 ks.length d1, .slice a2 ts.length d2], undef, undef, undef, undef, undef, undef, undef, undef, undef, undef, undef, undef, undef, undef, undef, undef, undef], defers := [] } W := by
    intro g3 g12 gb a1 a2 d1 d2 W hB hF
    refine hKK _ _ ?_
    have HX0 := Lib.hid (And.intro hB hF)
    obtain ⟨-, hr3, ⟨c0, c1⟩, ⟨t0, t1, t2, t3, t4⟩, -⟩ := HD.out W hB
    have HR3 := Lib.hid hr3
    clear hB hF hr3
    go_wp2_with (fail)
    with_reducible refine (cS _ HR3.out).mono ?_
    rintro e w2 ⟨rfl, b2⟩
    have HX := Lib.hid (And.intro (Below.then_ HX0.out.1 b2) (lnf_keep HX0.out.2 b2))
    clear HR3 HX0 b2 c0 c1 t0 t1 t2 t3 t4
    obtain ⟨-, -, ⟨c0, c1⟩, ⟨t0, t1, t2, t3, t4⟩, -⟩ := HD.out w2 HX.out.1
    cases hok : canMk ks ts t with
    | true =>
      have HL := Lib.hid (show learnTs ks ts t = ts from by simp [learnTs, hok])
      clear hok
      obtain ⟨x0, x1⟩ := cel2k HX.out.2.x
      have hO := (HD.out _ HX.out.1).2.2.2.2
      obtain ⟨z0, z1⟩ := cel2k hO
      have f0 := hO.frozen 0
      have f1 := hO.frozen 1
      have hE := (hO.set 0 (.slice a1 ks.length d1)).set 1 (.slice a2 ts.length d2)
      have hb9 : Below w.heap.size w2 ((w2.setCell ⟨h2, 0, none⟩ (.slice a1 ks.length d1)).setCell ⟨h2, 1, none⟩ (.slice a2 ts.length d2)) := esetC_below h2 w.heap.size HH.out.1 0 [.slice a1 ks.length d1, .slice a2 ts.length d2] w2
      have hz9 : ((w2.setCell ⟨h2, 0, none⟩ (.slice a1 ks.length d1)).setCell ⟨h2, 1, none⟩ (.slice a2 ts.length d2)).heap.size = w2.heap.size := esetC_size h2 0 [.slice a1 ks.length d1, .slice a2 ts.length d2] w2
      have HE := Lib.hid (And.intro hE (And.intro hb9 hz9))
      clear hO hE hb9 hz9
      go_wp2_with (fail)
      refine bodyPost_ret (Cel.result HE.out.1 rfl _ rfl Try.underlying27 rfl (by show _ = some 2; kernel_rfl)) rfl ?_
      rw [HL.out]
      refine ⟨_, _, _, _, rfl, ?_, (HD.out _ HX.out.1).1.trans HE.out.2.1⟩
      rw [HE.out.2.2]
      have ho := HX.out.2.o
      have hz := (HD.out W0 (Below.refl _ _)).1.size
      exact ⟨(own_other (own_other ho.k HH.out.2 _) HH.out.2 _).mono hz (Nat.le_refl _), (own_other (own_other ho.t HH.out.2 _) HH.out.2 _).mono hz (Nat.le_refl _), ho.sep⟩
    | false =>
      by_cases h300 : ts.length < 300
      · obtain ⟨L, hL⟩ : ∃ L, ts ++ [t] = L := ⟨_, rfl⟩
        have HL := Lib.hid (show learnTs ks ts t = L from by simp [learnTs, hok, h300, hL])
        have HLL := Lib.hid hL
        clear hL
        have q3 : (ts.length : Int) < 300 := by omega
        clear hok
        obtain ⟨x0, x1⟩ := cel2k HX.out.2.x
        have HA := Lib.hid (And.intro (lnf_keep HX.out.2 (below_new w2 (.cells #[.int .i64 t.kind, .int .i64 t.one, .int .i64 t.two, .int .i64 t.a, .int .i64 t.b] 29))) (And.intro (rd_tvbox (Cel.new w2 29 #[.int .i64 t.kind, .int .i64 t.one, .int .i64 t.two, .int .i64 t.a, .int .i64 t.b])) (Below.then_ HX.out.1 (below_new w2 (.cells #[.int .i64 t.kind, .int .i64 t.one, .int .i64 t.two, .int .i64 t.a, .int .i64 t.b] 29)))))
        have hbx := (Cel.kept HX.out.2.x (below_new w2 (.cells #[.int .i64 t.kind, .int .i64 t.one, .int .i64 t.two, .int .i64 t.a, .int .i64 t.b] 29)))
        have HBX := Lib.hid hbx
        clear hbx
        go_upto_region 4 with (at_builtin; go_loud (refine wpList_append_els tvK rfl _ _ 25 25 rfl uTv uTv W0.heap.size (.slice a2 ts.length d2) (.slice (some ⟨w2.heap.size, 0, none⟩) 1 1) ts [t] (by simp [Act.eval, Act.put]) (by simp [Act.eval, Act.put]) HA.out.1.o.t HA.out.2.2.size HA.out.2.1 (by simp; omega) ?_); intro v' w5 hown hgrow hloc; rw [HLL.out] at hown; have hq := lnf_grow HA.out.1 hown hgrow hloc; obtain ⟨y0, y1⟩ := cel2k hq.1; have f5 := hq.1.frozen 1; have HG := Lib.hid (And.intro (show Below W0.heap.size W0 (w5.setCell ⟨gb, 1, none⟩ v') from (ebelow_grown HA.out.2.2 HA.out.2.2.size hgrow (fun g hg => (HA.out.1.o.t.block g hg).1)).trans (esetC_below gb W0.heap.size HA.out.1.l 1 [v'] w5)) hq.2); obtain ⟨a6, c6, rfl, -⟩ := hown.form; clear hown hgrow hloc hq)
        generalize w5.setCell ⟨gb, 1, none⟩ (.slice a6 L.length c6) = w6 at *
        clear HA HBX HX x0 x1 c0 c1 t0 t1 t2 t3 t4
        obtain ⟨x0, x1⟩ := cel2k HG.out.2.x
        have hO := (HD.out _ HG.out.1).2.2.2.2
        obtain ⟨z0, z1⟩ := cel2k hO
        have f0 := hO.frozen 0
        have f1 := hO.frozen 1
        have hE := (hO.set 0 (.slice a1 ks.length d1)).set 1 (.slice a6 L.length c6)
        have hb9 : Below w.heap.size w6 ((w6.setCell ⟨h2, 0, none⟩ (.slice a1 ks.length d1)).setCell ⟨h2, 1, none⟩ (.slice a6 L.length c6)) := esetC_below h2 w.heap.size HH.out.1 0 [.slice a1 ks.length d1, .slice a6 L.length c6] w6
        have hz9 : ((w6.setCell ⟨h2, 0, none⟩ (.slice a1 ks.length d1)).setCell ⟨h2, 1, none⟩ (.slice a6 L.length c6)).heap.size = w6.heap.size := esetC_size h2 0 [.slice a1 ks.length d1, .slice a6 L.length c6] w6
        have HE := Lib.hid (And.intro hE (And.intro hb9 hz9))
        clear hO hE hb9 hz9
        go_wp2_with (fail)
        refine bodyPost_ret (Cel.result HE.out.1 rfl _ rfl Try.underlying27 rfl (by show _ = some 2; kernel_rfl)) rfl ?_
        rw [HL.out]
        refine ⟨_, _, _, _, rfl, ?_, (HD.out _ HG.out.1).1.trans HE.out.2.1⟩
        rw [HE.out.2.2]
        have ho := HG.out.2.o
        have hz := (HD.out W0 (Below.refl _ _)).1.size
        exact ⟨(own_other (own_other ho.k HH.out.2 _) HH.out.2 _).mono hz (Nat.le_refl _), (own_other (own_other ho.t HH.out.2 _) HH.out.2 _).mono hz (Nat.le_refl _), ho.sep⟩
      · have HL := Lib.hid (show learnTs ks ts t = ts from by simp [learnTs, hok, h300])
        have q3 : ¬ (ts.length : Int) < 300 := by omega
        clear hok
        obtain ⟨x0, x1⟩ := cel2k HX.out.2.x
        have hO := (HD.out _ HX.out.1).2.2.2.2
        obtain ⟨z0, z1⟩ := cel2k hO
        have f0 := hO.frozen 0
        have f1 := hO.frozen 1
        have hE := (hO.set 0 (.slice a1 ks.length d1)).set 1 (.slice a2 ts.length d2)
        have hb9 : Below w.heap.size w2 ((w2.setCell ⟨h2, 0, none⟩ (.slice a1 ks.length d1)).setCell ⟨h2, 1, none⟩ (.slice a2 ts.length d2)) := esetC_below h2 w.heap.size HH.out.1 0 [.slice a1 ks.length d1, .slice a2 ts.length d2] w2
        have hz9 : ((w2.setCell ⟨h2, 0, none⟩ (.slice a1 ks.length d1)).setCell ⟨h2, 1, none⟩ (.slice a2 ts.length d2)).heap.size = w2.heap.size := esetC_size h2 0 [.slice a1 ks.length d1, .slice a2 ts.length d2] w2
        have HE := Lib.hid (And.intro hE (And.intro hb9 hz9))
        clear hO hE hb9 hz9
        go_wp2_with (fail)
        refine bodyPost_ret (Cel.result HE.out.1 rfl _ rfl Try.underlying27 rfl (by show _ = some 2; kernel_rfl)) rfl ?_
        rw [HL.out]
        refine ⟨_, _, _, _, rfl, ?_, (HD.out _ HX.out.1).1.trans HE.out.2.1⟩
        rw [HE.out.2.2]
        have ho := HX.out.2.o
        have hz := (HD.out W0 (Below.refl _ _)).1.size
        exact ⟨(own_other (own_other ho.k HH.out.2 _) HH.out.2 _).mono hz (Nat.le_refl _), (own_other (own_other ho.t HH.out.2 _) HH.out.2 _).mono hz (Nat.le_refl _), ho.sep⟩
  refine wp_region_held_drew (S := fun W => Below W0.heap.size W0 W) (by kernel_rfl) hS (fun hHeld => ?_)
  clear hS
  generalize W0.drew = wd at *
  refine take_yes (i := 1) (oi := { dst := some 7, op := Op.fieldAddr 27 (Operand.tmp 2) 0, type := 0, pos := "l15_tags.go:39", after := #[], guard := none }) (v := .pointer (some ⟨w.heap.size, 0, none⟩)) rfl (by kernel_rfl) (by kernel_rfl) (by kernel_rfl) (fun _ _ _ h => h) (by rfl) (fun w hSw => by (try dsimp only at hSw); go_simp) (by assumption) ?_
  try simp only [Act.put, List.setIfInBounds_toArray, List.set_cons_zero, List.set_cons_succ]
  refine take_yes (i := 2) (oi := { dst := some 8, op := Op.load 24 (Operand.tmp 7), type := 24, pos := "l15_tags.go:39", after := #[{ on := 1, ground := Ground.data }], guard := none }) (v := .slice ka ks.length kc) rfl (by kernel_rfl) (by kernel_rfl) (by kernel_rfl) (fun _ _ _ h => h) (by rfl) (fun w hSw => by (try dsimp only at hSw); obtain ⟨-, -, ⟨c0, c1⟩, -, -⟩ := HD.out _ hSw; go_simp) (by assumption) ?_
  try simp only [Act.put, List.setIfInBounds_toArray, List.set_cons_zero, List.set_cons_succ]
  refine take_yes (i := 5) (oi := { dst := some 11, op := Op.fieldAddr 27 (Operand.tmp 2) 1, type := 0, pos := "l15_tags.go:39", after := #[], guard := none }) (v := .pointer (some ⟨w.heap.size, 1, none⟩)) rfl (by kernel_rfl) (by kernel_rfl) (by kernel_rfl) (fun _ _ _ h => h) (by rfl) (fun w hSw => by (try dsimp only at hSw); go_simp) (by assumption) ?_
  try simp only [Act.put, List.setIfInBounds_toArray, List.set_cons_zero, List.set_cons_succ]
  refine take_yes (i := 6) (oi := { dst := some 12, op := Op.load 25 (Operand.tmp 11), type := 25, pos := "l15_tags.go:39", after := #[{ on := 5, ground := Ground.data }], guard := none }) (v := .slice ta ts.length tc) rfl (by kernel_rfl) (by kernel_rfl) (by kernel_rfl) (fun _ _ _ h => h) (by rfl) (fun w hSw => by (try dsimp only at hSw); obtain ⟨-, -, ⟨c0, c1⟩, -, -⟩ := HD.out _ hSw; go_simp) (by assumption) ?_
  try simp only [Act.put, List.setIfInBounds_toArray, List.set_cons_zero, List.set_cons_succ]
  refine wpAnyH_ready (rs := [0, 4, 9]) (by kernel_rfl) (by simp) ?_
  refine AllReadyH.cons (o := { dst := some 6, op := Op.buildSlice 24 0 #[], type := 24, pos := "l15_tags.go:39", after := #[], guard := none }) rfl (fun K hK => ?_) ?_
  · go_simp
    have KK2 := Below.then_ hHeld (below_new wd (.cells #[] 3))
    have HN1 := Lib.hid (ln_ints HN.out)
    clear HN
    generalize wd.heap.size = g3 at *
    generalize wd.alloc (.cells #[] 3) = wx4 at *
    refine hK.out _ _ KK2 (fun hHeldN => ?_)
    clear hK K hHeld
    have hHeld := hHeldN
    clear hHeldN
    try simp only [Act.put, List.setIfInBounds_toArray, List.set_cons_zero, List.set_cons_succ]
    refine wpAnyH_ready (rs := [3, 4, 9]) (by kernel_rfl) (by simp) ?_
    refine AllReadyH.cons (o := { dst := some 9, op := Op.call { callee := Callee.builtin Builtin.append, args := #[Operand.tmp 6, Operand.tmp 8], argTypes := #[24, 24] }, type := 24, pos := "l15_tags.go:39", after := #[{ on := 0, ground := Ground.data }, { on := 2, ground := Ground.data }], guard := none }) rfl (fun K hK => ?_) ?_
    · refine step_append_els intK rfl _ _ 24 24 rfl Try.underlying24 Try.underlying24 W0.heap.size (.slice (some ⟨g3, 0, none⟩) 0 0) (.slice ka ks.length kc) [] ks (by simp [Act.eval, Act.put]) (by simp [Act.eval, Act.put]) HN1.out.o.k hHeld.size (HD.out _ hHeld).2.1.k (by simp; omega) ?_
      intro v' wx7 hown hgrow hloc
      rw [List.nil_append] at hown
      have KK6 := ebelow_grown hHeld hHeld.size hgrow (fun g hg => (HN1.out.o.k.block g hg).1)
      have HN5 := Lib.hid (ln_gi HN1.out hown hgrow hloc)
      obtain ⟨a8, c9, rfl, -⟩ := hown.form
      clear hown hgrow hloc HN1
      refine hK.out _ _ KK6 (fun hHeldN => ?_)
      clear hK K hHeld
      have hHeld := hHeldN
      clear hHeldN
      try simp only [Act.put, List.setIfInBounds_toArray, List.set_cons_zero, List.set_cons_succ]
      refine wpAnyH_ready (rs := [4, 9]) (by kernel_rfl) (by simp) ?_
      refine AllReadyH.cons (o := { dst := some 10, op := Op.buildSlice 25 0 #[], type := 25, pos := "l15_tags.go:39", after := #[], guard := none }) rfl (fun K hK => ?_) ?_
      · go_simp
        have KK11 := Below.then_ hHeld (below_new wx7 (.cells #[] 29))
        have HN10 := Lib.hid (ln_tags HN5.out)
        clear HN5
        generalize wx7.heap.size = g12 at *
        generalize wx7.alloc (.cells #[] 29) = wx13 at *
        refine hK.out _ _ KK11 (fun hHeldN => ?_)
        clear hK K hHeld
        have hHeld := hHeldN
        clear hHeldN
        try simp only [Act.put, List.setIfInBounds_toArray, List.set_cons_zero, List.set_cons_succ]
        refine wpAnyH_ready (rs := [7, 9]) (by kernel_rfl) (by simp) ?_
        refine AllReadyH.cons (o := { dst := some 13, op := Op.call { callee := Callee.builtin Builtin.append, args := #[Operand.tmp 10, Operand.tmp 12], argTypes := #[25, 25] }, type := 25, pos := "l15_tags.go:39", after := #[{ on := 4, ground := Ground.data }, { on := 6, ground := Ground.data }, { on := 3, ground := Ground.chain }], guard := none }) rfl (fun K hK => ?_) ?_
        · refine step_append_els tvK rfl _ _ 25 25 rfl uTv uTv W0.heap.size (.slice (some ⟨g12, 0, none⟩) 0 0) (.slice ta ts.length tc) [] ts (by simp [Act.eval, Act.put]) (by simp [Act.eval, Act.put]) HN10.out.o.t hHeld.size (HD.out _ hHeld).2.1.t (by simp; omega) ?_
          intro v' wx16 hown hgrow hloc
          rw [List.nil_append] at hown
          have KK15 := ebelow_grown hHeld hHeld.size hgrow (fun g hg => (HN10.out.o.t.block g hg).1)
          have HN14 := Lib.hid (ln_gt HN10.out hown hgrow hloc)
          obtain ⟨a17, c18, rfl, -⟩ := hown.form
          clear hown hgrow hloc HN10
          refine hK.out _ _ KK15 (fun hHeldN => ?_)
          clear hK K hHeld
          have hHeld := hHeldN
          clear hHeldN
          try simp only [Act.put, List.setIfInBounds_toArray, List.set_cons_zero, List.set_cons_succ]
          refine take_yes (i := 8) (oi := { dst := some 14, op := Op.build 27 #[(0, Operand.tmp 9), (1, Operand.tmp 13)], type := 27, pos := "l15_tags.go:39", after := #[{ on := 3, ground := Ground.data }, { on := 7, ground := Ground.data }], guard := none }) (v := .agg #[.slice a8 ks.length c9, .slice a17 ts.length c18]) rfl (by kernel_rfl) (by kernel_rfl) (by kernel_rfl) (fun _ _ _ h => h) (by rfl) (fun w hSw => by (try dsimp only at hSw); go_simp) (by assumption) ?_
          try simp only [Act.put, List.setIfInBounds_toArray, List.set_cons_zero, List.set_cons_succ]
          refine wpAnyH_ready (rs := [9]) (by kernel_rfl) (by simp) ?_
          refine AllReadyH.cons (o := { dst := some 5, op := Op.alloc 27, type := 0, pos := "l15_tags.go:39", after := #[], guard := none }) rfl (fun K hK => ?_) AllReadyH.nil
          go_simp
          have KK20 := Below.then_ hHeld (below_new wx16 (.cells #[.slice none 0 0, .slice none 0 0] 27))
          have HN19 := Lib.hid (ln_box HN14.out)
          clear HN14
          generalize wx16.heap.size = g21 at *
          generalize wx16.alloc (.cells #[.slice none 0 0, .slice none 0 0] 27) = wx22 at *
          refine hK.out _ _ KK20 (fun hHeldN => ?_)
          clear hK K hHeld
          have hHeld := hHeldN
          clear hHeldN
          try simp only [Act.put, List.setIfInBounds_toArray, List.set_cons_zero, List.set_cons_succ]
          refine wpAnyH_ready (rs := [10]) (by kernel_rfl) (by simp) ?_
          refine AllReadyH.cons (o := { dst := none, op := Op.store 27 (Operand.tmp 5) (Operand.tmp 14), type := 0, pos := "l15_tags.go:39", after := #[{ on := 9, ground := Ground.data }, { on := 8, ground := Ground.data }, { on := 7, ground := Ground.chain }, { on := 0, ground := Ground.phase }, { on := 1, ground := Ground.phase }, { on := 2, ground := Ground.phase }, { on := 3, ground := Ground.phase }, { on := 4, ground := Ground.phase }, { on := 5, ground := Ground.phase }, { on := 6, ground := Ground.phase }, { on := 7, ground := Ground.phase }, { on := 8, ground := Ground.phase }, { on := 9, ground := Ground.phase }], guard := none }) rfl (fun K hK => ?_) AllReadyH.nil
          have hx := HN19.out.x rfl
          obtain ⟨x0, x1⟩ := cel2k hx.1
          have f0 := hx.1.frozen 0
          have f1 := hx.1.frozen 1
          go_simp
          have KK24 : Below W0.heap.size W0 ((wx22.setCell ⟨g21, 0, none⟩ (.slice a8 ks.length c9)).setCell ⟨g21, 1, none⟩ (.slice a17 ts.length c18)) := hHeld.trans (esetC_below g21 W0.heap.size hx.2.1 0 [.slice a8 ks.length c9, .slice a17 ts.length c18] wx22)
          have HF23 := Lib.hid (ln_put HN19.out)
          clear x0 x1 f0 f1 hx HN19
          generalize ((wx22.setCell ⟨g21, 0, none⟩ (.slice a8 ks.length c9)).setCell ⟨g21, 1, none⟩ (.slice a17 ts.length c18)) = w9 at *
          refine hK.out _ _ KK24 (fun hHeldN => ?_)
          clear hK K hHeld
          have hHeld := hHeldN
          clear hHeldN
          try simp only [Act.put, List.setIfInBounds_toArray, List.set_cons_zero, List.set_cons_succ]
          refine wpAnyH_done (by kernel_rfl) ?_ _
          have hHeld2 := hHeld
          clear hHeld
          exact REST _ _ _ _ _ _ _ _ hHeld2 HF23.out
        refine AllReadyH.cons (o := { dst := some 5, op := Op.alloc 27, type := 0, pos := "l15_tags.go:39", after := #[], guard := none }) rfl (fun K hK => ?_) AllReadyH.nil
        go_simp
        have KK26 := Below.then_ hHeld (below_new wx13 (.cells #[.slice none 0 0, .slice none 0 0] 27))
        have HN25 := Lib.hid (ln_box HN10.out)
        clear HN10
        generalize wx13.heap.size = g27 at *
        generalize wx13.alloc (.cells #[.slice none 0 0, .slice none 0 0] 27) = wx28 at *
        refine hK.out _ _ KK26 (fun hHeldN => ?_)
        clear hK K hHeld
        have hHeld := hHeldN
        clear hHeldN
        try simp only [Act.put, List.setIfInBounds_toArray, List.set_cons_zero, List.set_cons_succ]
        refine wpAnyH_ready (rs := [7]) (by kernel_rfl) (by simp) ?_
        refine AllReadyH.cons (o := { dst := some 13, op := Op.call { callee := Callee.builtin Builtin.append, args := #[Operand.tmp 10, Operand.tmp 12], argTypes := #[25, 25] }, type := 25, pos := "l15_tags.go:39", after := #[{ on := 4, ground := Ground.data }, { on := 6, ground := Ground.data }, { on := 3, ground := Ground.chain }], guard := none }) rfl (fun K hK => ?_) AllReadyH.nil
        refine step_append_els tvK rfl _ _ 25 25 rfl uTv uTv W0.heap.size (.slice (some ⟨g12, 0, none⟩) 0 0) (.slice ta ts.length tc) [] ts (by simp [Act.eval, Act.put]) (by simp [Act.eval, Act.put]) HN25.out.o.t hHeld.size (HD.out _ hHeld).2.1.t (by simp; omega) ?_
        intro v' wx31 hown hgrow hloc
        rw [List.nil_append] at hown
        have KK30 := ebelow_grown hHeld hHeld.size hgrow (fun g hg => (HN25.out.o.t.block g hg).1)
        have HN29 := Lib.hid (ln_gt HN25.out hown hgrow hloc)
        obtain ⟨a32, c33, rfl, -⟩ := hown.form
        clear hown hgrow hloc HN25
        refine hK.out _ _ KK30 (fun hHeldN => ?_)
        clear hK K hHeld
        have hHeld := hHeldN
        clear hHeldN
        try simp only [Act.put, List.setIfInBounds_toArray, List.set_cons_zero, List.set_cons_succ]
        refine take_yes (i := 8) (oi := { dst := some 14, op := Op.build 27 #[(0, Operand.tmp 9), (1, Operand.tmp 13)], type := 27, pos := "l15_tags.go:39", after := #[{ on := 3, ground := Ground.data }, { on := 7, ground := Ground.data }], guard := none }) (v := .agg #[.slice a8 ks.length c9, .slice a32 ts.length c33]) rfl (by kernel_rfl) (by kernel_rfl) (by kernel_rfl) (fun _ _ _ h => h) (by rfl) (fun w hSw => by (try dsimp only at hSw); go_simp) (by assumption) ?_
        try simp only [Act.put, List.setIfInBounds_toArray, List.set_cons_zero, List.set_cons_succ]
        refine wpAnyH_ready (rs := [10]) (by kernel_rfl) (by simp) ?_
        refine AllReadyH.cons (o := { dst := none, op := Op.store 27 (Operand.tmp 5) (Operand.tmp 14), type := 0, pos := "l15_tags.go:39", after := #[{ on := 9, ground := Ground.data }, { on := 8, ground := Ground.data }, { on := 7, ground := Ground.chain }, { on := 0, ground := Ground.phase }, { on := 1, ground := Ground.phase }, { on := 2, ground := Ground.phase }, { on := 3, ground := Ground.phase }, { on := 4, ground := Ground.phase }, { on := 5, ground := Ground.phase }, { on := 6, ground := Ground.phase }, { on := 7, ground := Ground.phase }, { on := 8, ground := Ground.phase }, { on := 9, ground := Ground.phase }], guard := none }) rfl (fun K hK => ?_) AllReadyH.nil
        have hx := HN29.out.x rfl
        obtain ⟨x0, x1⟩ := cel2k hx.1
        have f0 := hx.1.frozen 0
        have f1 := hx.1.frozen 1
        go_simp
        have KK35 : Below W0.heap.size W0 ((wx31.setCell ⟨g27, 0, none⟩ (.slice a8 ks.length c9)).setCell ⟨g27, 1, none⟩ (.slice a32 ts.length c33)) := hHeld.trans (esetC_below g27 W0.heap.size hx.2.1 0 [.slice a8 ks.length c9, .slice a32 ts.length c33] wx31)
        have HF34 := Lib.hid (ln_put HN29.out)
        clear x0 x1 f0 f1 hx HN29
        generalize ((wx31.setCell ⟨g27, 0, none⟩ (.slice a8 ks.length c9)).setCell ⟨g27, 1, none⟩ (.slice a32 ts.length c33)) = w9 at *
        refine hK.out _ _ KK35 (fun hHeldN => ?_)
        clear hK K hHeld
        have hHeld := hHeldN
        clear hHeldN
        try simp only [Act.put, List.setIfInBounds_toArray, List.set_cons_zero, List.set_cons_succ]
        refine wpAnyH_done (by kernel_rfl) ?_ _
        have hHeld2 := hHeld
        clear hHeld
        exact REST _ _ _ _ _ _ _ _ hHeld2 HF34.out
      refine AllReadyH.cons (o := { dst := some 5, op := Op.alloc 27, type := 0, pos := "l15_tags.go:39", after := #[], guard := none }) rfl (fun K hK => ?_) AllReadyH.nil
      go_simp
      have KK37 := Below.then_ hHeld (below_new wx7 (.cells #[.slice none 0 0, .slice none 0 0] 27))
      have HN36 := Lib.hid (ln_box HN5.out)
      clear HN5
      generalize wx7.heap.size = g38 at *
      generalize wx7.alloc (.cells #[.slice none 0 0, .slice none 0 0] 27) = wx39 at *
      refine hK.out _ _ KK37 (fun hHeldN => ?_)
      clear hK K hHeld
      have hHeld := hHeldN
      clear hHeldN
      try simp only [Act.put, List.setIfInBounds_toArray, List.set_cons_zero, List.set_cons_succ]
      refine wpAnyH_ready (rs := [4]) (by kernel_rfl) (by simp) ?_
      refine AllReadyH.cons (o := { dst := some 10, op := Op.buildSlice 25 0 #[], type := 25, pos := "l15_tags.go:39", after := #[], guard := none }) rfl (fun K hK => ?_) AllReadyH.nil
      go_simp
      have KK41 := Below.then_ hHeld (below_new wx39 (.cells #[] 29))
      have HN40 := Lib.hid (ln_tags HN36.out)
      clear HN36
      generalize wx39.heap.size = g42 at *
      generalize wx39.alloc (.cells #[] 29) = wx43 at *
      refine hK.out _ _ KK41 (fun hHeldN => ?_)
      clear hK K hHeld
      have hHeld := hHeldN
      clear hHeldN
      try simp only [Act.put, List.setIfInBounds_toArray, List.set_cons_zero, List.set_cons_succ]
      refine wpAnyH_ready (rs := [7]) (by kernel_rfl) (by simp) ?_
      refine AllReadyH.cons (o := { dst := some 13, op := Op.call { callee := Callee.builtin Builtin.append, args := #[Operand.tmp 10, Operand.tmp 12], argTypes := #[25, 25] }, type := 25, pos := "l15_tags.go:39", after := #[{ on := 4, ground := Ground.data }, { on := 6, ground := Ground.data }, { on := 3, ground := Ground.chain }], guard := none }) rfl (fun K hK => ?_) AllReadyH.nil
      refine step_append_els tvK rfl _ _ 25 25 rfl uTv uTv W0.heap.size (.slice (some ⟨g42, 0, none⟩) 0 0) (.slice ta ts.length tc) [] ts (by simp [Act.eval, Act.put]) (by simp [Act.eval, Act.put]) HN40.out.o.t hHeld.size (HD.out _ hHeld).2.1.t (by simp; omega) ?_
      intro v' wx46 hown hgrow hloc
      rw [List.nil_append] at hown
      have KK45 := ebelow_grown hHeld hHeld.size hgrow (fun g hg => (HN40.out.o.t.block g hg).1)
      have HN44 := Lib.hid (ln_gt HN40.out hown hgrow hloc)
      obtain ⟨a47, c48, rfl, -⟩ := hown.form
      clear hown hgrow hloc HN40
      refine hK.out _ _ KK45 (fun hHeldN => ?_)
      clear hK K hHeld
      have hHeld := hHeldN
      clear hHeldN
      try simp only [Act.put, List.setIfInBounds_toArray, List.set_cons_zero, List.set_cons_succ]
      refine take_yes (i := 8) (oi := { dst := some 14, op := Op.build 27 #[(0, Operand.tmp 9), (1, Operand.tmp 13)], type := 27, pos := "l15_tags.go:39", after := #[{ on := 3, ground := Ground.data }, { on := 7, ground := Ground.data }], guard := none }) (v := .agg #[.slice a8 ks.length c9, .slice a47 ts.length c48]) rfl (by kernel_rfl) (by kernel_rfl) (by kernel_rfl) (fun _ _ _ h => h) (by rfl) (fun w hSw => by (try dsimp only at hSw); go_simp) (by assumption) ?_
      try simp only [Act.put, List.setIfInBounds_toArray, List.set_cons_zero, List.set_cons_succ]
      refine wpAnyH_ready (rs := [10]) (by kernel_rfl) (by simp) ?_
      refine AllReadyH.cons (o := { dst := none, op := Op.store 27 (Operand.tmp 5) (Operand.tmp 14), type := 0, pos := "l15_tags.go:39", after := #[{ on := 9, ground := Ground.data }, { on := 8, ground := Ground.data }, { on := 7, ground := Ground.chain }, { on := 0, ground := Ground.phase }, { on := 1, ground := Ground.phase }, { on := 2, ground := Ground.phase }, { on := 3, ground := Ground.phase }, { on := 4, ground := Ground.phase }, { on := 5, ground := Ground.phase }, { on := 6, ground := Ground.phase }, { on := 7, ground := Ground.phase }, { on := 8, ground := Ground.phase }, { on := 9, ground := Ground.phase }], guard := none }) rfl (fun K hK => ?_) AllReadyH.nil
      have hx := HN44.out.x rfl
      obtain ⟨x0, x1⟩ := cel2k hx.1
      have f0 := hx.1.frozen 0
      have f1 := hx.1.frozen 1
      go_simp
      have KK50 : Below W0.heap.size W0 ((wx46.setCell ⟨g38, 0, none⟩ (.slice a8 ks.length c9)).setCell ⟨g38, 1, none⟩ (.slice a47 ts.length c48)) := hHeld.trans (esetC_below g38 W0.heap.size hx.2.1 0 [.slice a8 ks.length c9, .slice a47 ts.length c48] wx46)
      have HF49 := Lib.hid (ln_put HN44.out)
      clear x0 x1 f0 f1 hx HN44
      generalize ((wx46.setCell ⟨g38, 0, none⟩ (.slice a8 ks.length c9)).setCell ⟨g38, 1, none⟩ (.slice a47 ts.length c48)) = w9 at *
      refine hK.out _ _ KK50 (fun hHeldN => ?_)
      clear hK K hHeld
      have hHeld := hHeldN
      clear hHeldN
      try simp only [Act.put, List.setIfInBounds_toArray, List.set_cons_zero, List.set_cons_succ]
      refine wpAnyH_done (by kernel_rfl) ?_ _
      have hHeld2 := hHeld
      clear hHeld
      exact REST _ _ _ _ _ _ _ _ hHeld2 HF49.out
    refine AllReadyH.cons (o := { dst := some 10, op := Op.buildSlice 25 0 #[], type := 25, pos := "l15_tags.go:39", after := #[], guard := none }) rfl (fun K hK => ?_) ?_
    · go_simp
      have KK52 := Below.then_ hHeld (below_new wx4 (.cells #[] 29))
      have HN51 := Lib.hid (ln_tags HN1.out)
      clear HN1
      generalize wx4.heap.size = g53 at *
      generalize wx4.alloc (.cells #[] 29) = wx54 at *
      refine hK.out _ _ KK52 (fun hHeldN => ?_)
      clear hK K hHeld
      have hHeld := hHeldN
      clear hHeldN
      try simp only [Act.put, List.setIfInBounds_toArray, List.set_cons_zero, List.set_cons_succ]
      refine wpAnyH_ready (rs := [3, 9]) (by kernel_rfl) (by simp) ?_
      refine AllReadyH.cons (o := { dst := some 9, op := Op.call { callee := Callee.builtin Builtin.append, args := #[Operand.tmp 6, Operand.tmp 8], argTypes := #[24, 24] }, type := 24, pos := "l15_tags.go:39", after := #[{ on := 0, ground := Ground.data }, { on := 2, ground := Ground.data }], guard := none }) rfl (fun K hK => ?_) ?_
      · refine step_append_els intK rfl _ _ 24 24 rfl Try.underlying24 Try.underlying24 W0.heap.size (.slice (some ⟨g3, 0, none⟩) 0 0) (.slice ka ks.length kc) [] ks (by simp [Act.eval, Act.put]) (by simp [Act.eval, Act.put]) HN51.out.o.k hHeld.size (HD.out _ hHeld).2.1.k (by simp; omega) ?_
        intro v' wx57 hown hgrow hloc
        rw [List.nil_append] at hown
        have KK56 := ebelow_grown hHeld hHeld.size hgrow (fun g hg => (HN51.out.o.k.block g hg).1)
        have HN55 := Lib.hid (ln_gi HN51.out hown hgrow hloc)
        obtain ⟨a58, c59, rfl, -⟩ := hown.form
        clear hown hgrow hloc HN51
        refine hK.out _ _ KK56 (fun hHeldN => ?_)
        clear hK K hHeld
        have hHeld := hHeldN
        clear hHeldN
        try simp only [Act.put, List.setIfInBounds_toArray, List.set_cons_zero, List.set_cons_succ]
        refine wpAnyH_ready (rs := [7, 9]) (by kernel_rfl) (by simp) ?_
        refine AllReadyH.cons (o := { dst := some 13, op := Op.call { callee := Callee.builtin Builtin.append, args := #[Operand.tmp 10, Operand.tmp 12], argTypes := #[25, 25] }, type := 25, pos := "l15_tags.go:39", after := #[{ on := 4, ground := Ground.data }, { on := 6, ground := Ground.data }, { on := 3, ground := Ground.chain }], guard := none }) rfl (fun K hK => ?_) ?_
        · refine step_append_els tvK rfl _ _ 25 25 rfl uTv uTv W0.heap.size (.slice (some ⟨g53, 0, none⟩) 0 0) (.slice ta ts.length tc) [] ts (by simp [Act.eval, Act.put]) (by simp [Act.eval, Act.put]) HN55.out.o.t hHeld.size (HD.out _ hHeld).2.1.t (by simp; omega) ?_
          intro v' wx62 hown hgrow hloc
          rw [List.nil_append] at hown
          have KK61 := ebelow_grown hHeld hHeld.size hgrow (fun g hg => (HN55.out.o.t.block g hg).1)
          have HN60 := Lib.hid (ln_gt HN55.out hown hgrow hloc)
          obtain ⟨a63, c64, rfl, -⟩ := hown.form
          clear hown hgrow hloc HN55
          refine hK.out _ _ KK61 (fun hHeldN => ?_)
          clear hK K hHeld
          have hHeld := hHeldN
          clear hHeldN
          try simp only [Act.put, List.setIfInBounds_toArray, List.set_cons_zero, List.set_cons_succ]
          refine take_yes (i := 8) (oi := { dst := some 14, op := Op.build 27 #[(0, Operand.tmp 9), (1, Operand.tmp 13)], type := 27, pos := "l15_tags.go:39", after := #[{ on := 3, ground := Ground.data }, { on := 7, ground := Ground.data }], guard := none }) (v := .agg #[.slice a58 ks.length c59, .slice a63 ts.length c64]) rfl (by kernel_rfl) (by kernel_rfl) (by kernel_rfl) (fun _ _ _ h => h) (by rfl) (fun w hSw => by (try dsimp only at hSw); go_simp) (by assumption) ?_
          try simp only [Act.put, List.setIfInBounds_toArray, List.set_cons_zero, List.set_cons_succ]
          refine wpAnyH_ready (rs := [9]) (by kernel_rfl) (by simp) ?_
          refine AllReadyH.cons (o := { dst := some 5, op := Op.alloc 27, type := 0, pos := "l15_tags.go:39", after := #[], guard := none }) rfl (fun K hK => ?_) AllReadyH.nil
          go_simp
          have KK66 := Below.then_ hHeld (below_new wx62 (.cells #[.slice none 0 0, .slice none 0 0] 27))
          have HN65 := Lib.hid (ln_box HN60.out)
          clear HN60
          generalize wx62.heap.size = g67 at *
          generalize wx62.alloc (.cells #[.slice none 0 0, .slice none 0 0] 27) = wx68 at *
          refine hK.out _ _ KK66 (fun hHeldN => ?_)
          clear hK K hHeld
          have hHeld := hHeldN
          clear hHeldN
          try simp only [Act.put, List.setIfInBounds_toArray, List.set_cons_zero, List.set_cons_succ]
          refine wpAnyH_ready (rs := [10]) (by kernel_rfl) (by simp) ?_
          refine AllReadyH.cons (o := { dst := none, op := Op.store 27 (Operand.tmp 5) (Operand.tmp 14), type := 0, pos := "l15_tags.go:39", after := #[{ on := 9, ground := Ground.data }, { on := 8, ground := Ground.data }, { on := 7, ground := Ground.chain }, { on := 0, ground := Ground.phase }, { on := 1, ground := Ground.phase }, { on := 2, ground := Ground.phase }, { on := 3, ground := Ground.phase }, { on := 4, ground := Ground.phase }, { on := 5, ground := Ground.phase }, { on := 6, ground := Ground.phase }, { on := 7, ground := Ground.phase }, { on := 8, ground := Ground.phase }, { on := 9, ground := Ground.phase }], guard := none }) rfl (fun K hK => ?_) AllReadyH.nil
          have hx := HN65.out.x rfl
          obtain ⟨x0, x1⟩ := cel2k hx.1
          have f0 := hx.1.frozen 0
          have f1 := hx.1.frozen 1
          go_simp
          have KK70 : Below W0.heap.size W0 ((wx68.setCell ⟨g67, 0, none⟩ (.slice a58 ks.length c59)).setCell ⟨g67, 1, none⟩ (.slice a63 ts.length c64)) := hHeld.trans (esetC_below g67 W0.heap.size hx.2.1 0 [.slice a58 ks.length c59, .slice a63 ts.length c64] wx68)
          have HF69 := Lib.hid (ln_put HN65.out)
          clear x0 x1 f0 f1 hx HN65
          generalize ((wx68.setCell ⟨g67, 0, none⟩ (.slice a58 ks.length c59)).setCell ⟨g67, 1, none⟩ (.slice a63 ts.length c64)) = w9 at *
          refine hK.out _ _ KK70 (fun hHeldN => ?_)
          clear hK K hHeld
          have hHeld := hHeldN
          clear hHeldN
          try simp only [Act.put, List.setIfInBounds_toArray, List.set_cons_zero, List.set_cons_succ]
          refine wpAnyH_done (by kernel_rfl) ?_ _
          have hHeld2 := hHeld
          clear hHeld
          exact REST _ _ _ _ _ _ _ _ hHeld2 HF69.out
        refine AllReadyH.cons (o := { dst := some 5, op := Op.alloc 27, type := 0, pos := "l15_tags.go:39", after := #[], guard := none }) rfl (fun K hK => ?_) AllReadyH.nil
        go_simp
        have KK72 := Below.then_ hHeld (below_new wx57 (.cells #[.slice none 0 0, .slice none 0 0] 27))
        have HN71 := Lib.hid (ln_box HN55.out)
        clear HN55
        generalize wx57.heap.size = g73 at *
        generalize wx57.alloc (.cells #[.slice none 0 0, .slice none 0 0] 27) = wx74 at *
        refine hK.out _ _ KK72 (fun hHeldN => ?_)
        clear hK K hHeld
        have hHeld := hHeldN
        clear hHeldN
        try simp only [Act.put, List.setIfInBounds_toArray, List.set_cons_zero, List.set_cons_succ]
        refine wpAnyH_ready (rs := [7]) (by kernel_rfl) (by simp) ?_
        refine AllReadyH.cons (o := { dst := some 13, op := Op.call { callee := Callee.builtin Builtin.append, args := #[Operand.tmp 10, Operand.tmp 12], argTypes := #[25, 25] }, type := 25, pos := "l15_tags.go:39", after := #[{ on := 4, ground := Ground.data }, { on := 6, ground := Ground.data }, { on := 3, ground := Ground.chain }], guard := none }) rfl (fun K hK => ?_) AllReadyH.nil
        refine step_append_els tvK rfl _ _ 25 25 rfl uTv uTv W0.heap.size (.slice (some ⟨g53, 0, none⟩) 0 0) (.slice ta ts.length tc) [] ts (by simp [Act.eval, Act.put]) (by simp [Act.eval, Act.put]) HN71.out.o.t hHeld.size (HD.out _ hHeld).2.1.t (by simp; omega) ?_
        intro v' wx77 hown hgrow hloc
        rw [List.nil_append] at hown
        have KK76 := ebelow_grown hHeld hHeld.size hgrow (fun g hg => (HN71.out.o.t.block g hg).1)
        have HN75 := Lib.hid (ln_gt HN71.out hown hgrow hloc)
        obtain ⟨a78, c79, rfl, -⟩ := hown.form
        clear hown hgrow hloc HN71
        refine hK.out _ _ KK76 (fun hHeldN => ?_)
        clear hK K hHeld
        have hHeld := hHeldN
        clear hHeldN
        try simp only [Act.put, List.setIfInBounds_toArray, List.set_cons_zero, List.set_cons_succ]
        refine take_yes (i := 8) (oi := { dst := some 14, op := Op.build 27 #[(0, Operand.tmp 9), (1, Operand.tmp 13)], type := 27, pos := "l15_tags.go:39", after := #[{ on := 3, ground := Ground.data }, { on := 7, ground := Ground.data }], guard := none }) (v := .agg #[.slice a58 ks.length c59, .slice a78 ts.length c79]) rfl (by kernel_rfl) (by kernel_rfl) (by kernel_rfl) (fun _ _ _ h => h) (by rfl) (fun w hSw => by (try dsimp only at hSw); go_simp) (by assumption) ?_
        try simp only [Act.put, List.setIfInBounds_toArray, List.set_cons_zero, List.set_cons_succ]
        refine wpAnyH_ready (rs := [10]) (by kernel_rfl) (by simp) ?_
        refine AllReadyH.cons (o := { dst := none, op := Op.store 27 (Operand.tmp 5) (Operand.tmp 14), type := 0, pos := "l15_tags.go:39", after := #[{ on := 9, ground := Ground.data }, { on := 8, ground := Ground.data }, { on := 7, ground := Ground.chain }, { on := 0, ground := Ground.phase }, { on := 1, ground := Ground.phase }, { on := 2, ground := Ground.phase }, { on := 3, ground := Ground.phase }, { on := 4, ground := Ground.phase }, { on := 5, ground := Ground.phase }, { on := 6, ground := Ground.phase }, { on := 7, ground := Ground.phase }, { on := 8, ground := Ground.phase }, { on := 9, ground := Ground.phase }], guard := none }) rfl (fun K hK => ?_) AllReadyH.nil
        have hx := HN75.out.x rfl
        obtain ⟨x0, x1⟩ := cel2k hx.1
        have f0 := hx.1.frozen 0
        have f1 := hx.1.frozen 1
        go_simp
        have KK81 : Below W0.heap.size W0 ((wx77.setCell ⟨g73, 0, none⟩ (.slice a58 ks.length c59)).setCell ⟨g73, 1, none⟩ (.slice a78 ts.length c79)) := hHeld.trans (esetC_below g73 W0.heap.size hx.2.1 0 [.slice a58 ks.length c59, .slice a78 ts.length c79] wx77)
        have HF80 := Lib.hid (ln_put HN75.out)
        clear x0 x1 f0 f1 hx HN75
        generalize ((wx77.setCell ⟨g73, 0, none⟩ (.slice a58 ks.length c59)).setCell ⟨g73, 1, none⟩ (.slice a78 ts.length c79)) = w9 at *
        refine hK.out _ _ KK81 (fun hHeldN => ?_)
        clear hK K hHeld
        have hHeld := hHeldN
        clear hHeldN
        try simp only [Act.put, List.setIfInBounds_toArray, List.set_cons_zero, List.set_cons_succ]
        refine wpAnyH_done (by kernel_rfl) ?_ _
        have hHeld2 := hHeld
        clear hHeld
        exact REST _ _ _ _ _ _ _ _ hHeld2 HF80.out
      refine AllReadyH.cons (o := { dst := some 5, op := Op.alloc 27, type := 0, pos := "l15_tags.go:39", after := #[], guard := none }) rfl (fun K hK => ?_) AllReadyH.nil
      go_simp
      have KK83 := Below.then_ hHeld (below_new wx54 (.cells #[.slice none 0 0, .slice none 0 0] 27))
      have HN82 := Lib.hid (ln_box HN51.out)
      clear HN51
      generalize wx54.heap.size = g84 at *
      generalize wx54.alloc (.cells #[.slice none 0 0, .slice none 0 0] 27) = wx85 at *
      refine hK.out _ _ KK83 (fun hHeldN => ?_)
      clear hK K hHeld
      have hHeld := hHeldN
      clear hHeldN
      try simp only [Act.put, List.setIfInBounds_toArray, List.set_cons_zero, List.set_cons_succ]
      refine wpAnyH_ready (rs := [3]) (by kernel_rfl) (by simp) ?_
      refine AllReadyH.cons (o := { dst := some 9, op := Op.call { callee := Callee.builtin Builtin.append, args := #[Operand.tmp 6, Operand.tmp 8], argTypes := #[24, 24] }, type := 24, pos := "l15_tags.go:39", after := #[{ on := 0, ground := Ground.data }, { on := 2, ground := Ground.data }], guard := none }) rfl (fun K hK => ?_) AllReadyH.nil
      refine step_append_els intK rfl _ _ 24 24 rfl Try.underlying24 Try.underlying24 W0.heap.size (.slice (some ⟨g3, 0, none⟩) 0 0) (.slice ka ks.length kc) [] ks (by simp [Act.eval, Act.put]) (by simp [Act.eval, Act.put]) HN82.out.o.k hHeld.size (HD.out _ hHeld).2.1.k (by simp; omega) ?_
      intro v' wx88 hown hgrow hloc
      rw [List.nil_append] at hown
      have KK87 := ebelow_grown hHeld hHeld.size hgrow (fun g hg => (HN82.out.o.k.block g hg).1)
      have HN86 := Lib.hid (ln_gi HN82.out hown hgrow hloc)
      obtain ⟨a89, c90, rfl, -⟩ := hown.form
      clear hown hgrow hloc HN82
      refine hK.out _ _ KK87 (fun hHeldN => ?_)
      clear hK K hHeld
      have hHeld := hHeldN
      clear hHeldN
      try simp only [Act.put, List.setIfInBounds_toArray, List.set_cons_zero, List.set_cons_succ]
      refine wpAnyH_ready (rs := [7]) (by kernel_rfl) (by simp) ?_
      refine AllReadyH.cons (o := { dst := some 13, op := Op.call { callee := Callee.builtin Builtin.append, args := #[Operand.tmp 10, Operand.tmp 12], argTypes := #[25, 25] }, type := 25, pos := "l15_tags.go:39", after := #[{ on := 4, ground := Ground.data }, { on := 6, ground := Ground.data }, { on := 3, ground := Ground.chain }], guard := none }) rfl (fun K hK => ?_) AllReadyH.nil
      refine step_append_els tvK rfl _ _ 25 25 rfl uTv uTv W0.heap.size (.slice (some ⟨g53, 0, none⟩) 0 0) (.slice ta ts.length tc) [] ts (by simp [Act.eval, Act.put]) (by simp [Act.eval, Act.put]) HN86.out.o.t hHeld.size (HD.out _ hHeld).2.1.t (by simp; omega) ?_
      intro v' wx93 hown hgrow hloc
      rw [List.nil_append] at hown
      have KK92 := ebelow_grown hHeld hHeld.size hgrow (fun g hg => (HN86.out.o.t.block g hg).1)
      have HN91 := Lib.hid (ln_gt HN86.out hown hgrow hloc)
      obtain ⟨a94, c95, rfl, -⟩ := hown.form
      clear hown hgrow hloc HN86
      refine hK.out _ _ KK92 (fun hHeldN => ?_)
      clear hK K hHeld
      have hHeld := hHeldN
      clear hHeldN
      try simp only [Act.put, List.setIfInBounds_toArray, List.set_cons_zero, List.set_cons_succ]
      refine take_yes (i := 8) (oi := { dst := some 14, op := Op.build 27 #[(0, Operand.tmp 9), (1, Operand.tmp 13)], type := 27, pos := "l15_tags.go:39", after := #[{ on := 3, ground := Ground.data }, { on := 7, ground := Ground.data }], guard := none }) (v := .agg #[.slice a89 ks.length c90, .slice a94 ts.length c95]) rfl (by kernel_rfl) (by kernel_rfl) (by kernel_rfl) (fun _ _ _ h => h) (by rfl) (fun w hSw => by (try dsimp only at hSw); go_simp) (by assumption) ?_
      try simp only [Act.put, List.setIfInBounds_toArray, List.set_cons_zero, List.set_cons_succ]
      refine wpAnyH_ready (rs := [10]) (by kernel_rfl) (by simp) ?_
      refine AllReadyH.cons (o := { dst := none, op := Op.store 27 (Operand.tmp 5) (Operand.tmp 14), type := 0, pos := "l15_tags.go:39", after := #[{ on := 9, ground := Ground.data }, { on := 8, ground := Ground.data }, { on := 7, ground := Ground.chain }, { on := 0, ground := Ground.phase }, { on := 1, ground := Ground.phase }, { on := 2, ground := Ground.phase }, { on := 3, ground := Ground.phase }, { on := 4, ground := Ground.phase }, { on := 5, ground := Ground.phase }, { on := 6, ground := Ground.phase }, { on := 7, ground := Ground.phase }, { on := 8, ground := Ground.phase }, { on := 9, ground := Ground.phase }], guard := none }) rfl (fun K hK => ?_) AllReadyH.nil
      have hx := HN91.out.x rfl
      obtain ⟨x0, x1⟩ := cel2k hx.1
      have f0 := hx.1.frozen 0
      have f1 := hx.1.frozen 1
      go_simp
      have KK97 : Below W0.heap.size W0 ((wx93.setCell ⟨g84, 0, none⟩ (.slice a89 ks.length c90)).setCell ⟨g84, 1, none⟩ (.slice a94 ts.length c95)) := hHeld.trans (esetC_below g84 W0.heap.size hx.2.1 0 [.slice a89 ks.length c90, .slice a94 ts.length c95] wx93)
      have HF96 := Lib.hid (ln_put HN91.out)
      clear x0 x1 f0 f1 hx HN91
      generalize ((wx93.setCell ⟨g84, 0, none⟩ (.slice a89 ks.length c90)).setCell ⟨g84, 1, none⟩ (.slice a94 ts.length c95)) = w9 at *
      refine hK.out _ _ KK97 (fun hHeldN => ?_)
      clear hK K hHeld
      have hHeld := hHeldN
      clear hHeldN
      try simp only [Act.put, List.setIfInBounds_toArray, List.set_cons_zero, List.set_cons_succ]
      refine wpAnyH_done (by kernel_rfl) ?_ _
      have hHeld2 := hHeld
      clear hHeld
      exact REST _ _ _ _ _ _ _ _ hHeld2 HF96.out
    refine AllReadyH.cons (o := { dst := some 5, op := Op.alloc 27, type := 0, pos := "l15_tags.go:39", after := #[], guard := none }) rfl (fun K hK => ?_) AllReadyH.nil
    go_simp
    have KK99 := Below.then_ hHeld (below_new wx4 (.cells #[.slice none 0 0, .slice none 0 0] 27))
    have HN98 := Lib.hid (ln_box HN1.out)
    clear HN1
    generalize wx4.heap.size = g100 at *
    generalize wx4.alloc (.cells #[.slice none 0 0, .slice none 0 0] 27) = wx101 at *
    refine hK.out _ _ KK99 (fun hHeldN => ?_)
    clear hK K hHeld
    have hHeld := hHeldN
    clear hHeldN
    try simp only [Act.put, List.setIfInBounds_toArray, List.set_cons_zero, List.set_cons_succ]
    refine wpAnyH_ready (rs := [3, 4]) (by kernel_rfl) (by simp) ?_
    refine AllReadyH.cons (o := { dst := some 9, op := Op.call { callee := Callee.builtin Builtin.append, args := #[Operand.tmp 6, Operand.tmp 8], argTypes := #[24, 24] }, type := 24, pos := "l15_tags.go:39", after := #[{ on := 0, ground := Ground.data }, { on := 2, ground := Ground.data }], guard := none }) rfl (fun K hK => ?_) ?_
    · refine step_append_els intK rfl _ _ 24 24 rfl Try.underlying24 Try.underlying24 W0.heap.size (.slice (some ⟨g3, 0, none⟩) 0 0) (.slice ka ks.length kc) [] ks (by simp [Act.eval, Act.put]) (by simp [Act.eval, Act.put]) HN98.out.o.k hHeld.size (HD.out _ hHeld).2.1.k (by simp; omega) ?_
      intro v' wx104 hown hgrow hloc
      rw [List.nil_append] at hown
      have KK103 := ebelow_grown hHeld hHeld.size hgrow (fun g hg => (HN98.out.o.k.block g hg).1)
      have HN102 := Lib.hid (ln_gi HN98.out hown hgrow hloc)
      obtain ⟨a105, c106, rfl, -⟩ := hown.form
      clear hown hgrow hloc HN98
      refine hK.out _ _ KK103 (fun hHeldN => ?_)
      clear hK K hHeld
      have hHeld := hHeldN
      clear hHeldN
      try simp only [Act.put, List.setIfInBounds_toArray, List.set_cons_zero, List.set_cons_succ]
      refine wpAnyH_ready (rs := [4]) (by kernel_rfl) (by simp) ?_
      refine AllReadyH.cons (o := { dst := some 10, op := Op.buildSlice 25 0 #[], type := 25, pos := "l15_tags.go:39", after := #[], guard := none }) rfl (fun K hK => ?_) AllReadyH.nil
      go_simp
      have KK108 := Below.then_ hHeld (below_new wx104 (.cells #[] 29))
      have HN107 := Lib.hid (ln_tags HN102.out)
      clear HN102
      generalize wx104.heap.size = g109 at *
      generalize wx104.alloc (.cells #[] 29) = wx110 at *
      refine hK.out _ _ KK108 (fun hHeldN => ?_)
      clear hK K hHeld
      have hHeld := hHeldN
      clear hHeldN
      try simp only [Act.put, List.setIfInBounds_toArray, List.set_cons_zero, List.set_cons_succ]
      refine wpAnyH_ready (rs := [7]) (by kernel_rfl) (by simp) ?_
      refine AllReadyH.cons (o := { dst := some 13, op := Op.call { callee := Callee.builtin Builtin.append, args := #[Operand.tmp 10, Operand.tmp 12], argTypes := #[25, 25] }, type := 25, pos := "l15_tags.go:39", after := #[{ on := 4, ground := Ground.data }, { on := 6, ground := Ground.data }, { on := 3, ground := Ground.chain }], guard := none }) rfl (fun K hK => ?_) AllReadyH.nil
      refine step_append_els tvK rfl _ _ 25 25 rfl uTv uTv W0.heap.size (.slice (some ⟨g109, 0, none⟩) 0 0) (.slice ta ts.length tc) [] ts (by simp [Act.eval, Act.put]) (by simp [Act.eval, Act.put]) HN107.out.o.t hHeld.size (HD.out _ hHeld).2.1.t (by simp; omega) ?_
      intro v' wx113 hown hgrow hloc
      rw [List.nil_append] at hown
      have KK112 := ebelow_grown hHeld hHeld.size hgrow (fun g hg => (HN107.out.o.t.block g hg).1)
      have HN111 := Lib.hid (ln_gt HN107.out hown hgrow hloc)
      obtain ⟨a114, c115, rfl, -⟩ := hown.form
      clear hown hgrow hloc HN107
      refine hK.out _ _ KK112 (fun hHeldN => ?_)
      clear hK K hHeld
      have hHeld := hHeldN
      clear hHeldN
      try simp only [Act.put, List.setIfInBounds_toArray, List.set_cons_zero, List.set_cons_succ]
      refine take_yes (i := 8) (oi := { dst := some 14, op := Op.build 27 #[(0, Operand.tmp 9), (1, Operand.tmp 13)], type := 27, pos := "l15_tags.go:39", after := #[{ on := 3, ground := Ground.data }, { on := 7, ground := Ground.data }], guard := none }) (v := .agg #[.slice a105 ks.length c106, .slice a114 ts.length c115]) rfl (by kernel_rfl) (by kernel_rfl) (by kernel_rfl) (fun _ _ _ h => h) (by rfl) (fun w hSw => by (try dsimp only at hSw); go_simp) (by assumption) ?_
      try simp only [Act.put, List.setIfInBounds_toArray, List.set_cons_zero, List.set_cons_succ]
      refine wpAnyH_ready (rs := [10]) (by kernel_rfl) (by simp) ?_
      refine AllReadyH.cons (o := { dst := none, op := Op.store 27 (Operand.tmp 5) (Operand.tmp 14), type := 0, pos := "l15_tags.go:39", after := #[{ on := 9, ground := Ground.data }, { on := 8, ground := Ground.data }, { on := 7, ground := Ground.chain }, { on := 0, ground := Ground.phase }, { on := 1, ground := Ground.phase }, { on := 2, ground := Ground.phase }, { on := 3, ground := Ground.phase }, { on := 4, ground := Ground.phase }, { on := 5, ground := Ground.phase }, { on := 6, ground := Ground.phase }, { on := 7, ground := Ground.phase }, { on := 8, ground := Ground.phase }, { on := 9, ground := Ground.phase }], guard := none }) rfl (fun K hK => ?_) AllReadyH.nil
      have hx := HN111.out.x rfl
      obtain ⟨x0, x1⟩ := cel2k hx.1
      have f0 := hx.1.frozen 0
      have f1 := hx.1.frozen 1
      go_simp
      have KK117 : Below W0.heap.size W0 ((wx113.setCell ⟨g100, 0, none⟩ (.slice a105 ks.length c106)).setCell ⟨g100, 1, none⟩ (.slice a114 ts.length c115)) := hHeld.trans (esetC_below g100 W0.heap.size hx.2.1 0 [.slice a105 ks.length c106, .slice a114 ts.length c115] wx113)
      have HF116 := Lib.hid (ln_put HN111.out)
      clear x0 x1 f0 f1 hx HN111
      generalize ((wx113.setCell ⟨g100, 0, none⟩ (.slice a105 ks.length c106)).setCell ⟨g100, 1, none⟩ (.slice a114 ts.length c115)) = w9 at *
      refine hK.out _ _ KK117 (fun hHeldN => ?_)
      clear hK K hHeld
      have hHeld := hHeldN
      clear hHeldN
      try simp only [Act.put, List.setIfInBounds_toArray, List.set_cons_zero, List.set_cons_succ]
      refine wpAnyH_done (by kernel_rfl) ?_ _
      have hHeld2 := hHeld
      clear hHeld
      exact REST _ _ _ _ _ _ _ _ hHeld2 HF116.out
    refine AllReadyH.cons (o := { dst := some 10, op := Op.buildSlice 25 0 #[], type := 25, pos := "l15_tags.go:39", after := #[], guard := none }) rfl (fun K hK => ?_) AllReadyH.nil
    go_simp
    have KK119 := Below.then_ hHeld (below_new wx101 (.cells #[] 29))
    have HN118 := Lib.hid (ln_tags HN98.out)
    clear HN98
    generalize wx101.heap.size = g120 at *
    generalize wx101.alloc (.cells #[] 29) = wx121 at *
    refine hK.out _ _ KK119 (fun hHeldN => ?_)
    clear hK K hHeld
    have hHeld := hHeldN
    clear hHeldN
    try simp only [Act.put, List.setIfInBounds_toArray, List.set_cons_zero, List.set_cons_succ]
    refine wpAnyH_ready (rs := [3]) (by kernel_rfl) (by simp) ?_
    refine AllReadyH.cons (o := { dst := some 9, op := Op.call { callee := Callee.builtin Builtin.append, args := #[Operand.tmp 6, Operand.tmp 8], argTypes := #[24, 24] }, type := 24, pos := "l15_tags.go:39", after := #[{ on := 0, ground := Ground.data }, { on := 2, ground := Ground.data }], guard := none }) rfl (fun K hK => ?_) AllReadyH.nil
    refine step_append_els intK rfl _ _ 24 24 rfl Try.underlying24 Try.underlying24 W0.heap.size (.slice (some ⟨g3, 0, none⟩) 0 0) (.slice ka ks.length kc) [] ks (by simp [Act.eval, Act.put]) (by simp [Act.eval, Act.put]) HN118.out.o.k hHeld.size (HD.out _ hHeld).2.1.k (by simp; omega) ?_
    intro v' wx124 hown hgrow hloc
    rw [List.nil_append] at hown
    have KK123 := ebelow_grown hHeld hHeld.size hgrow (fun g hg => (HN118.out.o.k.block g hg).1)
    have HN122 := Lib.hid (ln_gi HN118.out hown hgrow hloc)
    obtain ⟨a125, c126, rfl, -⟩ := hown.form
    clear hown hgrow hloc HN118
    refine hK.out _ _ KK123 (fun hHeldN => ?_)
    clear hK K hHeld
    have hHeld := hHeldN
    clear hHeldN
    try simp only [Act.put, List.setIfInBounds_toArray, List.set_cons_zero, List.set_cons_succ]
    refine wpAnyH_ready (rs := [7]) (by kernel_rfl) (by simp) ?_
    refine AllReadyH.cons (o := { dst := some 13, op := Op.call { callee := Callee.builtin Builtin.append, args := #[Operand.tmp 10, Operand.tmp 12], argTypes := #[25, 25] }, type := 25, pos := "l15_tags.go:39", after := #[{ on := 4, ground := Ground.data }, { on := 6, ground := Ground.data }, { on := 3, ground := Ground.chain }], guard := none }) rfl (fun K hK => ?_) AllReadyH.nil
    refine step_append_els tvK rfl _ _ 25 25 rfl uTv uTv W0.heap.size (.slice (some ⟨g120, 0, none⟩) 0 0) (.slice ta ts.length tc) [] ts (by simp [Act.eval, Act.put]) (by simp [Act.eval, Act.put]) HN122.out.o.t hHeld.size (HD.out _ hHeld).2.1.t (by simp; omega) ?_
    intro v' wx129 hown hgrow hloc
    rw [List.nil_append] at hown
    have KK128 := ebelow_grown hHeld hHeld.size hgrow (fun g hg => (HN122.out.o.t.block g hg).1)
    have HN127 := Lib.hid (ln_gt HN122.out hown hgrow hloc)
    obtain ⟨a130, c131, rfl, -⟩ := hown.form
    clear hown hgrow hloc HN122
    refine hK.out _ _ KK128 (fun hHeldN => ?_)
    clear hK K hHeld
    have hHeld := hHeldN
    clear hHeldN
    try simp only [Act.put, List.setIfInBounds_toArray, List.set_cons_zero, List.set_cons_succ]
    refine take_yes (i := 8) (oi := { dst := some 14, op := Op.build 27 #[(0, Operand.tmp 9), (1, Operand.tmp 13)], type := 27, pos := "l15_tags.go:39", after := #[{ on := 3, ground := Ground.data }, { on := 7, ground := Ground.data }], guard := none }) (v := .agg #[.slice a125 ks.length c126, .slice a130 ts.length c131]) rfl (by kernel_rfl) (by kernel_rfl) (by kernel_rfl) (fun _ _ _ h => h) (by rfl) (fun w hSw => by (try dsimp only at hSw); go_simp) (by assumption) ?_
    try simp only [Act.put, List.setIfInBounds_toArray, List.set_cons_zero, List.set_cons_succ]
    refine wpAnyH_ready (rs := [10]) (by kernel_rfl) (by simp) ?_
    refine AllReadyH.cons (o := { dst := none, op := Op.store 27 (Operand.tmp 5) (Operand.tmp 14), type := 0, pos := "l15_tags.go:39", after := #[{ on := 9, ground := Ground.data }, { on := 8, ground := Ground.data }, { on := 7, ground := Ground.chain }, { on := 0, ground := Ground.phase }, { on := 1, ground := Ground.phase }, { on := 2, ground := Ground.phase }, { on := 3, ground := Ground.phase }, { on := 4, ground := Ground.phase }, { on := 5, ground := Ground.phase }, { on := 6, ground := Ground.phase }, { on := 7, ground := Ground.phase }, { on := 8, ground := Ground.phase }, { on := 9, ground := Ground.phase }], guard := none }) rfl (fun K hK => ?_) AllReadyH.nil
    have hx := HN127.out.x rfl
    obtain ⟨x0, x1⟩ := cel2k hx.1
    have f0 := hx.1.frozen 0
    have f1 := hx.1.frozen 1
    go_simp
    have KK133 : Below W0.heap.size W0 ((wx129.setCell ⟨g100, 0, none⟩ (.slice a125 ks.length c126)).setCell ⟨g100, 1, none⟩ (.slice a130 ts.length c131)) := hHeld.trans (esetC_below g100 W0.heap.size hx.2.1 0 [.slice a125 ks.length c126, .slice a130 ts.length c131] wx129)
    have HF132 := Lib.hid (ln_put HN127.out)
    clear x0 x1 f0 f1 hx HN127
    generalize ((wx129.setCell ⟨g100, 0, none⟩ (.slice a125 ks.length c126)).setCell ⟨g100, 1, none⟩ (.slice a130 ts.length c131)) = w9 at *
    refine hK.out _ _ KK133 (fun hHeldN => ?_)
    clear hK K hHeld
    have hHeld := hHeldN
    clear hHeldN
    try simp only [Act.put, List.setIfInBounds_toArray, List.set_cons_zero, List.set_cons_succ]
    refine wpAnyH_done (by kernel_rfl) ?_ _
    have hHeld2 := hHeld
    clear hHeld
    exact REST _ _ _ _ _ _ _ _ hHeld2 HF132.out
  refine AllReadyH.cons (o := { dst := some 10, op := Op.buildSlice 25 0 #[], type := 25, pos := "l15_tags.go:39", after := #[], guard := none }) rfl (fun K hK => ?_) ?_
  · go_simp
    have KK135 := Below.then_ hHeld (below_new wd (.cells #[] 29))
    have HN134 := Lib.hid (ln_tags HN.out)
    clear HN
    generalize wd.heap.size = g136 at *
    generalize wd.alloc (.cells #[] 29) = wx137 at *
    refine hK.out _ _ KK135 (fun hHeldN => ?_)
    clear hK K hHeld
    have hHeld := hHeldN
    clear hHeldN
    try simp only [Act.put, List.setIfInBounds_toArray, List.set_cons_zero, List.set_cons_succ]
    refine wpAnyH_ready (rs := [0, 9]) (by kernel_rfl) (by simp) ?_
    refine AllReadyH.cons (o := { dst := some 6, op := Op.buildSlice 24 0 #[], type := 24, pos := "l15_tags.go:39", after := #[], guard := none }) rfl (fun K hK => ?_) ?_
    · go_simp
      have KK139 := Below.then_ hHeld (below_new wx137 (.cells #[] 3))
      have HN138 := Lib.hid (ln_ints HN134.out)
      clear HN134
      generalize wx137.heap.size = g140 at *
      generalize wx137.alloc (.cells #[] 3) = wx141 at *
      refine hK.out _ _ KK139 (fun hHeldN => ?_)
      clear hK K hHeld
      have hHeld := hHeldN
      clear hHeldN
      try simp only [Act.put, List.setIfInBounds_toArray, List.set_cons_zero, List.set_cons_succ]
      refine wpAnyH_ready (rs := [3, 9]) (by kernel_rfl) (by simp) ?_
      refine AllReadyH.cons (o := { dst := some 9, op := Op.call { callee := Callee.builtin Builtin.append, args := #[Operand.tmp 6, Operand.tmp 8], argTypes := #[24, 24] }, type := 24, pos := "l15_tags.go:39", after := #[{ on := 0, ground := Ground.data }, { on := 2, ground := Ground.data }], guard := none }) rfl (fun K hK => ?_) ?_
      · refine step_append_els intK rfl _ _ 24 24 rfl Try.underlying24 Try.underlying24 W0.heap.size (.slice (some ⟨g140, 0, none⟩) 0 0) (.slice ka ks.length kc) [] ks (by simp [Act.eval, Act.put]) (by simp [Act.eval, Act.put]) HN138.out.o.k hHeld.size (HD.out _ hHeld).2.1.k (by simp; omega) ?_
        intro v' wx144 hown hgrow hloc
        rw [List.nil_append] at hown
        have KK143 := ebelow_grown hHeld hHeld.size hgrow (fun g hg => (HN138.out.o.k.block g hg).1)
        have HN142 := Lib.hid (ln_gi HN138.out hown hgrow hloc)
        obtain ⟨a145, c146, rfl, -⟩ := hown.form
        clear hown hgrow hloc HN138
        refine hK.out _ _ KK143 (fun hHeldN => ?_)
        clear hK K hHeld
        have hHeld := hHeldN
        clear hHeldN
        try simp only [Act.put, List.setIfInBounds_toArray, List.set_cons_zero, List.set_cons_succ]
        refine wpAnyH_ready (rs := [7, 9]) (by kernel_rfl) (by simp) ?_
        refine AllReadyH.cons (o := { dst := some 13, op := Op.call { callee := Callee.builtin Builtin.append, args := #[Operand.tmp 10, Operand.tmp 12], argTypes := #[25, 25] }, type := 25, pos := "l15_tags.go:39", after := #[{ on := 4, ground := Ground.data }, { on := 6, ground := Ground.data }, { on := 3, ground := Ground.chain }], guard := none }) rfl (fun K hK => ?_) ?_
        · refine step_append_els tvK rfl _ _ 25 25 rfl uTv uTv W0.heap.size (.slice (some ⟨g136, 0, none⟩) 0 0) (.slice ta ts.length tc) [] ts (by simp [Act.eval, Act.put]) (by simp [Act.eval, Act.put]) HN142.out.o.t hHeld.size (HD.out _ hHeld).2.1.t (by simp; omega) ?_
          intro v' wx149 hown hgrow hloc
          rw [List.nil_append] at hown
          have KK148 := ebelow_grown hHeld hHeld.size hgrow (fun g hg => (HN142.out.o.t.block g hg).1)
          have HN147 := Lib.hid (ln_gt HN142.out hown hgrow hloc)
          obtain ⟨a150, c151, rfl, -⟩ := hown.form
          clear hown hgrow hloc HN142
          refine hK.out _ _ KK148 (fun hHeldN => ?_)
          clear hK K hHeld
          have hHeld := hHeldN
          clear hHeldN
          try simp only [Act.put, List.setIfInBounds_toArray, List.set_cons_zero, List.set_cons_succ]
          refine take_yes (i := 8) (oi := { dst := some 14, op := Op.build 27 #[(0, Operand.tmp 9), (1, Operand.tmp 13)], type := 27, pos := "l15_tags.go:39", after := #[{ on := 3, ground := Ground.data }, { on := 7, ground := Ground.data }], guard := none }) (v := .agg #[.slice a145 ks.length c146, .slice a150 ts.length c151]) rfl (by kernel_rfl) (by kernel_rfl) (by kernel_rfl) (fun _ _ _ h => h) (by rfl) (fun w hSw => by (try dsimp only at hSw); go_simp) (by assumption) ?_
          try simp only [Act.put, List.setIfInBounds_toArray, List.set_cons_zero, List.set_cons_succ]
          refine wpAnyH_ready (rs := [9]) (by kernel_rfl) (by simp) ?_
          refine AllReadyH.cons (o := { dst := some 5, op := Op.alloc 27, type := 0, pos := "l15_tags.go:39", after := #[], guard := none }) rfl (fun K hK => ?_) AllReadyH.nil
          go_simp
          have KK153 := Below.then_ hHeld (below_new wx149 (.cells #[.slice none 0 0, .slice none 0 0] 27))
          have HN152 := Lib.hid (ln_box HN147.out)
          clear HN147
          generalize wx149.heap.size = g154 at *
          generalize wx149.alloc (.cells #[.slice none 0 0, .slice none 0 0] 27) = wx155 at *
          refine hK.out _ _ KK153 (fun hHeldN => ?_)
          clear hK K hHeld
          have hHeld := hHeldN
          clear hHeldN
          try simp only [Act.put, List.setIfInBounds_toArray, List.set_cons_zero, List.set_cons_succ]
          refine wpAnyH_ready (rs := [10]) (by kernel_rfl) (by simp) ?_
          refine AllReadyH.cons (o := { dst := none, op := Op.store 27 (Operand.tmp 5) (Operand.tmp 14), type := 0, pos := "l15_tags.go:39", after := #[{ on := 9, ground := Ground.data }, { on := 8, ground := Ground.data }, { on := 7, ground := Ground.chain }, { on := 0, ground := Ground.phase }, { on := 1, ground := Ground.phase }, { on := 2, ground := Ground.phase }, { on := 3, ground := Ground.phase }, { on := 4, ground := Ground.phase }, { on := 5, ground := Ground.phase }, { on := 6, ground := Ground.phase }, { on := 7, ground := Ground.phase }, { on := 8, ground := Ground.phase }, { on := 9, ground := Ground.phase }], guard := none }) rfl (fun K hK => ?_) AllReadyH.nil
          have hx := HN152.out.x rfl
          obtain ⟨x0, x1⟩ := cel2k hx.1
          have f0 := hx.1.frozen 0
          have f1 := hx.1.frozen 1
          go_simp
          have KK157 : Below W0.heap.size W0 ((wx155.setCell ⟨g154, 0, none⟩ (.slice a145 ks.length c146)).setCell ⟨g154, 1, none⟩ (.slice a150 ts.length c151)) := hHeld.trans (esetC_below g154 W0.heap.size hx.2.1 0 [.slice a145 ks.length c146, .slice a150 ts.length c151] wx155)
          have HF156 := Lib.hid (ln_put HN152.out)
          clear x0 x1 f0 f1 hx HN152
          generalize ((wx155.setCell ⟨g154, 0, none⟩ (.slice a145 ks.length c146)).setCell ⟨g154, 1, none⟩ (.slice a150 ts.length c151)) = w9 at *
          refine hK.out _ _ KK157 (fun hHeldN => ?_)
          clear hK K hHeld
          have hHeld := hHeldN
          clear hHeldN
          try simp only [Act.put, List.setIfInBounds_toArray, List.set_cons_zero, List.set_cons_succ]
          refine wpAnyH_done (by kernel_rfl) ?_ _
          have hHeld2 := hHeld
          clear hHeld
          exact REST _ _ _ _ _ _ _ _ hHeld2 HF156.out
        refine AllReadyH.cons (o := { dst := some 5, op := Op.alloc 27, type := 0, pos := "l15_tags.go:39", after := #[], guard := none }) rfl (fun K hK => ?_) AllReadyH.nil
        go_simp
        have KK159 := Below.then_ hHeld (below_new wx144 (.cells #[.slice none 0 0, .slice none 0 0] 27))
        have HN158 := Lib.hid (ln_box HN142.out)
        clear HN142
        generalize wx144.heap.size = g160 at *
        generalize wx144.alloc (.cells #[.slice none 0 0, .slice none 0 0] 27) = wx161 at *
        refine hK.out _ _ KK159 (fun hHeldN => ?_)
        clear hK K hHeld
        have hHeld := hHeldN
        clear hHeldN
        try simp only [Act.put, List.setIfInBounds_toArray, List.set_cons_zero, List.set_cons_succ]
        refine wpAnyH_ready (rs := [7]) (by kernel_rfl) (by simp) ?_
        refine AllReadyH.cons (o := { dst := some 13, op := Op.call { callee := Callee.builtin Builtin.append, args := #[Operand.tmp 10, Operand.tmp 12], argTypes := #[25, 25] }, type := 25, pos := "l15_tags.go:39", after := #[{ on := 4, ground := Ground.data }, { on := 6, ground := Ground.data }, { on := 3, ground := Ground.chain }], guard := none }) rfl (fun K hK => ?_) AllReadyH.nil
        refine step_append_els tvK rfl _ _ 25 25 rfl uTv uTv W0.heap.size (.slice (some ⟨g136, 0, none⟩) 0 0) (.slice ta ts.length tc) [] ts (by simp [Act.eval, Act.put]) (by simp [Act.eval, Act.put]) HN158.out.o.t hHeld.size (HD.out _ hHeld).2.1.t (by simp; omega) ?_
        intro v' wx164 hown hgrow hloc
        rw [List.nil_append] at hown
        have KK163 := ebelow_grown hHeld hHeld.size hgrow (fun g hg => (HN158.out.o.t.block g hg).1)
        have HN162 := Lib.hid (ln_gt HN158.out hown hgrow hloc)
        obtain ⟨a165, c166, rfl, -⟩ := hown.form
        clear hown hgrow hloc HN158
        refine hK.out _ _ KK163 (fun hHeldN => ?_)
        clear hK K hHeld
        have hHeld := hHeldN
        clear hHeldN
        try simp only [Act.put, List.setIfInBounds_toArray, List.set_cons_zero, List.set_cons_succ]
        refine take_yes (i := 8) (oi := { dst := some 14, op := Op.build 27 #[(0, Operand.tmp 9), (1, Operand.tmp 13)], type := 27, pos := "l15_tags.go:39", after := #[{ on := 3, ground := Ground.data }, { on := 7, ground := Ground.data }], guard := none }) (v := .agg #[.slice a145 ks.length c146, .slice a165 ts.length c166]) rfl (by kernel_rfl) (by kernel_rfl) (by kernel_rfl) (fun _ _ _ h => h) (by rfl) (fun w hSw => by (try dsimp only at hSw); go_simp) (by assumption) ?_
        try simp only [Act.put, List.setIfInBounds_toArray, List.set_cons_zero, List.set_cons_succ]
        refine wpAnyH_ready (rs := [10]) (by kernel_rfl) (by simp) ?_
        refine AllReadyH.cons (o := { dst := none, op := Op.store 27 (Operand.tmp 5) (Operand.tmp 14), type := 0, pos := "l15_tags.go:39", after := #[{ on := 9, ground := Ground.data }, { on := 8, ground := Ground.data }, { on := 7, ground := Ground.chain }, { on := 0, ground := Ground.phase }, { on := 1, ground := Ground.phase }, { on := 2, ground := Ground.phase }, { on := 3, ground := Ground.phase }, { on := 4, ground := Ground.phase }, { on := 5, ground := Ground.phase }, { on := 6, ground := Ground.phase }, { on := 7, ground := Ground.phase }, { on := 8, ground := Ground.phase }, { on := 9, ground := Ground.phase }], guard := none }) rfl (fun K hK => ?_) AllReadyH.nil
        have hx := HN162.out.x rfl
        obtain ⟨x0, x1⟩ := cel2k hx.1
        have f0 := hx.1.frozen 0
        have f1 := hx.1.frozen 1
        go_simp
        have KK168 : Below W0.heap.size W0 ((wx164.setCell ⟨g160, 0, none⟩ (.slice a145 ks.length c146)).setCell ⟨g160, 1, none⟩ (.slice a165 ts.length c166)) := hHeld.trans (esetC_below g160 W0.heap.size hx.2.1 0 [.slice a145 ks.length c146, .slice a165 ts.length c166] wx164)
        have HF167 := Lib.hid (ln_put HN162.out)
        clear x0 x1 f0 f1 hx HN162
        generalize ((wx164.setCell ⟨g160, 0, none⟩ (.slice a145 ks.length c146)).setCell ⟨g160, 1, none⟩ (.slice a165 ts.length c166)) = w9 at *
        refine hK.out _ _ KK168 (fun hHeldN => ?_)
        clear hK K hHeld
        have hHeld := hHeldN
        clear hHeldN
        try simp only [Act.put, List.setIfInBounds_toArray, List.set_cons_zero, List.set_cons_succ]
        refine wpAnyH_done (by kernel_rfl) ?_ _
        have hHeld2 := hHeld
        clear hHeld
        exact REST _ _ _ _ _ _ _ _ hHeld2 HF167.out
      refine AllReadyH.cons (o := { dst := some 5, op := Op.alloc 27, type := 0, pos := "l15_tags.go:39", after := #[], guard := none }) rfl (fun K hK => ?_) AllReadyH.nil
      go_simp
      have KK170 := Below.then_ hHeld (below_new wx141 (.cells #[.slice none 0 0, .slice none 0 0] 27))
      have HN169 := Lib.hid (ln_box HN138.out)
      clear HN138
      generalize wx141.heap.size = g171 at *
      generalize wx141.alloc (.cells #[.slice none 0 0, .slice none 0 0] 27) = wx172 at *
      refine hK.out _ _ KK170 (fun hHeldN => ?_)
      clear hK K hHeld
      have hHeld := hHeldN
      clear hHeldN
      try simp only [Act.put, List.setIfInBounds_toArray, List.set_cons_zero, List.set_cons_succ]
      refine wpAnyH_ready (rs := [3]) (by kernel_rfl) (by simp) ?_
      refine AllReadyH.cons (o := { dst := some 9, op := Op.call { callee := Callee.builtin Builtin.append, args := #[Operand.tmp 6, Operand.tmp 8], argTypes := #[24, 24] }, type := 24, pos := "l15_tags.go:39", after := #[{ on := 0, ground := Ground.data }, { on := 2, ground := Ground.data }], guard := none }) rfl (fun K hK => ?_) AllReadyH.nil
      refine step_append_els intK rfl _ _ 24 24 rfl Try.underlying24 Try.underlying24 W0.heap.size (.slice (some ⟨g140, 0, none⟩) 0 0) (.slice ka ks.length kc) [] ks (by simp [Act.eval, Act.put]) (by simp [Act.eval, Act.put]) HN169.out.o.k hHeld.size (HD.out _ hHeld).2.1.k (by simp; omega) ?_
      intro v' wx175 hown hgrow hloc
      rw [List.nil_append] at hown
      have KK174 := ebelow_grown hHeld hHeld.size hgrow (fun g hg => (HN169.out.o.k.block g hg).1)
      have HN173 := Lib.hid (ln_gi HN169.out hown hgrow hloc)
      obtain ⟨a176, c177, rfl, -⟩ := hown.form
      clear hown hgrow hloc HN169
      refine hK.out _ _ KK174 (fun hHeldN => ?_)
      clear hK K hHeld
      have hHeld := hHeldN
      clear hHeldN
      try simp only [Act.put, List.setIfInBounds_toArray, List.set_cons_zero, List.set_cons_succ]
      refine wpAnyH_ready (rs := [7]) (by kernel_rfl) (by simp) ?_
      refine AllReadyH.cons (o := { dst := some 13, op := Op.call { callee := Callee.builtin Builtin.append, args := #[Operand.tmp 10, Operand.tmp 12], argTypes := #[25, 25] }, type := 25, pos := "l15_tags.go:39", after := #[{ on := 4, ground := Ground.data }, { on := 6, ground := Ground.data }, { on := 3, ground := Ground.chain }], guard := none }) rfl (fun K hK => ?_) AllReadyH.nil
      refine step_append_els tvK rfl _ _ 25 25 rfl uTv uTv W0.heap.size (.slice (some ⟨g136, 0, none⟩) 0 0) (.slice ta ts.length tc) [] ts (by simp [Act.eval, Act.put]) (by simp [Act.eval, Act.put]) HN173.out.o.t hHeld.size (HD.out _ hHeld).2.1.t (by simp; omega) ?_
      intro v' wx180 hown hgrow hloc
      rw [List.nil_append] at hown
      have KK179 := ebelow_grown hHeld hHeld.size hgrow (fun g hg => (HN173.out.o.t.block g hg).1)
      have HN178 := Lib.hid (ln_gt HN173.out hown hgrow hloc)
      obtain ⟨a181, c182, rfl, -⟩ := hown.form
      clear hown hgrow hloc HN173
      refine hK.out _ _ KK179 (fun hHeldN => ?_)
      clear hK K hHeld
      have hHeld := hHeldN
      clear hHeldN
      try simp only [Act.put, List.setIfInBounds_toArray, List.set_cons_zero, List.set_cons_succ]
      refine take_yes (i := 8) (oi := { dst := some 14, op := Op.build 27 #[(0, Operand.tmp 9), (1, Operand.tmp 13)], type := 27, pos := "l15_tags.go:39", after := #[{ on := 3, ground := Ground.data }, { on := 7, ground := Ground.data }], guard := none }) (v := .agg #[.slice a176 ks.length c177, .slice a181 ts.length c182]) rfl (by kernel_rfl) (by kernel_rfl) (by kernel_rfl) (fun _ _ _ h => h) (by rfl) (fun w hSw => by (try dsimp only at hSw); go_simp) (by assumption) ?_
      try simp only [Act.put, List.setIfInBounds_toArray, List.set_cons_zero, List.set_cons_succ]
      refine wpAnyH_ready (rs := [10]) (by kernel_rfl) (by simp) ?_
      refine AllReadyH.cons (o := { dst := none, op := Op.store 27 (Operand.tmp 5) (Operand.tmp 14), type := 0, pos := "l15_tags.go:39", after := #[{ on := 9, ground := Ground.data }, { on := 8, ground := Ground.data }, { on := 7, ground := Ground.chain }, { on := 0, ground := Ground.phase }, { on := 1, ground := Ground.phase }, { on := 2, ground := Ground.phase }, { on := 3, ground := Ground.phase }, { on := 4, ground := Ground.phase }, { on := 5, ground := Ground.phase }, { on := 6, ground := Ground.phase }, { on := 7, ground := Ground.phase }, { on := 8, ground := Ground.phase }, { on := 9, ground := Ground.phase }], guard := none }) rfl (fun K hK => ?_) AllReadyH.nil
      have hx := HN178.out.x rfl
      obtain ⟨x0, x1⟩ := cel2k hx.1
      have f0 := hx.1.frozen 0
      have f1 := hx.1.frozen 1
      go_simp
      have KK184 : Below W0.heap.size W0 ((wx180.setCell ⟨g171, 0, none⟩ (.slice a176 ks.length c177)).setCell ⟨g171, 1, none⟩ (.slice a181 ts.length c182)) := hHeld.trans (esetC_below g171 W0.heap.size hx.2.1 0 [.slice a176 ks.length c177, .slice a181 ts.length c182] wx180)
      have HF183 := Lib.hid (ln_put HN178.out)
      clear x0 x1 f0 f1 hx HN178
      generalize ((wx180.setCell ⟨g171, 0, none⟩ (.slice a176 ks.length c177)).setCell ⟨g171, 1, none⟩ (.slice a181 ts.length c182)) = w9 at *
      refine hK.out _ _ KK184 (fun hHeldN => ?_)
      clear hK K hHeld
      have hHeld := hHeldN
      clear hHeldN
      try simp only [Act.put, List.setIfInBounds_toArray, List.set_cons_zero, List.set_cons_succ]
      refine wpAnyH_done (by kernel_rfl) ?_ _
      have hHeld2 := hHeld
      clear hHeld
      exact REST _ _ _ _ _ _ _ _ hHeld2 HF183.out
    refine AllReadyH.cons (o := { dst := some 5, op := Op.alloc 27, type := 0, pos := "l15_tags.go:39", after := #[], guard := none }) rfl (fun K hK => ?_) AllReadyH.nil
    go_simp
    have KK186 := Below.then_ hHeld (below_new wx137 (.cells #[.slice none 0 0, .slice none 0 0] 27))
    have HN185 := Lib.hid (ln_box HN134.out)
    clear HN134
    generalize wx137.heap.size = g187 at *
    generalize wx137.alloc (.cells #[.slice none 0 0, .slice none 0 0] 27) = wx188 at *
    refine hK.out _ _ KK186 (fun hHeldN => ?_)
    clear hK K hHeld
    have hHeld := hHeldN
    clear hHeldN
    try simp only [Act.put, List.setIfInBounds_toArray, List.set_cons_zero, List.set_cons_succ]
    refine wpAnyH_ready (rs := [0]) (by kernel_rfl) (by simp) ?_
    refine AllReadyH.cons (o := { dst := some 6, op := Op.buildSlice 24 0 #[], type := 24, pos := "l15_tags.go:39", after := #[], guard := none }) rfl (fun K hK => ?_) AllReadyH.nil
    go_simp
    have KK190 := Below.then_ hHeld (below_new wx188 (.cells #[] 3))
    have HN189 := Lib.hid (ln_ints HN185.out)
    clear HN185
    generalize wx188.heap.size = g191 at *
    generalize wx188.alloc (.cells #[] 3) = wx192 at *
    refine hK.out _ _ KK190 (fun hHeldN => ?_)
    clear hK K hHeld
    have hHeld := hHeldN
    clear hHeldN
    try simp only [Act.put, List.setIfInBounds_toArray, List.set_cons_zero, List.set_cons_succ]
    refine wpAnyH_ready (rs := [3]) (by kernel_rfl) (by simp) ?_
    refine AllReadyH.cons (o := { dst := some 9, op := Op.call { callee := Callee.builtin Builtin.append, args := #[Operand.tmp 6, Operand.tmp 8], argTypes := #[24, 24] }, type := 24, pos := "l15_tags.go:39", after := #[{ on := 0, ground := Ground.data }, { on := 2, ground := Ground.data }], guard := none }) rfl (fun K hK => ?_) AllReadyH.nil
    refine step_append_els intK rfl _ _ 24 24 rfl Try.underlying24 Try.underlying24 W0.heap.size (.slice (some ⟨g191, 0, none⟩) 0 0) (.slice ka ks.length kc) [] ks (by simp [Act.eval, Act.put]) (by simp [Act.eval, Act.put]) HN189.out.o.k hHeld.size (HD.out _ hHeld).2.1.k (by simp; omega) ?_
    intro v' wx195 hown hgrow hloc
    rw [List.nil_append] at hown
    have KK194 := ebelow_grown hHeld hHeld.size hgrow (fun g hg => (HN189.out.o.k.block g hg).1)
    have HN193 := Lib.hid (ln_gi HN189.out hown hgrow hloc)
    obtain ⟨a196, c197, rfl, -⟩ := hown.form
    clear hown hgrow hloc HN189
    refine hK.out _ _ KK194 (fun hHeldN => ?_)
    clear hK K hHeld
    have hHeld := hHeldN
    clear hHeldN
    try simp only [Act.put, List.setIfInBounds_toArray, List.set_cons_zero, List.set_cons_succ]
    refine wpAnyH_ready (rs := [7]) (by kernel_rfl) (by simp) ?_
    refine AllReadyH.cons (o := { dst := some 13, op := Op.call { callee := Callee.builtin Builtin.append, args := #[Operand.tmp 10, Operand.tmp 12], argTypes := #[25, 25] }, type := 25, pos := "l15_tags.go:39", after := #[{ on := 4, ground := Ground.data }, { on := 6, ground := Ground.data }, { on := 3, ground := Ground.chain }], guard := none }) rfl (fun K hK => ?_) AllReadyH.nil
    refine step_append_els tvK rfl _ _ 25 25 rfl uTv uTv W0.heap.size (.slice (some ⟨g136, 0, none⟩) 0 0) (.slice ta ts.length tc) [] ts (by simp [Act.eval, Act.put]) (by simp [Act.eval, Act.put]) HN193.out.o.t hHeld.size (HD.out _ hHeld).2.1.t (by simp; omega) ?_
    intro v' wx200 hown hgrow hloc
    rw [List.nil_append] at hown
    have KK199 := ebelow_grown hHeld hHeld.size hgrow (fun g hg => (HN193.out.o.t.block g hg).1)
    have HN198 := Lib.hid (ln_gt HN193.out hown hgrow hloc)
    obtain ⟨a201, c202, rfl, -⟩ := hown.form
    clear hown hgrow hloc HN193
    refine hK.out _ _ KK199 (fun hHeldN => ?_)
    clear hK K hHeld
    have hHeld := hHeldN
    clear hHeldN
    try simp only [Act.put, List.setIfInBounds_toArray, List.set_cons_zero, List.set_cons_succ]
    refine take_yes (i := 8) (oi := { dst := some 14, op := Op.build 27 #[(0, Operand.tmp 9), (1, Operand.tmp 13)], type := 27, pos := "l15_tags.go:39", after := #[{ on := 3, ground := Ground.data }, { on := 7, ground := Ground.data }], guard := none }) (v := .agg #[.slice a196 ks.length c197, .slice a201 ts.length c202]) rfl (by kernel_rfl) (by kernel_rfl) (by kernel_rfl) (fun _ _ _ h => h) (by rfl) (fun w hSw => by (try dsimp only at hSw); go_simp) (by assumption) ?_
    try simp only [Act.put, List.setIfInBounds_toArray, List.set_cons_zero, List.set_cons_succ]
    refine wpAnyH_ready (rs := [10]) (by kernel_rfl) (by simp) ?_
    refine AllReadyH.cons (o := { dst := none, op := Op.store 27 (Operand.tmp 5) (Operand.tmp 14), type := 0, pos := "l15_tags.go:39", after := #[{ on := 9, ground := Ground.data }, { on := 8, ground := Ground.data }, { on := 7, ground := Ground.chain }, { on := 0, ground := Ground.phase }, { on := 1, ground := Ground.phase }, { on := 2, ground := Ground.phase }, { on := 3, ground := Ground.phase }, { on := 4, ground := Ground.phase }, { on := 5, ground := Ground.phase }, { on := 6, ground := Ground.phase }, { on := 7, ground := Ground.phase }, { on := 8, ground := Ground.phase }, { on := 9, ground := Ground.phase }], guard := none }) rfl (fun K hK => ?_) AllReadyH.nil
    have hx := HN198.out.x rfl
    obtain ⟨x0, x1⟩ := cel2k hx.1
    have f0 := hx.1.frozen 0
    have f1 := hx.1.frozen 1
    go_simp
    have KK204 : Below W0.heap.size W0 ((wx200.setCell ⟨g187, 0, none⟩ (.slice a196 ks.length c197)).setCell ⟨g187, 1, none⟩ (.slice a201 ts.length c202)) := hHeld.trans (esetC_below g187 W0.heap.size hx.2.1 0 [.slice a196 ks.length c197, .slice a201 ts.length c202] wx200)
    have HF203 := Lib.hid (ln_put HN198.out)
    clear x0 x1 f0 f1 hx HN198
    generalize ((wx200.setCell ⟨g187, 0, none⟩ (.slice a196 ks.length c197)).setCell ⟨g187, 1, none⟩ (.slice a201 ts.length c202)) = w9 at *
    refine hK.out _ _ KK204 (fun hHeldN => ?_)
    clear hK K hHeld
    have hHeld := hHeldN
    clear hHeldN
    try simp only [Act.put, List.setIfInBounds_toArray, List.set_cons_zero, List.set_cons_succ]
    refine wpAnyH_done (by kernel_rfl) ?_ _
    have hHeld2 := hHeld
    clear hHeld
    exact REST _ _ _ _ _ _ _ _ hHeld2 HF203.out
  refine AllReadyH.cons (o := { dst := some 5, op := Op.alloc 27, type := 0, pos := "l15_tags.go:39", after := #[], guard := none }) rfl (fun K hK => ?_) AllReadyH.nil
  go_simp
  have KK206 := Below.then_ hHeld (below_new wd (.cells #[.slice none 0 0, .slice none 0 0] 27))
  have HN205 := Lib.hid (ln_box HN.out)
  clear HN
  generalize wd.heap.size = g207 at *
  generalize wd.alloc (.cells #[.slice none 0 0, .slice none 0 0] 27) = wx208 at *
  refine hK.out _ _ KK206 (fun hHeldN => ?_)
  clear hK K hHeld
  have hHeld := hHeldN
  clear hHeldN
  try simp only [Act.put, List.setIfInBounds_toArray, List.set_cons_zero, List.set_cons_succ]
  refine wpAnyH_ready (rs := [0, 4]) (by kernel_rfl) (by simp) ?_
  refine AllReadyH.cons (o := { dst := some 6, op := Op.buildSlice 24 0 #[], type := 24, pos := "l15_tags.go:39", after := #[], guard := none }) rfl (fun K hK => ?_) ?_
  · go_simp
    have KK210 := Below.then_ hHeld (below_new wx208 (.cells #[] 3))
    have HN209 := Lib.hid (ln_ints HN205.out)
    clear HN205
    generalize wx208.heap.size = g211 at *
    generalize wx208.alloc (.cells #[] 3) = wx212 at *
    refine hK.out _ _ KK210 (fun hHeldN => ?_)
    clear hK K hHeld
    have hHeld := hHeldN
    clear hHeldN
    try simp only [Act.put, List.setIfInBounds_toArray, List.set_cons_zero, List.set_cons_succ]
    refine wpAnyH_ready (rs := [3, 4]) (by kernel_rfl) (by simp) ?_
    refine AllReadyH.cons (o := { dst := some 9, op := Op.call { callee := Callee.builtin Builtin.append, args := #[Operand.tmp 6, Operand.tmp 8], argTypes := #[24, 24] }, type := 24, pos := "l15_tags.go:39", after := #[{ on := 0, ground := Ground.data }, { on := 2, ground := Ground.data }], guard := none }) rfl (fun K hK => ?_) ?_
    · refine step_append_els intK rfl _ _ 24 24 rfl Try.underlying24 Try.underlying24 W0.heap.size (.slice (some ⟨g211, 0, none⟩) 0 0) (.slice ka ks.length kc) [] ks (by simp [Act.eval, Act.put]) (by simp [Act.eval, Act.put]) HN209.out.o.k hHeld.size (HD.out _ hHeld).2.1.k (by simp; omega) ?_
      intro v' wx215 hown hgrow hloc
      rw [List.nil_append] at hown
      have KK214 := ebelow_grown hHeld hHeld.size hgrow (fun g hg => (HN209.out.o.k.block g hg).1)
      have HN213 := Lib.hid (ln_gi HN209.out hown hgrow hloc)
      obtain ⟨a216, c217, rfl, -⟩ := hown.form
      clear hown hgrow hloc HN209
      refine hK.out _ _ KK214 (fun hHeldN => ?_)
      clear hK K hHeld
      have hHeld := hHeldN
      clear hHeldN
      try simp only [Act.put, List.setIfInBounds_toArray, List.set_cons_zero, List.set_cons_succ]
      refine wpAnyH_ready (rs := [4]) (by kernel_rfl) (by simp) ?_
      refine AllReadyH.cons (o := { dst := some 10, op := Op.buildSlice 25 0 #[], type := 25, pos := "l15_tags.go:39", after := #[], guard := none }) rfl (fun K hK => ?_) AllReadyH.nil
      go_simp
      have KK219 := Below.then_ hHeld (below_new wx215 (.cells #[] 29))
      have HN218 := Lib.hid (ln_tags HN213.out)
      clear HN213
      generalize wx215.heap.size = g220 at *
      generalize wx215.alloc (.cells #[] 29) = wx221 at *
      refine hK.out _ _ KK219 (fun hHeldN => ?_)
      clear hK K hHeld
      have hHeld := hHeldN
      clear hHeldN
      try simp only [Act.put, List.setIfInBounds_toArray, List.set_cons_zero, List.set_cons_succ]
      refine wpAnyH_ready (rs := [7]) (by kernel_rfl) (by simp) ?_
      refine AllReadyH.cons (o := { dst := some 13, op := Op.call { callee := Callee.builtin Builtin.append, args := #[Operand.tmp 10, Operand.tmp 12], argTypes := #[25, 25] }, type := 25, pos := "l15_tags.go:39", after := #[{ on := 4, ground := Ground.data }, { on := 6, ground := Ground.data }, { on := 3, ground := Ground.chain }], guard := none }) rfl (fun K hK => ?_) AllReadyH.nil
      refine step_append_els tvK rfl _ _ 25 25 rfl uTv uTv W0.heap.size (.slice (some ⟨g220, 0, none⟩) 0 0) (.slice ta ts.length tc) [] ts (by simp [Act.eval, Act.put]) (by simp [Act.eval, Act.put]) HN218.out.o.t hHeld.size (HD.out _ hHeld).2.1.t (by simp; omega) ?_
      intro v' wx224 hown hgrow hloc
      rw [List.nil_append] at hown
      have KK223 := ebelow_grown hHeld hHeld.size hgrow (fun g hg => (HN218.out.o.t.block g hg).1)
      have HN222 := Lib.hid (ln_gt HN218.out hown hgrow hloc)
      obtain ⟨a225, c226, rfl, -⟩ := hown.form
      clear hown hgrow hloc HN218
      refine hK.out _ _ KK223 (fun hHeldN => ?_)
      clear hK K hHeld
      have hHeld := hHeldN
      clear hHeldN
      try simp only [Act.put, List.setIfInBounds_toArray, List.set_cons_zero, List.set_cons_succ]
      refine take_yes (i := 8) (oi := { dst := some 14, op := Op.build 27 #[(0, Operand.tmp 9), (1, Operand.tmp 13)], type := 27, pos := "l15_tags.go:39", after := #[{ on := 3, ground := Ground.data }, { on := 7, ground := Ground.data }], guard := none }) (v := .agg #[.slice a216 ks.length c217, .slice a225 ts.length c226]) rfl (by kernel_rfl) (by kernel_rfl) (by kernel_rfl) (fun _ _ _ h => h) (by rfl) (fun w hSw => by (try dsimp only at hSw); go_simp) (by assumption) ?_
      try simp only [Act.put, List.setIfInBounds_toArray, List.set_cons_zero, List.set_cons_succ]
      refine wpAnyH_ready (rs := [10]) (by kernel_rfl) (by simp) ?_
      refine AllReadyH.cons (o := { dst := none, op := Op.store 27 (Operand.tmp 5) (Operand.tmp 14), type := 0, pos := "l15_tags.go:39", after := #[{ on := 9, ground := Ground.data }, { on := 8, ground := Ground.data }, { on := 7, ground := Ground.chain }, { on := 0, ground := Ground.phase }, { on := 1, ground := Ground.phase }, { on := 2, ground := Ground.phase }, { on := 3, ground := Ground.phase }, { on := 4, ground := Ground.phase }, { on := 5, ground := Ground.phase }, { on := 6, ground := Ground.phase }, { on := 7, ground := Ground.phase }, { on := 8, ground := Ground.phase }, { on := 9, ground := Ground.phase }], guard := none }) rfl (fun K hK => ?_) AllReadyH.nil
      have hx := HN222.out.x rfl
      obtain ⟨x0, x1⟩ := cel2k hx.1
      have f0 := hx.1.frozen 0
      have f1 := hx.1.frozen 1
      go_simp
      have KK228 : Below W0.heap.size W0 ((wx224.setCell ⟨g207, 0, none⟩ (.slice a216 ks.length c217)).setCell ⟨g207, 1, none⟩ (.slice a225 ts.length c226)) := hHeld.trans (esetC_below g207 W0.heap.size hx.2.1 0 [.slice a216 ks.length c217, .slice a225 ts.length c226] wx224)
      have HF227 := Lib.hid (ln_put HN222.out)
      clear x0 x1 f0 f1 hx HN222
      generalize ((wx224.setCell ⟨g207, 0, none⟩ (.slice a216 ks.length c217)).setCell ⟨g207, 1, none⟩ (.slice a225 ts.length c226)) = w9 at *
      refine hK.out _ _ KK228 (fun hHeldN => ?_)
      clear hK K hHeld
      have hHeld := hHeldN
      clear hHeldN
      try simp only [Act.put, List.setIfInBounds_toArray, List.set_cons_zero, List.set_cons_succ]
      refine wpAnyH_done (by kernel_rfl) ?_ _
      have hHeld2 := hHeld
      clear hHeld
      exact REST _ _ _ _ _ _ _ _ hHeld2 HF227.out
    refine AllReadyH.cons (o := { dst := some 10, op := Op.buildSlice 25 0 #[], type := 25, pos := "l15_tags.go:39", after := #[], guard := none }) rfl (fun K hK => ?_) AllReadyH.nil
    go_simp
    have KK230 := Below.then_ hHeld (below_new wx212 (.cells #[] 29))
    have HN229 := Lib.hid (ln_tags HN209.out)
    clear HN209
    generalize wx212.heap.size = g231 at *
    generalize wx212.alloc (.cells #[] 29) = wx232 at *
    refine hK.out _ _ KK230 (fun hHeldN => ?_)
    clear hK K hHeld
    have hHeld := hHeldN
    clear hHeldN
    try simp only [Act.put, List.setIfInBounds_toArray, List.set_cons_zero, List.set_cons_succ]
    refine wpAnyH_ready (rs := [3]) (by kernel_rfl) (by simp) ?_
    refine AllReadyH.cons (o := { dst := some 9, op := Op.call { callee := Callee.builtin Builtin.append, args := #[Operand.tmp 6, Operand.tmp 8], argTypes := #[24, 24] }, type := 24, pos := "l15_tags.go:39", after := #[{ on := 0, ground := Ground.data }, { on := 2, ground := Ground.data }], guard := none }) rfl (fun K hK => ?_) AllReadyH.nil
    refine step_append_els intK rfl _ _ 24 24 rfl Try.underlying24 Try.underlying24 W0.heap.size (.slice (some ⟨g211, 0, none⟩) 0 0) (.slice ka ks.length kc) [] ks (by simp [Act.eval, Act.put]) (by simp [Act.eval, Act.put]) HN229.out.o.k hHeld.size (HD.out _ hHeld).2.1.k (by simp; omega) ?_
    intro v' wx235 hown hgrow hloc
    rw [List.nil_append] at hown
    have KK234 := ebelow_grown hHeld hHeld.size hgrow (fun g hg => (HN229.out.o.k.block g hg).1)
    have HN233 := Lib.hid (ln_gi HN229.out hown hgrow hloc)
    obtain ⟨a236, c237, rfl, -⟩ := hown.form
    clear hown hgrow hloc HN229
    refine hK.out _ _ KK234 (fun hHeldN => ?_)
    clear hK K hHeld
    have hHeld := hHeldN
    clear hHeldN
    try simp only [Act.put, List.setIfInBounds_toArray, List.set_cons_zero, List.set_cons_succ]
    refine wpAnyH_ready (rs := [7]) (by kernel_rfl) (by simp) ?_
    refine AllReadyH.cons (o := { dst := some 13, op := Op.call { callee := Callee.builtin Builtin.append, args := #[Operand.tmp 10, Operand.tmp 12], argTypes := #[25, 25] }, type := 25, pos := "l15_tags.go:39", after := #[{ on := 4, ground := Ground.data }, { on := 6, ground := Ground.data }, { on := 3, ground := Ground.chain }], guard := none }) rfl (fun K hK => ?_) AllReadyH.nil
    refine step_append_els tvK rfl _ _ 25 25 rfl uTv uTv W0.heap.size (.slice (some ⟨g231, 0, none⟩) 0 0) (.slice ta ts.length tc) [] ts (by simp [Act.eval, Act.put]) (by simp [Act.eval, Act.put]) HN233.out.o.t hHeld.size (HD.out _ hHeld).2.1.t (by simp; omega) ?_
    intro v' wx240 hown hgrow hloc
    rw [List.nil_append] at hown
    have KK239 := ebelow_grown hHeld hHeld.size hgrow (fun g hg => (HN233.out.o.t.block g hg).1)
    have HN238 := Lib.hid (ln_gt HN233.out hown hgrow hloc)
    obtain ⟨a241, c242, rfl, -⟩ := hown.form
    clear hown hgrow hloc HN233
    refine hK.out _ _ KK239 (fun hHeldN => ?_)
    clear hK K hHeld
    have hHeld := hHeldN
    clear hHeldN
    try simp only [Act.put, List.setIfInBounds_toArray, List.set_cons_zero, List.set_cons_succ]
    refine take_yes (i := 8) (oi := { dst := some 14, op := Op.build 27 #[(0, Operand.tmp 9), (1, Operand.tmp 13)], type := 27, pos := "l15_tags.go:39", after := #[{ on := 3, ground := Ground.data }, { on := 7, ground := Ground.data }], guard := none }) (v := .agg #[.slice a236 ks.length c237, .slice a241 ts.length c242]) rfl (by kernel_rfl) (by kernel_rfl) (by kernel_rfl) (fun _ _ _ h => h) (by rfl) (fun w hSw => by (try dsimp only at hSw); go_simp) (by assumption) ?_
    try simp only [Act.put, List.setIfInBounds_toArray, List.set_cons_zero, List.set_cons_succ]
    refine wpAnyH_ready (rs := [10]) (by kernel_rfl) (by simp) ?_
    refine AllReadyH.cons (o := { dst := none, op := Op.store 27 (Operand.tmp 5) (Operand.tmp 14), type := 0, pos := "l15_tags.go:39", after := #[{ on := 9, ground := Ground.data }, { on := 8, ground := Ground.data }, { on := 7, ground := Ground.chain }, { on := 0, ground := Ground.phase }, { on := 1, ground := Ground.phase }, { on := 2, ground := Ground.phase }, { on := 3, ground := Ground.phase }, { on := 4, ground := Ground.phase }, { on := 5, ground := Ground.phase }, { on := 6, ground := Ground.phase }, { on := 7, ground := Ground.phase }, { on := 8, ground := Ground.phase }, { on := 9, ground := Ground.phase }], guard := none }) rfl (fun K hK => ?_) AllReadyH.nil
    have hx := HN238.out.x rfl
    obtain ⟨x0, x1⟩ := cel2k hx.1
    have f0 := hx.1.frozen 0
    have f1 := hx.1.frozen 1
    go_simp
    have KK244 : Below W0.heap.size W0 ((wx240.setCell ⟨g207, 0, none⟩ (.slice a236 ks.length c237)).setCell ⟨g207, 1, none⟩ (.slice a241 ts.length c242)) := hHeld.trans (esetC_below g207 W0.heap.size hx.2.1 0 [.slice a236 ks.length c237, .slice a241 ts.length c242] wx240)
    have HF243 := Lib.hid (ln_put HN238.out)
    clear x0 x1 f0 f1 hx HN238
    generalize ((wx240.setCell ⟨g207, 0, none⟩ (.slice a236 ks.length c237)).setCell ⟨g207, 1, none⟩ (.slice a241 ts.length c242)) = w9 at *
    refine hK.out _ _ KK244 (fun hHeldN => ?_)
    clear hK K hHeld
    have hHeld := hHeldN
    clear hHeldN
    try simp only [Act.put, List.setIfInBounds_toArray, List.set_cons_zero, List.set_cons_succ]
    refine wpAnyH_done (by kernel_rfl) ?_ _
    have hHeld2 := hHeld
    clear hHeld
    exact REST _ _ _ _ _ _ _ _ hHeld2 HF243.out
  refine AllReadyH.cons (o := { dst := some 10, op := Op.buildSlice 25 0 #[], type := 25, pos := "l15_tags.go:39", after := #[], guard := none }) rfl (fun K hK => ?_) AllReadyH.nil
  go_simp
  have KK246 := Below.then_ hHeld (below_new wx208 (.cells #[] 29))
  have HN245 := Lib.hid (ln_tags HN205.out)
  clear HN205
  generalize wx208.heap.size = g247 at *
  generalize wx208.alloc (.cells #[] 29) = wx248 at *
  refine hK.out _ _ KK246 (fun hHeldN => ?_)
  clear hK K hHeld
  have hHeld := hHeldN
  clear hHeldN
  try simp only [Act.put, List.setIfInBounds_toArray, List.set_cons_zero, List.set_cons_succ]
  refine wpAnyH_ready (rs := [0]) (by kernel_rfl) (by simp) ?_
  refine AllReadyH.cons (o := { dst := some 6, op := Op.buildSlice 24 0 #[], type := 24, pos := "l15_tags.go:39", after := #[], guard := none }) rfl (fun K hK => ?_) AllReadyH.nil
  go_simp
  have KK250 := Below.then_ hHeld (below_new wx248 (.cells #[] 3))
  have HN249 := Lib.hid (ln_ints HN245.out)
  clear HN245
  generalize wx248.heap.size = g251 at *
  generalize wx248.alloc (.cells #[] 3) = wx252 at *
  refine hK.out _ _ KK250 (fun hHeldN => ?_)
  clear hK K hHeld
  have hHeld := hHeldN
  clear hHeldN
  try simp only [Act.put, List.setIfInBounds_toArray, List.set_cons_zero, List.set_cons_succ]
  refine wpAnyH_ready (rs := [3]) (by kernel_rfl) (by simp) ?_
  refine AllReadyH.cons (o := { dst := some 9, op := Op.call { callee := Callee.builtin Builtin.append, args := #[Operand.tmp 6, Operand.tmp 8], argTypes := #[24, 24] }, type := 24, pos := "l15_tags.go:39", after := #[{ on := 0, ground := Ground.data }, { on := 2, ground := Ground.data }], guard := none }) rfl (fun K hK => ?_) AllReadyH.nil
  refine step_append_els intK rfl _ _ 24 24 rfl Try.underlying24 Try.underlying24 W0.heap.size (.slice (some ⟨g251, 0, none⟩) 0 0) (.slice ka ks.length kc) [] ks (by simp [Act.eval, Act.put]) (by simp [Act.eval, Act.put]) HN249.out.o.k hHeld.size (HD.out _ hHeld).2.1.k (by simp; omega) ?_
  intro v' wx255 hown hgrow hloc
  rw [List.nil_append] at hown
  have KK254 := ebelow_grown hHeld hHeld.size hgrow (fun g hg => (HN249.out.o.k.block g hg).1)
  have HN253 := Lib.hid (ln_gi HN249.out hown hgrow hloc)
  obtain ⟨a256, c257, rfl, -⟩ := hown.form
  clear hown hgrow hloc HN249
  refine hK.out _ _ KK254 (fun hHeldN => ?_)
  clear hK K hHeld
  have hHeld := hHeldN
  clear hHeldN
  try simp only [Act.put, List.setIfInBounds_toArray, List.set_cons_zero, List.set_cons_succ]
  refine wpAnyH_ready (rs := [7]) (by kernel_rfl) (by simp) ?_
  refine AllReadyH.cons (o := { dst := some 13, op := Op.call { callee := Callee.builtin Builtin.append, args := #[Operand.tmp 10, Operand.tmp 12], argTypes := #[25, 25] }, type := 25, pos := "l15_tags.go:39", after := #[{ on := 4, ground := Ground.data }, { on := 6, ground := Ground.data }, { on := 3, ground := Ground.chain }], guard := none }) rfl (fun K hK => ?_) AllReadyH.nil
  refine step_append_els tvK rfl _ _ 25 25 rfl uTv uTv W0.heap.size (.slice (some ⟨g247, 0, none⟩) 0 0) (.slice ta ts.length tc) [] ts (by simp [Act.eval, Act.put]) (by simp [Act.eval, Act.put]) HN253.out.o.t hHeld.size (HD.out _ hHeld).2.1.t (by simp; omega) ?_
  intro v' wx260 hown hgrow hloc
  rw [List.nil_append] at hown
  have KK259 := ebelow_grown hHeld hHeld.size hgrow (fun g hg => (HN253.out.o.t.block g hg).1)
  have HN258 := Lib.hid (ln_gt HN253.out hown hgrow hloc)
  obtain ⟨a261, c262, rfl, -⟩ := hown.form
  clear hown hgrow hloc HN253
  refine hK.out _ _ KK259 (fun hHeldN => ?_)
  clear hK K hHeld
  have hHeld := hHeldN
  clear hHeldN
  try simp only [Act.put, List.setIfInBounds_toArray, List.set_cons_zero, List.set_cons_succ]
  refine take_yes (i := 8) (oi := { dst := some 14, op := Op.build 27 #[(0, Operand.tmp 9), (1, Operand.tmp 13)], type := 27, pos := "l15_tags.go:39", after := #[{ on := 3, ground := Ground.data }, { on := 7, ground := Ground.data }], guard := none }) (v := .agg #[.slice a256 ks.length c257, .slice a261 ts.length c262]) rfl (by kernel_rfl) (by kernel_rfl) (by kernel_rfl) (fun _ _ _ h => h) (by rfl) (fun w hSw => by (try dsimp only at hSw); go_simp) (by assumption) ?_
  try simp only [Act.put, List.setIfInBounds_toArray, List.set_cons_zero, List.set_cons_succ]
  refine wpAnyH_ready (rs := [10]) (by kernel_rfl) (by simp) ?_
  refine AllReadyH.cons (o := { dst := none, op := Op.store 27 (Operand.tmp 5) (Operand.tmp 14), type := 0, pos := "l15_tags.go:39", after := #[{ on := 9, ground := Ground.data }, { on := 8, ground := Ground.data }, { on := 7, ground := Ground.chain }, { on := 0, ground := Ground.phase }, { on := 1, ground := Ground.phase }, { on := 2, ground := Ground.phase }, { on := 3, ground := Ground.phase }, { on := 4, ground := Ground.phase }, { on := 5, ground := Ground.phase }, { on := 6, ground := Ground.phase }, { on := 7, ground := Ground.phase }, { on := 8, ground := Ground.phase }, { on := 9, ground := Ground.phase }], guard := none }) rfl (fun K hK => ?_) AllReadyH.nil
  have hx := HN258.out.x rfl
  obtain ⟨x0, x1⟩ := cel2k hx.1
  have f0 := hx.1.frozen 0
  have f1 := hx.1.frozen 1
  go_simp
  have KK264 : Below W0.heap.size W0 ((wx260.setCell ⟨g207, 0, none⟩ (.slice a256 ks.length c257)).setCell ⟨g207, 1, none⟩ (.slice a261 ts.length c262)) := hHeld.trans (esetC_below g207 W0.heap.size hx.2.1 0 [.slice a256 ks.length c257, .slice a261 ts.length c262] wx260)
  have HF263 := Lib.hid (ln_put HN258.out)
  clear x0 x1 f0 f1 hx HN258
  generalize ((wx260.setCell ⟨g207, 0, none⟩ (.slice a256 ks.length c257)).setCell ⟨g207, 1, none⟩ (.slice a261 ts.length c262)) = w9 at *
  refine hK.out _ _ KK264 (fun hHeldN => ?_)
  clear hK K hHeld
  have hHeld := hHeldN
  clear hHeldN
  try simp only [Act.put, List.setIfInBounds_toArray, List.set_cons_zero, List.set_cons_succ]
  refine wpAnyH_done (by kernel_rfl) ?_ _
  have hHeld2 := hHeld
  clear hHeld
  exact REST _ _ _ _ _ _ _ _ hHeld2 HF263.out
end Go.Proofs.Ytgfkmnadbcbfkaa
