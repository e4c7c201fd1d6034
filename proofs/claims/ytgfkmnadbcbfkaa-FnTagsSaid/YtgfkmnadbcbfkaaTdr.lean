import Derived.Test.YtgfkmnadbcbfkaaDgw
import Derived.Test.YtgfkmnadbcbfkaaTln
namespace Go.Proofs.Ytgfkmnadbcbfkaa
open Go.RowKit

theorem below_sets5 (w W : World) (x0 x1 x2 x3 x4 : Value) : Below w.heap.size W (((((W.setCell ⟨w.heap.size, 0, none⟩ (x0)).setCell ⟨w.heap.size, 1, none⟩ (x1)).setCell ⟨w.heap.size, 2, none⟩ (x2)).setCell ⟨w.heap.size, 3, none⟩ (x3)).setCell ⟨w.heap.size, 4, none⟩ (x4)) :=
  ((((((Below.refl _ _).setCell (p := ⟨w.heap.size, 0, none⟩) (Nat.le_refl _) _).setCell (p := ⟨w.heap.size, 1, none⟩) (Nat.le_refl _) _).setCell (p := ⟨w.heap.size, 2, none⟩) (Nat.le_refl _) _).setCell (p := ⟨w.heap.size, 3, none⟩) (Nat.le_refl _) _).setCell (p := ⟨w.heap.size, 4, none⟩) (Nat.le_refl _) _)
theorem intW_small (r : Int) (h0 : 0 ≤ r) (h1 : r ≤ 1000000) : IntW r := WalkArith.wf_i64 (by omega)

set_option maxHeartbeats 4000000 in
set_option maxRecDepth 100000 in
theorem tag_dr (g : Nat) (v : Value) (n : Nat) (w : World) (hd : Dr w g v n) :
    Calls Try.prog 51 #[.pointer (some ⟨g, 0, none⟩)] w fun e w' => ∃ m : Tv, e = .returned (.agg #[.int .i64 m.kind, .int .i64 m.one, .int .i64 m.two, .int .i64 m.a, .int .i64 m.b]) ∧ TvW m ∧ Dr w' g v n ∧ Grew g w w' := by
  have hg := hd.blk
  have hb0 := below_new w (.cells #[.int .i64 0, .int .i64 0, .int .i64 0, .int .i64 0, .int .i64 0] 29)
  have hd0 := hd.kept hb0
  have hC0 := Cel.new w 29 #[.int .i64 0, .int .i64 0, .int .i64 0, .int .i64 0, .int .i64 0]
  have c4 := fun W h => bel_dr g v n 4 4 rfl W h (by omega) (by omega)
  have c3 := fun W h => bel_dr g v n 3 3 rfl W h (by omega) (by omega)
  have HE0 := Lib.hid (And.intro hC0 (Grew.then (Grew.refl g w) hb0))
  clear hb0 hC0 hd
  go_enter Try.func51, Try.ntmps51
  go_wp2_with (fail)
  with_reducible refine (c4 _ hd0).mono ?_
  rintro e w1 ⟨r1, hr1, rfl, hd1, o1⟩
  have HE1 := Lib.hid (And.intro (HE0.out.1.only o1 (by omega)) (HE0.out.2.only o1))
  clear HE0 o1 hd0
  go_wp2_with (fail)
  with_reducible refine (c3 _ hd1).mono ?_
  rintro e w2 ⟨r2, hr2, rfl, hd2, o2⟩
  have HE2 := Lib.hid (And.intro (HE1.out.1.only o2 (by omega)) (HE1.out.2.only o2))
  have e2 : IntKind.i64.wrap (1 + (r2 : Int)) = 1 + (r2 : Int) := IntWalk.i64_in _ (by omega)
  clear HE1 o2 hd1
  go_wp2_with (fail)
  with_reducible refine (c3 _ hd2).mono ?_
  rintro e w3 ⟨r3, hr3, rfl, hd3, o3⟩
  have HE3 := Lib.hid (And.intro (HE2.out.1.only o3 (by omega)) (HE2.out.2.only o3))
  have e3 : IntKind.i64.wrap (1 + (r3 : Int)) = 1 + (r3 : Int) := IntWalk.i64_in _ (by omega)
  clear HE2 o3 hd2
  go_wp2_with (fail)
  with_reducible refine (c4 _ hd3).mono ?_
  rintro e w4 ⟨r4, hr4, rfl, hd4, o4⟩
  have HE4 := Lib.hid (And.intro (HE3.out.1.only o4 (by omega)) (HE3.out.2.only o4))
  clear HE3 o4 hd3
  go_wp2_with (fail)
  with_reducible refine (c4 _ hd4).mono ?_
  rintro e w5 ⟨r5, hr5, rfl, hd5, o5⟩
  have HE5 := Lib.hid (And.intro (HE4.out.1.only o5 (by omega)) (HE4.out.2.only o5))
  clear HE4 o5 hd4
  have hC := HE5.out.1
  obtain ⟨k0, k1, k2, k3, k4⟩ := cel5tv hC
  have f0 := hC.frozen 0
  have f1 := hC.frozen 1
  have f2 := hC.frozen 2
  have f3 := hC.frozen 3
  have f4 := hC.frozen 4
  have HG := Lib.hid (And.intro HE5.out.2 hd5)
  have hTW : TvW ⟨r1, 1 + (r2 : Int), 1 + (r3 : Int), r4, r5⟩ := ⟨intW_small (r1 : Int) (by omega) (by omega), intW_small (1 + (r2 : Int)) (by omega) (by omega), intW_small (1 + (r3 : Int)) (by omega) (by omega), intW_small (r4 : Int) (by omega) (by omega), intW_small (r5 : Int) (by omega) (by omega)⟩
  clear HE5 hC hd5 c3 c4
  go_wp2_with (fail)
  have hB5 := below_sets5 w w5 (.int .i64 (r1 : Int)) (.int .i64 (1 + (r2 : Int))) (.int .i64 (1 + (r3 : Int))) (.int .i64 (r4 : Int)) (.int .i64 (r5 : Int))
  exact bodyPost_ret (v := .agg #[.int .i64 (r1 : Int), .int .i64 (1 + (r2 : Int)), .int .i64 (1 + (r3 : Int)), .int .i64 (r4 : Int), .int .i64 (r5 : Int)]) (by simp [results, Try.results51, go_sem, k0, k1, k2, k3, k4]) rfl ⟨⟨r1, 1 + (r2 : Int), 1 + (r3 : Int), r4, r5⟩, rfl, hTW, HG.out.2.below hB5 hg, HG.out.1.then hB5⟩

/-- While what is known is drawn: the result's block, the struct's box, its rows. -/
structure KD (w W : World) (g : Nat) (v : Value) (n : Nat) (ku tu : Value) (ks : List Int) (ts : List Tv) : Prop where
  c0 : Cel W w.heap.size 27 #[.slice none 0 0, .slice none 0 0]
  c1 : Cel W (w.heap.size + 1) 27 #[ku, tu]
  o : KnO W (w.heap.size + 2) W.heap.size ku tu ks ts
  wf : KnW ks ts
  d : Dr W g v n
  gr : Grew g w W
  hg : g < w.heap.size
section
variable {w W W' : World} {g n : Nat} {v ku tu : Value} {ks : List Int} {ts : List Tv}
theorem KnO.grew {B : Nat} (h : KnO W B W.heap.size ku tu ks ts) (ho : Grew g W W') (hB : g < B) : KnO W' B W'.heap.size ku tu ks ts := ⟨h.k.grew ho hB, h.t.grew ho hB, h.sep⟩
theorem KD.grew (h : KD w W g v n ku tu ks ts) (ho : Grew g W W') (hd : Dr W' g v n) : KD w W' g v n ku tu ks ts :=
  have h1 := h.hg
  ⟨h.c0.grew ho (by omega), h.c1.grew ho (by omega), h.o.grew ho (by omega), h.wf, hd, h.gr.trans ho, h.hg⟩
theorem KD.kept (h : KD w W g v n ku tu ks ts) (hb : Below W.heap.size W W') : KD w W' g v n ku tu ks ts :=
  ⟨h.c0.kept hb, h.c1.kept hb, h.o.full hb, h.wf, h.d.kept hb, h.gr.then (hb.mono h.gr.size), h.hg⟩
theorem KD.lt (h : KD w W g v n ku tu ks ts) : w.heap.size + 2 ≤ W.heap.size := h.c1.lt
/-- The box takes other rows, that lie in the call's own blocks. -/
theorem KD.put {u1 u2 : Value} {ls : List Int} {us : List Tv} (h : KD w W g v n ku tu ks ts) (ho : KnO W (w.heap.size + 2) W.heap.size u1 u2 ls us) (hw : KnW ls us) : KD w ((W.setCell ⟨w.heap.size + 1, 0, none⟩ u1).setCell ⟨w.heap.size + 1, 1, none⟩ u2) g v n u1 u2 ls us := by
  have h1 := h.hg
  have hB : Below (w.heap.size + 1) W ((W.setCell ⟨w.heap.size + 1, 0, none⟩ u1).setCell ⟨w.heap.size + 1, 1, none⟩ u2) := esetC_below _ _ (Nat.le_refl _) 0 [u1, u2] W
  have hz : ((W.setCell ⟨w.heap.size + 1, 0, none⟩ u1).setCell ⟨w.heap.size + 1, 1, none⟩ u2).heap.size = W.heap.size := esetC_size _ 0 [u1, u2] W
  refine ⟨h.c0.below hB (by omega), (h.c1.set 0 u1).set 1 u2, ?_, hw, h.d.below hB (by omega), h.gr.then (hB.mono (by omega)), h.hg⟩
  rw [hz]
  exact ho.keepAt fun i hi _ => esetC_other _ 0 [u1, u2] W i (by omega)
/-- One key more: the row grows, the box takes it. -/
theorem KD.key {u1 : Value} {x : Int} (h : KD w W g v n ku tu ks ts) (ho : OwnE intK W' (w.heap.size + 2) W'.heap.size u1 (ks ++ [x])) (hg : W.grownBy W' ku.ownBlock) (hl : u1.ownBlock = ku.ownBlock ∨ u1.ownBlock = some W.heap.size) (hx : IntW x) :
    KD w (W'.setCell ⟨w.heap.size + 1, 0, none⟩ u1) g v n u1 tu (ks ++ [x]) ts := by
  have h1 := h.hg
  have h2 := h.lt
  have hb : ∀ k, ku.ownBlock = some k → w.heap.size + 2 ≤ k ∧ k < W.heap.size := h.o.k.block
  have hB : Below (w.heap.size + 2) W W' := (Below.refl _ _).grown hg h2 (fun k hk => (hb k hk).1)
  have hB2 : Below (w.heap.size + 1) W' (W'.setCell ⟨w.heap.size + 1, 0, none⟩ u1) := esetC_below _ _ (Nat.le_refl _) 0 [u1] W'
  have hz : (W'.setCell ⟨w.heap.size + 1, 0, none⟩ u1).heap.size = W'.heap.size := esetC_size _ 0 [u1] W'
  have hc1 := h.c1.below hB (by omega)
  refine ⟨(h.c0.below hB (by omega)).below hB2 (by omega), hc1.set 0 u1, ?_, ⟨fun z hz => ?_, h.wf.2⟩, (h.d.below hB (by omega)).below hB2 (by omega), (h.gr.then (hB.mono (by omega))).then (hB2.mono (by omega)), h.hg⟩
  · rw [hz]
    have ht := (h.o.t.grown hg (Nat.le_refl _) fun k e1 e2 => h.o.sep k e2.symm e1).mono (Nat.le_refl _) hg.size
    refine ⟨ho.keepAt fun k hk => esetC_other _ 0 [u1] W' k (by have := (ho.block k hk).1; omega), ht.keepAt fun k hk => esetC_other _ 0 [u1] W' k (by have := (ht.block k hk).1; omega), fun k e1 e2 => ?_⟩
    rcases hl with e | e
    · exact h.o.sep k (e ▸ e1) e2
    · have := (h.o.t.block k e2).2
      rw [e] at e1
      simp at e1
      omega
  · rcases List.mem_append.1 hz with e | e
    · exact h.wf.1 z e
    · simp at e
      subst e
      exact hx
end
theorem learn_wf {ks : List Int} {ts : List Tv} {t : Tv} (h : KnW ks ts) (ht : TvW t) : KnW ks (learnTs ks ts t) := by
  refine ⟨h.1, fun x hx => ?_⟩
  unfold learnTs at hx
  split at hx
  · rcases List.mem_append.1 hx with e | e
    · exact h.2 x e
    · simp at e
      subst e
      exact ht
  · exact h.2 x hx
set_option linter.unusedSimpArgs false in
set_option maxRecDepth 100000 in
set_option maxHeartbeats 8000000 in
theorem known_dr (g : Nat) (v : Value) (n : Nat) (w : World) (hd : Dr w g v n) :
    Calls Try.prog 49 #[.pointer (some ⟨g, 0, none⟩)] w fun e w' => ∃ a c b d ks ts, e = .returned (.agg #[.slice a (ks : List Int).length c, .slice b (ts : List Tv).length d]) ∧ KnO w' w.heap.size w'.heap.size (.slice a ks.length c) (.slice b ts.length d) ks ts ∧ ks.length ≤ 3 ∧ ts.length ≤ 5 ∧ KnW ks ts ∧ Dr w' g v n ∧ Grew g w w' := by
  have hg := hd.blk
  have hK0 : KD w ((w.alloc (.cells #[.slice none 0 0, .slice none 0 0] 27)).alloc (.cells #[.slice none 0 0, .slice none 0 0] 27)) g v n (.slice none 0 0) (.slice none 0 0) [] [] := by
    have b1 := below_new w (.cells #[.slice none 0 0, .slice none 0 0] 27)
    have b2 := below_new (w.alloc (.cells #[.slice none 0 0, .slice none 0 0] 27)) (.cells #[.slice none 0 0, .slice none 0 0] 27)
    have c1 := Cel.new (w.alloc (.cells #[.slice none 0 0, .slice none 0 0] 27)) 27 #[.slice none 0 0, .slice none 0 0]
    rw [World.size_alloc] at c1
    exact ⟨(Cel.new w 27 #[.slice none 0 0, .slice none 0 0]).kept b2, c1, ⟨OwnE.nil, OwnE.nil, fun k hk => by simp [Value.ownBlock] at hk⟩, ⟨fun z hz => (by cases hz), fun z hz => (by cases hz)⟩, (hd.kept b1).kept b2, ((Grew.refl g w).then b1).then (b2.mono (by simp)), hg⟩
  have c3 := fun W h => bel_dr g v n 3 3 rfl W h (by omega) (by omega)
  have c5 := fun W h => bel_dr g v n 5 5 rfl W h (by omega) (by omega)
  have cT := fun W h => tag_dr g v n W h
  have HK0 := Lib.hid hK0
  have HCC := Lib.hid (And.intro c5 cT)
  clear hK0 hd c5 cT
  go_enter Try.func49, Try.ntmps49
  go_wp2_with (fail)
  go_loopw [4] (fun i wr => ∃ (k : Nat) (ku : Value) (ks : List Int), k ≤ 3 ∧ i = .int .i64 k ∧ ks.length ≤ k ∧ KD w wr g v n ku (.slice none 0 0) ks []) (fun i _ => 3 - (intOf i).toNat)
  case atStart => exact ⟨0, _, [], by omega, rfl, by simp, HK0.out⟩
  case round =>
    clear HK0
    obtain ⟨k, ku, ks, hk, rfl, hl, hK⟩ := hrel
    have hDd := hK.d
    have HK := Lib.hid hK
    clear hK
    go_wp2_with (fail)
    with_reducible refine (c3 _ hDd).mono ?_
    rintro e w1 ⟨r, hr, rfl, d1, o1⟩
    have HK1 := Lib.hid (HK.out.grew o1.grew d1)
    clear HK hDd o1 d1
    by_cases hlt : k < r
    · have q : (k : Int) < (r : Int) := by omega
      have hS : True := trivial
      go_upto_region 5 with (fail)
      have HN := Lib.hid (show KD w w1.drew g v n ku (.slice none 0 0) ks [] from HK1.out.kept (show Below _ _ (World.drew _) from (Below.refl _ _).drew))
      clear HK1
      obtain ⟨ka, kc, rfl⟩ := HN.out.o.k.rd.form
      refine wp_region_held_drew (S := fun W => True) (by kernel_rfl) hS (fun hHeld => ?_)
      clear hS
      generalize w1.drew = wd at *
      refine take_yes (i := 0) (oi := { dst := some 13, op := Op.fieldAddr 27 (Operand.tmp 3) 0, type := 0, pos := "l15_tags.go:53", after := #[], guard := none }) (v := .pointer (some ⟨w.heap.size + 1, 0, none⟩)) rfl (by kernel_rfl) (by kernel_rfl) (by kernel_rfl) (fun _ _ _ h => h) (by rfl) (fun w hSw => by (try dsimp only at hSw); go_simp) (by assumption) ?_
      try simp only [Act.put, List.setIfInBounds_toArray, List.set_cons_zero, List.set_cons_succ]
      refine take_yes (i := 2) (oi := { dst := some 15, op := Op.move (Operand.tmp 0), type := 49, pos := "l15_tags.go:53", after := #[], guard := none }) (v := .pointer (some ⟨g, 0, none⟩)) rfl (by kernel_rfl) (by kernel_rfl) (by kernel_rfl) (fun _ _ _ h => h) (by rfl) (fun w hSw => by (try dsimp only at hSw); go_simp) (by assumption) ?_
      try simp only [Act.put, List.setIfInBounds_toArray, List.set_cons_zero, List.set_cons_succ]
      refine wpAnyH_ready (rs := [1, 3]) (by kernel_rfl) (by simp) ?_
      refine AllReadyH.cons (o := { dst := some 14, op := Op.load 24 (Operand.tmp 13), type := 24, pos := "l15_tags.go:53", after := #[{ on := 0, ground := Ground.data }], guard := none }) rfl (fun K hK => ?_) ?_
      · have hc := HN.out.c1
        obtain ⟨c0, c1⟩ := cel2k hc
        clear hc
        go_simp
        clear c0 c1
        refine hK.out _ _ trivial (fun hHeldN => ?_)
        clear hK K hHeld
        have hHeld := hHeldN
        clear hHeldN
        try simp only [Act.put, List.setIfInBounds_toArray, List.set_cons_zero, List.set_cons_succ]
        refine wpAnyH_ready (rs := [3]) (by kernel_rfl) (by simp) ?_
        refine AllReadyH.cons (o := { dst := some 16, op := Op.call { callee := Callee.value (Operand.func 33), args := #[Operand.tmp 15, Operand.const (Value.int IntKind.i64 3)], argTypes := #[49, 3] }, type := 3, pos := "l15_tags.go:53", after := #[{ on := 2, ground := Ground.data }], guard := none }) rfl (fun K hK => ?_) AllReadyH.nil
        have hDd := HN.out.d
        go_simp
        with_reducible refine (c3 _ hDd).mono ?_
        rintro e wx2 ⟨r2, hr2, rfl, d2, o2⟩
        have e2 : IntKind.i64.wrap (1 + (r2 : Int)) = 1 + (r2 : Int) := IntWalk.i64_in _ (by omega)
        have HN1 := Lib.hid (HN.out.grew o2.grew d2)
        clear HN hDd o2 d2
        refine hK.out _ _ trivial (fun hHeldN => ?_)
        clear hK K hHeld
        have hHeld := hHeldN
        clear hHeldN
        try simp only [Act.put, List.setIfInBounds_toArray, List.set_cons_zero, List.set_cons_succ]
        refine take_yes (i := 4) (oi := { dst := some 17, op := Op.binOp BinOp.add 3 (Operand.const (Value.int IntKind.i64 1)) (Operand.tmp 16) 3, type := 3, pos := "l15_tags.go:53", after := #[{ on := 3, ground := Ground.data }], guard := none }) (v := .int .i64 (1 + (r2 : Int))) rfl (by kernel_rfl) (by kernel_rfl) (by kernel_rfl) (fun _ _ _ h => h) (by rfl) (fun w hSw => by (try dsimp only at hSw); go_simp) (by assumption) ?_
        try simp only [Act.put, List.setIfInBounds_toArray, List.set_cons_zero, List.set_cons_succ]
        refine wpAnyH_ready (rs := [5]) (by kernel_rfl) (by simp) ?_
        refine AllReadyH.cons (o := { dst := some 18, op := Op.buildSlice 24 1 #[(0, Operand.tmp 17)], type := 24, pos := "l15_tags.go:53", after := #[{ on := 4, ground := Ground.data }], guard := none }) rfl (fun K hK => ?_) AllReadyH.nil
        go_simp
        have HN3 := Lib.hid (And.intro (HN1.out.kept (below_new wx2 (.cells #[.int .i64 (1 + (r2 : Int))] 3))) (rd_ibox wx2 (1 + (r2 : Int))))
        clear HN1
        generalize wx2.heap.size = bb5 at *
        generalize wx2.alloc (.cells #[.int .i64 (1 + (r2 : Int))] 3) = wx4 at *
        refine hK.out _ _ trivial (fun hHeldN => ?_)
        clear hK K hHeld
        have hHeld := hHeldN
        clear hHeldN
        try simp only [Act.put, List.setIfInBounds_toArray, List.set_cons_zero, List.set_cons_succ]
        refine wpAnyH_ready (rs := [6]) (by kernel_rfl) (by simp) ?_
        refine AllReadyH.cons (o := { dst := some 19, op := Op.call { callee := Callee.builtin Builtin.append, args := #[Operand.tmp 14, Operand.tmp 18], argTypes := #[24, 24] }, type := 24, pos := "l15_tags.go:53", after := #[{ on := 1, ground := Ground.data }, { on := 5, ground := Ground.data }, { on := 3, ground := Ground.chain }], guard := none }) rfl (fun K hK => ?_) AllReadyH.nil
        refine step_append_els intK rfl _ _ 24 24 rfl Try.underlying24 Try.underlying24 (w.heap.size + 2) (.slice ka ks.length kc) (.slice (some ⟨bb5, 0, none⟩) 1 1) ks [1 + (r2 : Int)] (by simp [Act.eval, Act.put]) (by simp [Act.eval, Act.put]) HN3.out.1.o.k HN3.out.1.lt HN3.out.2 (by simp; omega) ?_
        intro v' wx7 hown hgrow hloc
        obtain ⟨L, hL⟩ : ∃ L, ks ++ [1 + (r2 : Int)] = L := ⟨_, rfl⟩
        have hkk := HN3.out.1.key hown hgrow hloc (intW_small _ (by omega) (by omega))
        have HLL := Lib.hid (show L.length ≤ k + 1 by rw [← hL, List.length_append]; simp; omega)
        rw [hL] at hkk hown
        have HN6 := Lib.hid (And.intro hkk (HN3.out.1.c1.grown hgrow (fun e => by have := (HN3.out.1.o.k.block _ e.symm).1; omega)))
        obtain ⟨va8, vc9, rfl, -⟩ := hown.form
        clear hown hgrow hloc hL hkk HN3
        refine hK.out _ _ trivial (fun hHeldN => ?_)
        clear hK K hHeld
        have hHeld := hHeldN
        clear hHeldN
        try simp only [Act.put, List.setIfInBounds_toArray, List.set_cons_zero, List.set_cons_succ]
        refine take_yes (i := 7) (oi := { dst := some 20, op := Op.fieldAddr 27 (Operand.tmp 3) 0, type := 0, pos := "l15_tags.go:53", after := #[{ on := 0, ground := Ground.phase }, { on := 1, ground := Ground.phase }, { on := 2, ground := Ground.phase }, { on := 3, ground := Ground.phase }, { on := 4, ground := Ground.phase }, { on := 5, ground := Ground.phase }, { on := 6, ground := Ground.phase }], guard := none }) (v := .pointer (some ⟨w.heap.size + 1, 0, none⟩)) rfl (by kernel_rfl) (by kernel_rfl) (by kernel_rfl) (fun _ _ _ h => h) (by rfl) (fun w hSw => by (try dsimp only at hSw); go_simp) (by assumption) ?_
        try simp only [Act.put, List.setIfInBounds_toArray, List.set_cons_zero, List.set_cons_succ]
        refine wpAnyH_ready (rs := [8]) (by kernel_rfl) (by simp) ?_
        refine AllReadyH.cons (o := { dst := none, op := Op.store 24 (Operand.tmp 20) (Operand.tmp 19), type := 0, pos := "l15_tags.go:53", after := #[{ on := 7, ground := Ground.data }, { on := 6, ground := Ground.data }, { on := 6, ground := Ground.chain }, { on := 0, ground := Ground.phase }, { on := 1, ground := Ground.phase }, { on := 2, ground := Ground.phase }, { on := 3, ground := Ground.phase }, { on := 4, ground := Ground.phase }, { on := 5, ground := Ground.phase }, { on := 6, ground := Ground.phase }], guard := none }) rfl (fun K hK => ?_) AllReadyH.nil
        have hc := HN6.out.2
        obtain ⟨c0, c1⟩ := cel2k hc
        have f0 := hc.frozen 0
        clear hc
        go_simp
        clear c0 c1 f0
        have HF := Lib.hid HN6.out.1
        clear HN6
        generalize wx7.setCell ⟨w.heap.size + 1, 0, none⟩ (.slice va8 L.length vc9) = w9 at *
        refine hK.out _ _ trivial (fun hHeldN => ?_)
        clear hK K hHeld
        have hHeld := hHeldN
        clear hHeldN
        try simp only [Act.put, List.setIfInBounds_toArray, List.set_cons_zero, List.set_cons_succ]
        refine wpAnyH_done (by kernel_rfl) ?_ _
        have hHeld2 := hHeld
        clear hHeld
        clear hHeld2
        go_wp2_with (fail)
        go_roundw
        case rel => exact ⟨k + 1, _, _, by omega, by go_num, HLL.out, HF.out⟩
        case measure => simp [intOf]; omega
      refine AllReadyH.cons (o := { dst := some 16, op := Op.call { callee := Callee.value (Operand.func 33), args := #[Operand.tmp 15, Operand.const (Value.int IntKind.i64 3)], argTypes := #[49, 3] }, type := 3, pos := "l15_tags.go:53", after := #[{ on := 2, ground := Ground.data }], guard := none }) rfl (fun K hK => ?_) AllReadyH.nil
      have hDd := HN.out.d
      go_simp
      with_reducible refine (c3 _ hDd).mono ?_
      rintro e wx11 ⟨r2, hr2, rfl, d2, o2⟩
      have e2 : IntKind.i64.wrap (1 + (r2 : Int)) = 1 + (r2 : Int) := IntWalk.i64_in _ (by omega)
      have HN10 := Lib.hid (HN.out.grew o2.grew d2)
      clear HN hDd o2 d2
      refine hK.out _ _ trivial (fun hHeldN => ?_)
      clear hK K hHeld
      have hHeld := hHeldN
      clear hHeldN
      try simp only [Act.put, List.setIfInBounds_toArray, List.set_cons_zero, List.set_cons_succ]
      refine take_yes (i := 4) (oi := { dst := some 17, op := Op.binOp BinOp.add 3 (Operand.const (Value.int IntKind.i64 1)) (Operand.tmp 16) 3, type := 3, pos := "l15_tags.go:53", after := #[{ on := 3, ground := Ground.data }], guard := none }) (v := .int .i64 (1 + (r2 : Int))) rfl (by kernel_rfl) (by kernel_rfl) (by kernel_rfl) (fun _ _ _ h => h) (by rfl) (fun w hSw => by (try dsimp only at hSw); go_simp) (by assumption) ?_
      try simp only [Act.put, List.setIfInBounds_toArray, List.set_cons_zero, List.set_cons_succ]
      refine wpAnyH_ready (rs := [1, 5]) (by kernel_rfl) (by simp) ?_
      refine AllReadyH.cons (o := { dst := some 14, op := Op.load 24 (Operand.tmp 13), type := 24, pos := "l15_tags.go:53", after := #[{ on := 0, ground := Ground.data }], guard := none }) rfl (fun K hK => ?_) ?_
      · have hc := HN10.out.c1
        obtain ⟨c0, c1⟩ := cel2k hc
        clear hc
        go_simp
        clear c0 c1
        refine hK.out _ _ trivial (fun hHeldN => ?_)
        clear hK K hHeld
        have hHeld := hHeldN
        clear hHeldN
        try simp only [Act.put, List.setIfInBounds_toArray, List.set_cons_zero, List.set_cons_succ]
        refine wpAnyH_ready (rs := [5]) (by kernel_rfl) (by simp) ?_
        refine AllReadyH.cons (o := { dst := some 18, op := Op.buildSlice 24 1 #[(0, Operand.tmp 17)], type := 24, pos := "l15_tags.go:53", after := #[{ on := 4, ground := Ground.data }], guard := none }) rfl (fun K hK => ?_) AllReadyH.nil
        go_simp
        have HN12 := Lib.hid (And.intro (HN10.out.kept (below_new wx11 (.cells #[.int .i64 (1 + (r2 : Int))] 3))) (rd_ibox wx11 (1 + (r2 : Int))))
        clear HN10
        generalize wx11.heap.size = bb14 at *
        generalize wx11.alloc (.cells #[.int .i64 (1 + (r2 : Int))] 3) = wx13 at *
        refine hK.out _ _ trivial (fun hHeldN => ?_)
        clear hK K hHeld
        have hHeld := hHeldN
        clear hHeldN
        try simp only [Act.put, List.setIfInBounds_toArray, List.set_cons_zero, List.set_cons_succ]
        refine wpAnyH_ready (rs := [6]) (by kernel_rfl) (by simp) ?_
        refine AllReadyH.cons (o := { dst := some 19, op := Op.call { callee := Callee.builtin Builtin.append, args := #[Operand.tmp 14, Operand.tmp 18], argTypes := #[24, 24] }, type := 24, pos := "l15_tags.go:53", after := #[{ on := 1, ground := Ground.data }, { on := 5, ground := Ground.data }, { on := 3, ground := Ground.chain }], guard := none }) rfl (fun K hK => ?_) AllReadyH.nil
        refine step_append_els intK rfl _ _ 24 24 rfl Try.underlying24 Try.underlying24 (w.heap.size + 2) (.slice ka ks.length kc) (.slice (some ⟨bb14, 0, none⟩) 1 1) ks [1 + (r2 : Int)] (by simp [Act.eval, Act.put]) (by simp [Act.eval, Act.put]) HN12.out.1.o.k HN12.out.1.lt HN12.out.2 (by simp; omega) ?_
        intro v' wx16 hown hgrow hloc
        obtain ⟨L, hL⟩ : ∃ L, ks ++ [1 + (r2 : Int)] = L := ⟨_, rfl⟩
        have hkk := HN12.out.1.key hown hgrow hloc (intW_small _ (by omega) (by omega))
        have HLL := Lib.hid (show L.length ≤ k + 1 by rw [← hL, List.length_append]; simp; omega)
        rw [hL] at hkk hown
        have HN15 := Lib.hid (And.intro hkk (HN12.out.1.c1.grown hgrow (fun e => by have := (HN12.out.1.o.k.block _ e.symm).1; omega)))
        obtain ⟨va17, vc18, rfl, -⟩ := hown.form
        clear hown hgrow hloc hL hkk HN12
        refine hK.out _ _ trivial (fun hHeldN => ?_)
        clear hK K hHeld
        have hHeld := hHeldN
        clear hHeldN
        try simp only [Act.put, List.setIfInBounds_toArray, List.set_cons_zero, List.set_cons_succ]
        refine take_yes (i := 7) (oi := { dst := some 20, op := Op.fieldAddr 27 (Operand.tmp 3) 0, type := 0, pos := "l15_tags.go:53", after := #[{ on := 0, ground := Ground.phase }, { on := 1, ground := Ground.phase }, { on := 2, ground := Ground.phase }, { on := 3, ground := Ground.phase }, { on := 4, ground := Ground.phase }, { on := 5, ground := Ground.phase }, { on := 6, ground := Ground.phase }], guard := none }) (v := .pointer (some ⟨w.heap.size + 1, 0, none⟩)) rfl (by kernel_rfl) (by kernel_rfl) (by kernel_rfl) (fun _ _ _ h => h) (by rfl) (fun w hSw => by (try dsimp only at hSw); go_simp) (by assumption) ?_
        try simp only [Act.put, List.setIfInBounds_toArray, List.set_cons_zero, List.set_cons_succ]
        refine wpAnyH_ready (rs := [8]) (by kernel_rfl) (by simp) ?_
        refine AllReadyH.cons (o := { dst := none, op := Op.store 24 (Operand.tmp 20) (Operand.tmp 19), type := 0, pos := "l15_tags.go:53", after := #[{ on := 7, ground := Ground.data }, { on := 6, ground := Ground.data }, { on := 6, ground := Ground.chain }, { on := 0, ground := Ground.phase }, { on := 1, ground := Ground.phase }, { on := 2, ground := Ground.phase }, { on := 3, ground := Ground.phase }, { on := 4, ground := Ground.phase }, { on := 5, ground := Ground.phase }, { on := 6, ground := Ground.phase }], guard := none }) rfl (fun K hK => ?_) AllReadyH.nil
        have hc := HN15.out.2
        obtain ⟨c0, c1⟩ := cel2k hc
        have f0 := hc.frozen 0
        clear hc
        go_simp
        clear c0 c1 f0
        have HF := Lib.hid HN15.out.1
        clear HN15
        generalize wx16.setCell ⟨w.heap.size + 1, 0, none⟩ (.slice va17 L.length vc18) = w9 at *
        refine hK.out _ _ trivial (fun hHeldN => ?_)
        clear hK K hHeld
        have hHeld := hHeldN
        clear hHeldN
        try simp only [Act.put, List.setIfInBounds_toArray, List.set_cons_zero, List.set_cons_succ]
        refine wpAnyH_done (by kernel_rfl) ?_ _
        have hHeld2 := hHeld
        clear hHeld
        clear hHeld2
        go_wp2_with (fail)
        go_roundw
        case rel => exact ⟨k + 1, _, _, by omega, by go_num, HLL.out, HF.out⟩
        case measure => simp [intOf]; omega
      refine AllReadyH.cons (o := { dst := some 18, op := Op.buildSlice 24 1 #[(0, Operand.tmp 17)], type := 24, pos := "l15_tags.go:53", after := #[{ on := 4, ground := Ground.data }], guard := none }) rfl (fun K hK => ?_) AllReadyH.nil
      go_simp
      have HN19 := Lib.hid (And.intro (HN10.out.kept (below_new wx11 (.cells #[.int .i64 (1 + (r2 : Int))] 3))) (rd_ibox wx11 (1 + (r2 : Int))))
      clear HN10
      generalize wx11.heap.size = bb21 at *
      generalize wx11.alloc (.cells #[.int .i64 (1 + (r2 : Int))] 3) = wx20 at *
      refine hK.out _ _ trivial (fun hHeldN => ?_)
      clear hK K hHeld
      have hHeld := hHeldN
      clear hHeldN
      try simp only [Act.put, List.setIfInBounds_toArray, List.set_cons_zero, List.set_cons_succ]
      refine wpAnyH_ready (rs := [1]) (by kernel_rfl) (by simp) ?_
      refine AllReadyH.cons (o := { dst := some 14, op := Op.load 24 (Operand.tmp 13), type := 24, pos := "l15_tags.go:53", after := #[{ on := 0, ground := Ground.data }], guard := none }) rfl (fun K hK => ?_) AllReadyH.nil
      have hc := HN19.out.1.c1
      obtain ⟨c0, c1⟩ := cel2k hc
      clear hc
      go_simp
      clear c0 c1
      refine hK.out _ _ trivial (fun hHeldN => ?_)
      clear hK K hHeld
      have hHeld := hHeldN
      clear hHeldN
      try simp only [Act.put, List.setIfInBounds_toArray, List.set_cons_zero, List.set_cons_succ]
      refine wpAnyH_ready (rs := [6]) (by kernel_rfl) (by simp) ?_
      refine AllReadyH.cons (o := { dst := some 19, op := Op.call { callee := Callee.builtin Builtin.append, args := #[Operand.tmp 14, Operand.tmp 18], argTypes := #[24, 24] }, type := 24, pos := "l15_tags.go:53", after := #[{ on := 1, ground := Ground.data }, { on := 5, ground := Ground.data }, { on := 3, ground := Ground.chain }], guard := none }) rfl (fun K hK => ?_) AllReadyH.nil
      refine step_append_els intK rfl _ _ 24 24 rfl Try.underlying24 Try.underlying24 (w.heap.size + 2) (.slice ka ks.length kc) (.slice (some ⟨bb21, 0, none⟩) 1 1) ks [1 + (r2 : Int)] (by simp [Act.eval, Act.put]) (by simp [Act.eval, Act.put]) HN19.out.1.o.k HN19.out.1.lt HN19.out.2 (by simp; omega) ?_
      intro v' wx23 hown hgrow hloc
      obtain ⟨L, hL⟩ : ∃ L, ks ++ [1 + (r2 : Int)] = L := ⟨_, rfl⟩
      have hkk := HN19.out.1.key hown hgrow hloc (intW_small _ (by omega) (by omega))
      have HLL := Lib.hid (show L.length ≤ k + 1 by rw [← hL, List.length_append]; simp; omega)
      rw [hL] at hkk hown
      have HN22 := Lib.hid (And.intro hkk (HN19.out.1.c1.grown hgrow (fun e => by have := (HN19.out.1.o.k.block _ e.symm).1; omega)))
      obtain ⟨va24, vc25, rfl, -⟩ := hown.form
      clear hown hgrow hloc hL hkk HN19
      refine hK.out _ _ trivial (fun hHeldN => ?_)
      clear hK K hHeld
      have hHeld := hHeldN
      clear hHeldN
      try simp only [Act.put, List.setIfInBounds_toArray, List.set_cons_zero, List.set_cons_succ]
      refine take_yes (i := 7) (oi := { dst := some 20, op := Op.fieldAddr 27 (Operand.tmp 3) 0, type := 0, pos := "l15_tags.go:53", after := #[{ on := 0, ground := Ground.phase }, { on := 1, ground := Ground.phase }, { on := 2, ground := Ground.phase }, { on := 3, ground := Ground.phase }, { on := 4, ground := Ground.phase }, { on := 5, ground := Ground.phase }, { on := 6, ground := Ground.phase }], guard := none }) (v := .pointer (some ⟨w.heap.size + 1, 0, none⟩)) rfl (by kernel_rfl) (by kernel_rfl) (by kernel_rfl) (fun _ _ _ h => h) (by rfl) (fun w hSw => by (try dsimp only at hSw); go_simp) (by assumption) ?_
      try simp only [Act.put, List.setIfInBounds_toArray, List.set_cons_zero, List.set_cons_succ]
      refine wpAnyH_ready (rs := [8]) (by kernel_rfl) (by simp) ?_
      refine AllReadyH.cons (o := { dst := none, op := Op.store 24 (Operand.tmp 20) (Operand.tmp 19), type := 0, pos := "l15_tags.go:53", after := #[{ on := 7, ground := Ground.data }, { on := 6, ground := Ground.data }, { on := 6, ground := Ground.chain }, { on := 0, ground := Ground.phase }, { on := 1, ground := Ground.phase }, { on := 2, ground := Ground.phase }, { on := 3, ground := Ground.phase }, { on := 4, ground := Ground.phase }, { on := 5, ground := Ground.phase }, { on := 6, ground := Ground.phase }], guard := none }) rfl (fun K hK => ?_) AllReadyH.nil
      have hc := HN22.out.2
      obtain ⟨c0, c1⟩ := cel2k hc
      have f0 := hc.frozen 0
      clear hc
      go_simp
      clear c0 c1 f0
      have HF := Lib.hid HN22.out.1
      clear HN22
      generalize wx23.setCell ⟨w.heap.size + 1, 0, none⟩ (.slice va24 L.length vc25) = w9 at *
      refine hK.out _ _ trivial (fun hHeldN => ?_)
      clear hK K hHeld
      have hHeld := hHeldN
      clear hHeldN
      try simp only [Act.put, List.setIfInBounds_toArray, List.set_cons_zero, List.set_cons_succ]
      refine wpAnyH_done (by kernel_rfl) ?_ _
      have hHeld2 := hHeld
      clear hHeld
      clear hHeld2
      go_wp2_with (fail)
      go_roundw
      case rel => exact ⟨k + 1, _, _, by omega, by go_num, HLL.out, HF.out⟩
      case measure => simp [intOf]; omega
    · have q : ¬ (k : Int) < (r : Int) := by omega
      have hl3 : ks.length ≤ 3 := by omega
      have HK2 := Lib.hid HK1.out
      clear hl hk hlt hr HK1 c3
      go_wp2_with (fail)
      rename_i hx9 _ _
      clear hx9
      go_loopw [5] (fun i wr => ∃ (k : Nat) (ku tu : Value) (ks : List Int) (ts : List Tv), k ≤ 5 ∧ i = .int .i64 k ∧ ks.length ≤ 3 ∧ ts.length ≤ k ∧ KD w wr g v n ku tu ks ts) (fun i _ => 5 - (intOf i).toNat)
      case atStart => exact ⟨0, _, _, ks, [], by omega, rfl, hl3, by simp, HK2.out⟩
      case round =>
        clear HK2 hl3 q
        clear ks ku
        obtain ⟨k, ku, tu, ks, ts, hk, rfl, hl, hlt, hK⟩ := hrel
        have hDd := hK.d
        have HK := Lib.hid hK
        clear hK
        go_wp2_with (fail)
        with_reducible refine (HCC.out.1 _ hDd).mono ?_
        rintro e w2 ⟨r, hr, rfl, d1, o1⟩
        have HK1 := Lib.hid (HK.out.grew o1.grew d1)
        clear HK hDd o1 d1
        by_cases hlr : k < r
        · have q : (k : Int) < (r : Int) := by omega
          have hS : True := trivial
          go_upto_region 9 with (fail)
          have HN := Lib.hid (show KD w w2.drew g v n ku tu ks ts from HK1.out.kept (show Below _ _ (World.drew _) from (Below.refl _ _).drew))
          clear HK1
          obtain ⟨ka, kc, rfl⟩ := HN.out.o.k.rd.form
          obtain ⟨ta, tc, rfl⟩ := HN.out.o.t.rd.form
          refine wp_region_held_drew (S := fun W => True) (by kernel_rfl) hS (fun hHeld => ?_)
          clear hS
          generalize w2.drew = wd at *
          refine take_yes (i := 1) (oi := { dst := some 28, op := Op.move (Operand.tmp 0), type := 49, pos := "l15_tags.go:56", after := #[], guard := none }) (v := .pointer (some ⟨g, 0, none⟩)) rfl (by kernel_rfl) (by kernel_rfl) (by kernel_rfl) (fun _ _ _ h => h) (by rfl) (fun w hSw => by (try dsimp only at hSw); go_simp) (by assumption) ?_
          try simp only [Act.put, List.setIfInBounds_toArray, List.set_cons_zero, List.set_cons_succ]
          refine wpAnyH_ready (rs := [0, 2]) (by kernel_rfl) (by simp) ?_
          refine AllReadyH.cons (o := { dst := some 27, op := Op.load 27 (Operand.tmp 3), type := 27, pos := "l15_tags.go:56", after := #[], guard := none }) rfl (fun K hK => ?_) ?_
          · obtain ⟨c0, c1⟩ := cel2k HN.out.c1
            go_simp
            clear c0 c1
            refine hK.out _ _ trivial (fun hHeldN => ?_)
            clear hK K hHeld
            have hHeld := hHeldN
            clear hHeldN
            try simp only [Act.put, List.setIfInBounds_toArray, List.set_cons_zero, List.set_cons_succ]
            refine wpAnyH_ready (rs := [2]) (by kernel_rfl) (by simp) ?_
            refine AllReadyH.cons (o := { dst := some 29, op := Op.call { callee := Callee.value (Operand.func 51), args := #[Operand.tmp 28], argTypes := #[49] }, type := 29, pos := "l15_tags.go:56", after := #[{ on := 1, ground := Ground.data }], guard := none }) rfl (fun K hK => ?_) AllReadyH.nil
            have hDd := HN.out.d
            go_simp
            with_reducible refine (HCC.out.2 _ hDd).mono ?_
            rintro e wx27 ⟨m, rfl, hm, d2, g2⟩
            have HN26 := Lib.hid (And.intro (HN.out.grew g2 d2) hm)
            clear HN hDd g2 d2 hm
            refine hK.out _ _ trivial (fun hHeldN => ?_)
            clear hK K hHeld
            have hHeld := hHeldN
            clear hHeldN
            try simp only [Act.put, List.setIfInBounds_toArray, List.set_cons_zero, List.set_cons_succ]
            refine wpAnyH_ready (rs := [3]) (by kernel_rfl) (by simp) ?_
            refine AllReadyH.cons (o := { dst := some 30, op := Op.call { callee := Callee.value (Operand.func 16), args := #[Operand.tmp 27, Operand.tmp 29], argTypes := #[27, 29] }, type := 27, pos := "l15_tags.go:56", after := #[{ on := 0, ground := Ground.data }, { on := 2, ground := Ground.data }, { on := 2, ground := Ground.chain }], guard := none }) rfl (fun K hK => ?_) AllReadyH.nil
            go_simp
            with_reducible refine (spec_learn _ _ ks ts m _ HN26.out.1.o.rd (by omega) (by omega)).mono ?_
            rintro e wx29 ⟨p1, d1, p2, d2, rfl, oL, bL⟩
            have hle := learn_len ks ts m
            have HN28 := Lib.hid (And.intro (HN26.out.1.kept bL) (And.intro (oL.mono HN26.out.1.lt (Nat.le_refl _)) (learn_wf HN26.out.1.wf HN26.out.2)))
            clear HN26 oL bL
            generalize learnTs ks ts m = os at *
            refine hK.out _ _ trivial (fun hHeldN => ?_)
            clear hK K hHeld
            have hHeld := hHeldN
            clear hHeldN
            try simp only [Act.put, List.setIfInBounds_toArray, List.set_cons_zero, List.set_cons_succ]
            refine wpAnyH_ready (rs := [4]) (by kernel_rfl) (by simp) ?_
            refine AllReadyH.cons (o := { dst := none, op := Op.store 27 (Operand.tmp 3) (Operand.tmp 30), type := 0, pos := "l15_tags.go:56", after := #[{ on := 3, ground := Ground.data }, { on := 3, ground := Ground.chain }, { on := 0, ground := Ground.phase }, { on := 1, ground := Ground.phase }, { on := 2, ground := Ground.phase }, { on := 3, ground := Ground.phase }], guard := none }) rfl (fun K hK => ?_) AllReadyH.nil
            obtain ⟨c0, c1⟩ := cel2k HN28.out.1.c1
            have f0 := HN28.out.1.c1.frozen 0
            have f1 := HN28.out.1.c1.frozen 1
            go_simp
            clear c0 c1 f0 f1
            have HF := Lib.hid (HN28.out.1.put HN28.out.2.1 HN28.out.2.2)
            clear HN28
            generalize (wx29.setCell ⟨w.heap.size + 1, 0, none⟩ (.slice p1 ks.length d1)).setCell ⟨w.heap.size + 1, 1, none⟩ (.slice p2 os.length d2) = w9 at *
            refine hK.out _ _ trivial (fun hHeldN => ?_)
            clear hK K hHeld
            have hHeld := hHeldN
            clear hHeldN
            try simp only [Act.put, List.setIfInBounds_toArray, List.set_cons_zero, List.set_cons_succ]
            refine wpAnyH_done (by kernel_rfl) ?_ _
            have hHeld2 := hHeld
            clear hHeld
            clear hHeld2
            go_wp2_with (fail)
            go_roundw
            case rel => exact ⟨k + 1, _, _, _, _, by omega, by go_num, hl, by omega, HF.out⟩
            case measure => simp [intOf]; omega
          refine AllReadyH.cons (o := { dst := some 29, op := Op.call { callee := Callee.value (Operand.func 51), args := #[Operand.tmp 28], argTypes := #[49] }, type := 29, pos := "l15_tags.go:56", after := #[{ on := 1, ground := Ground.data }], guard := none }) rfl (fun K hK => ?_) AllReadyH.nil
          have hDd := HN.out.d
          go_simp
          with_reducible refine (HCC.out.2 _ hDd).mono ?_
          rintro e wx31 ⟨m, rfl, hm, d2, g2⟩
          have HN30 := Lib.hid (And.intro (HN.out.grew g2 d2) hm)
          clear HN hDd g2 d2 hm
          refine hK.out _ _ trivial (fun hHeldN => ?_)
          clear hK K hHeld
          have hHeld := hHeldN
          clear hHeldN
          try simp only [Act.put, List.setIfInBounds_toArray, List.set_cons_zero, List.set_cons_succ]
          refine wpAnyH_ready (rs := [0]) (by kernel_rfl) (by simp) ?_
          refine AllReadyH.cons (o := { dst := some 27, op := Op.load 27 (Operand.tmp 3), type := 27, pos := "l15_tags.go:56", after := #[], guard := none }) rfl (fun K hK => ?_) AllReadyH.nil
          obtain ⟨c0, c1⟩ := cel2k HN30.out.1.c1
          go_simp
          clear c0 c1
          refine hK.out _ _ trivial (fun hHeldN => ?_)
          clear hK K hHeld
          have hHeld := hHeldN
          clear hHeldN
          try simp only [Act.put, List.setIfInBounds_toArray, List.set_cons_zero, List.set_cons_succ]
          refine wpAnyH_ready (rs := [3]) (by kernel_rfl) (by simp) ?_
          refine AllReadyH.cons (o := { dst := some 30, op := Op.call { callee := Callee.value (Operand.func 16), args := #[Operand.tmp 27, Operand.tmp 29], argTypes := #[27, 29] }, type := 27, pos := "l15_tags.go:56", after := #[{ on := 0, ground := Ground.data }, { on := 2, ground := Ground.data }, { on := 2, ground := Ground.chain }], guard := none }) rfl (fun K hK => ?_) AllReadyH.nil
          go_simp
          with_reducible refine (spec_learn _ _ ks ts m _ HN30.out.1.o.rd (by omega) (by omega)).mono ?_
          rintro e wx33 ⟨p1, d1, p2, d2, rfl, oL, bL⟩
          have hle := learn_len ks ts m
          have HN32 := Lib.hid (And.intro (HN30.out.1.kept bL) (And.intro (oL.mono HN30.out.1.lt (Nat.le_refl _)) (learn_wf HN30.out.1.wf HN30.out.2)))
          clear HN30 oL bL
          generalize learnTs ks ts m = os at *
          refine hK.out _ _ trivial (fun hHeldN => ?_)
          clear hK K hHeld
          have hHeld := hHeldN
          clear hHeldN
          try simp only [Act.put, List.setIfInBounds_toArray, List.set_cons_zero, List.set_cons_succ]
          refine wpAnyH_ready (rs := [4]) (by kernel_rfl) (by simp) ?_
          refine AllReadyH.cons (o := { dst := none, op := Op.store 27 (Operand.tmp 3) (Operand.tmp 30), type := 0, pos := "l15_tags.go:56", after := #[{ on := 3, ground := Ground.data }, { on := 3, ground := Ground.chain }, { on := 0, ground := Ground.phase }, { on := 1, ground := Ground.phase }, { on := 2, ground := Ground.phase }, { on := 3, ground := Ground.phase }], guard := none }) rfl (fun K hK => ?_) AllReadyH.nil
          obtain ⟨c0, c1⟩ := cel2k HN32.out.1.c1
          have f0 := HN32.out.1.c1.frozen 0
          have f1 := HN32.out.1.c1.frozen 1
          go_simp
          clear c0 c1 f0 f1
          have HF := Lib.hid (HN32.out.1.put HN32.out.2.1 HN32.out.2.2)
          clear HN32
          generalize (wx33.setCell ⟨w.heap.size + 1, 0, none⟩ (.slice p1 ks.length d1)).setCell ⟨w.heap.size + 1, 1, none⟩ (.slice p2 os.length d2) = w9 at *
          refine hK.out _ _ trivial (fun hHeldN => ?_)
          clear hK K hHeld
          have hHeld := hHeldN
          clear hHeldN
          try simp only [Act.put, List.setIfInBounds_toArray, List.set_cons_zero, List.set_cons_succ]
          refine wpAnyH_done (by kernel_rfl) ?_ _
          have hHeld2 := hHeld
          clear hHeld
          clear hHeld2
          go_wp2_with (fail)
          go_roundw
          case rel => exact ⟨k + 1, _, _, _, _, by omega, by go_num, hl, by omega, HF.out⟩
          case measure => simp [intOf]; omega
        · have q : ¬ (k : Int) < (r : Int) := by omega
          obtain ⟨ka, kc, rfl⟩ := HK1.out.o.k.rd.form
          obtain ⟨ta, tc, rfl⟩ := HK1.out.o.t.rd.form
          obtain ⟨c0, c1⟩ := cel2k HK1.out.c1
          obtain ⟨z0, z1⟩ := cel2k HK1.out.c0
          have f0 := HK1.out.c0.frozen 0
          have f1 := HK1.out.c0.frozen 1
          have hE := (HK1.out.c0.set 0 (.slice ka ks.length kc)).set 1 (.slice ta ts.length tc)
          have hb9 : Below w.heap.size w2 ((w2.setCell ⟨w.heap.size, 0, none⟩ (.slice ka ks.length kc)).setCell ⟨w.heap.size, 1, none⟩ (.slice ta ts.length tc)) := esetC_below w.heap.size w.heap.size (Nat.le_refl _) 0 [.slice ka ks.length kc, .slice ta ts.length tc] w2
          have hz9 : ((w2.setCell ⟨w.heap.size, 0, none⟩ (.slice ka ks.length kc)).setCell ⟨w.heap.size, 1, none⟩ (.slice ta ts.length tc)).heap.size = w2.heap.size := esetC_size w.heap.size 0 [.slice ka ks.length kc, .slice ta ts.length tc] w2
          have HE := Lib.hid (And.intro hE (And.intro hb9 hz9))
          clear hE hb9 hz9
          go_wp2_with (fail)
          refine bodyPost_ret (Cel.result HE.out.1 rfl _ rfl Try.underlying27 rfl (by show _ = some 2; kernel_rfl)) rfl ?_
          refine ⟨_, _, _, _, ks, ts, rfl, ?_, hl, by omega, HK1.out.wf, HK1.out.d.below HE.out.2.1 hg, HK1.out.gr.then HE.out.2.1⟩
          have ho : KnO ((w2.setCell ⟨w.heap.size, 0, none⟩ (.slice ka ks.length kc)).setCell ⟨w.heap.size, 1, none⟩ (.slice ta ts.length tc)) (w.heap.size + 2) w2.heap.size (.slice ka ks.length kc) (.slice ta ts.length tc) ks ts := HK1.out.o.keepAt fun i hi _ => esetC_other w.heap.size 0 [.slice ka ks.length kc, .slice ta ts.length tc] w2 i (by omega)
          exact ho.mono (by omega) (Nat.le_of_eq HE.out.2.2.symm)
end Go.Proofs.Ytgfkmnadbcbfkaa
