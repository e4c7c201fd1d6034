import Derived.Test.YtgfkmnadbcbfkaaTln
import Derived.Test.YtgfkmnadbcbfkaaTim
namespace Go.Proofs.Ytgfkmnadbcbfkaa
open Go.RowKit

set_option linter.unusedSimpArgs false in
set_option maxRecDepth 100000 in
set_option maxHeartbeats 4000000 in
theorem impl_copyKnown (ku tu : Value) (ks : List Int) (ts : List Tv) (w : World) (h : KnR w ku tu ks ts) (hkn : ks.length ≤ 1048577) (htn : ts.length ≤ 1048577) :
    Calls Try.prog 31 #[.agg #[ku, tu]] w fun e w' => ∃ a c b d, e = .returned (.agg #[.slice a ks.length c, .slice b ts.length d]) ∧ KnO w' w.heap.size w'.heap.size (.slice a ks.length c) (.slice b ts.length d) ks ts ∧ Below w.heap.size w w' := by
  obtain ⟨ka, kc, rfl⟩ := h.k.form
  obtain ⟨ta, tc, rfl⟩ := h.t.form
  have hA0 := Cel.new w 27 #[.slice ka ks.length kc, .slice ta ts.length tc]
  have hX0 := Cel.new (w.alloc (.cells #[.slice ka ks.length kc, .slice ta ts.length tc] 27)) 27 #[.slice none 0 0, .slice none 0 0]
  have hA1 := hA0.alloc (.cells #[.slice none 0 0, .slice none 0 0] 27)
  have hB0 : Below w.heap.size w ((w.alloc (.cells #[.slice ka ks.length kc, .slice ta ts.length tc] 27)).alloc (.cells #[.slice none 0 0, .slice none 0 0] 27)) := ((Below.refl _ _).alloc (Nat.le_refl _) _).alloc (by simp) _
  simp only [World.size_alloc] at hX0
  obtain ⟨W0, hW0⟩ : ∃ W0, ((w.alloc (.cells #[.slice ka ks.length kc, .slice ta ts.length tc] 27)).alloc (.cells #[.slice none 0 0, .slice none 0 0] 27)) = W0 := ⟨_, rfl⟩
  rw [hW0] at hA1 hB0 hX0
  obtain ⟨h1, hh1⟩ : ∃ h1, w.heap.size + 1 = h1 := ⟨_, rfl⟩
  rw [hh1] at hX0
  have HH := Lib.hid (show w.heap.size < h1 ∧ h1 ≤ W0.heap.size from ⟨by omega, Nat.le_of_lt hX0.lt⟩)
  have HD := Lib.hid (show ∀ W, Below h1 W0 W → (Below w.heap.size w W ∧ KnR W (.slice ka ks.length kc) (.slice ta ts.length tc) ks ts ∧ (W.cell? ⟨w.heap.size, 0, none⟩ = some (.slice ka ks.length kc) ∧ W.cell? ⟨w.heap.size, 1, none⟩ = some (.slice ta ts.length tc))) from fun W hW =>
    have hb := hB0.trans (hW.mono (by omega)); ⟨hb, h.below hb, cel2k ((hW.block w.heap.size (by omega)).trans hA1)⟩)
  have HW := Lib.hid (And.intro hW0 hh1)
  have hS : Below h1 W0 W0.drew := (Below.refl _ _).drew
  have HN : Hid (LnS W0.drew h1 (.slice none 0 0) (.slice none 0 0) [] [] h1 true) := Lib.hid ⟨⟨OwnE.nil, OwnE.nil, fun g hg => by simp [Value.ownBlock] at hg⟩, HH.out.2, fun _ => ⟨hX0.drew, Nat.le_refl _, by simp [Value.ownBlock], by simp [Value.ownBlock]⟩⟩
  clear hA0 hA1 hB0 hX0 hW0 hh1 h
  go_enter Try.func31, Try.ntmps31
  go_upto_region 1 with (fail)
  rw [HW.out.1, HW.out.2]
  clear HW
  refine wp_region_held_drew (S := fun W => Below h1 W0 W) (by kernel_rfl) hS (fun hHeld => ?_)
  clear hS
  generalize W0.drew = wd at *
  refine take_yes (i := 0) (oi := { dst := some 3, op := Op.fieldAddr 27 (Operand.tmp 1) 0, type := 0, pos := "l15_tags.go:63", after := #[], guard := none }) (v := .pointer (some ⟨w.heap.size, 0, none⟩)) rfl (by kernel_rfl) (by kernel_rfl) (by kernel_rfl) (fun _ _ _ h => h) (by rfl) (fun w hSw => by (try dsimp only at hSw); go_simp) (by assumption) ?_
  try simp only [Act.put, List.setIfInBounds_toArray, List.set_cons_zero, List.set_cons_succ]
  refine take_yes (i := 1) (oi := { dst := some 4, op := Op.load 24 (Operand.tmp 3), type := 24, pos := "l15_tags.go:63", after := #[{ on := 0, ground := Ground.data }], guard := none }) (v := .slice ka ks.length kc) rfl (by kernel_rfl) (by kernel_rfl) (by kernel_rfl) (fun _ _ _ h => h) (by rfl) (fun w hSw => by (try dsimp only at hSw); obtain ⟨-, -, ⟨c0, c1⟩⟩ := HD.out _ hSw; go_simp) (by assumption) ?_
  try simp only [Act.put, List.setIfInBounds_toArray, List.set_cons_zero, List.set_cons_succ]
  refine take_yes (i := 3) (oi := { dst := some 6, op := Op.fieldAddr 27 (Operand.tmp 1) 1, type := 0, pos := "l15_tags.go:63", after := #[], guard := none }) (v := .pointer (some ⟨w.heap.size, 1, none⟩)) rfl (by kernel_rfl) (by kernel_rfl) (by kernel_rfl) (fun _ _ _ h => h) (by rfl) (fun w hSw => by (try dsimp only at hSw); go_simp) (by assumption) ?_
  try simp only [Act.put, List.setIfInBounds_toArray, List.set_cons_zero, List.set_cons_succ]
  refine take_yes (i := 4) (oi := { dst := some 7, op := Op.load 25 (Operand.tmp 6), type := 25, pos := "l15_tags.go:63", after := #[{ on := 3, ground := Ground.data }], guard := none }) (v := .slice ta ts.length tc) rfl (by kernel_rfl) (by kernel_rfl) (by kernel_rfl) (fun _ _ _ h => h) (by rfl) (fun w hSw => by (try dsimp only at hSw); obtain ⟨-, -, ⟨c0, c1⟩⟩ := HD.out _ hSw; go_simp) (by assumption) ?_
  try simp only [Act.put, List.setIfInBounds_toArray, List.set_cons_zero, List.set_cons_succ]
  refine wpAnyH_ready (rs := [2]) (by kernel_rfl) (by simp) ?_
  refine AllReadyH.cons (o := { dst := some 5, op := Op.call { callee := Callee.builtin Builtin.append, args := #[Operand.const (Value.slice none 0 0), Operand.tmp 4], argTypes := #[24, 24] }, type := 24, pos := "l15_tags.go:63", after := #[{ on := 1, ground := Ground.data }], guard := none }) rfl (fun K hK => ?_) AllReadyH.nil
  refine step_append_els intK rfl _ _ 24 24 rfl Try.underlying24 Try.underlying24 h1 (.slice none 0 0) (.slice ka ks.length kc) [] ks (by simp [Act.eval, Act.put]) (by simp [Act.eval, Act.put]) HN.out.o.k (Nat.le_trans HH.out.2 hHeld.size) (HD.out _ hHeld).2.1.k (by simp; omega) ?_
  intro v' wx3 hown hgrow hloc
  rw [List.nil_append] at hown
  have KK2 := ebelow_grown hHeld (Nat.le_trans HH.out.2 hHeld.size) hgrow (fun g hg => (HN.out.o.k.block g hg).1)
  have HN1 := Lib.hid (ln_gi HN.out hown hgrow hloc)
  obtain ⟨a4, c5, rfl, -⟩ := hown.form
  clear hown hgrow hloc HN
  refine hK.out _ _ KK2 (fun hHeldN => ?_)
  clear hK K hHeld
  have hHeld := hHeldN
  clear hHeldN
  try simp only [Act.put, List.setIfInBounds_toArray, List.set_cons_zero, List.set_cons_succ]
  refine wpAnyH_ready (rs := [5]) (by kernel_rfl) (by simp) ?_
  refine AllReadyH.cons (o := { dst := some 8, op := Op.call { callee := Callee.builtin Builtin.append, args := #[Operand.const (Value.slice none 0 0), Operand.tmp 7], argTypes := #[25, 25] }, type := 25, pos := "l15_tags.go:63", after := #[{ on := 4, ground := Ground.data }, { on := 2, ground := Ground.chain }], guard := none }) rfl (fun K hK => ?_) AllReadyH.nil
  refine step_append_els tvK rfl _ _ 25 25 rfl uTv uTv h1 (.slice none 0 0) (.slice ta ts.length tc) [] ts (by simp [Act.eval, Act.put]) (by simp [Act.eval, Act.put]) HN1.out.o.t (Nat.le_trans HH.out.2 hHeld.size) (HD.out _ hHeld).2.1.t (by simp; omega) ?_
  intro v' wx8 hown hgrow hloc
  rw [List.nil_append] at hown
  have KK7 := ebelow_grown hHeld (Nat.le_trans HH.out.2 hHeld.size) hgrow (fun g hg => (HN1.out.o.t.block g hg).1)
  have HN6 := Lib.hid (ln_gt HN1.out hown hgrow hloc)
  obtain ⟨a9, c10, rfl, -⟩ := hown.form
  clear hown hgrow hloc HN1
  refine hK.out _ _ KK7 (fun hHeldN => ?_)
  clear hK K hHeld
  have hHeld := hHeldN
  clear hHeldN
  try simp only [Act.put, List.setIfInBounds_toArray, List.set_cons_zero, List.set_cons_succ]
  refine take_yes (i := 6) (oi := { dst := some 9, op := Op.build 27 #[(0, Operand.tmp 5), (1, Operand.tmp 8)], type := 27, pos := "l15_tags.go:63", after := #[{ on := 2, ground := Ground.data }, { on := 5, ground := Ground.data }], guard := none }) (v := .agg #[.slice a4 ks.length c5, .slice a9 ts.length c10]) rfl (by kernel_rfl) (by kernel_rfl) (by kernel_rfl) (fun _ _ _ h => h) (by rfl) (fun w hSw => by (try dsimp only at hSw); go_simp) (by assumption) ?_
  try simp only [Act.put, List.setIfInBounds_toArray, List.set_cons_zero, List.set_cons_succ]
  refine wpAnyH_ready (rs := [7]) (by kernel_rfl) (by simp) ?_
  refine AllReadyH.cons (o := { dst := none, op := Op.store 27 (Operand.tmp 2) (Operand.tmp 9), type := 0, pos := "l15_tags.go:63", after := #[{ on := 6, ground := Ground.data }, { on := 5, ground := Ground.chain }, { on := 0, ground := Ground.phase }, { on := 1, ground := Ground.phase }, { on := 2, ground := Ground.phase }, { on := 3, ground := Ground.phase }, { on := 4, ground := Ground.phase }, { on := 5, ground := Ground.phase }, { on := 6, ground := Ground.phase }], guard := none }) rfl (fun K hK => ?_) AllReadyH.nil
  have hx := HN6.out.x rfl
  obtain ⟨x0, x1⟩ := cel2k hx.1
  have f0 := hx.1.frozen 0
  have f1 := hx.1.frozen 1
  go_simp
  have KK12 : Below h1 W0 ((wx8.setCell ⟨h1, 0, none⟩ (.slice a4 ks.length c5)).setCell ⟨h1, 1, none⟩ (.slice a9 ts.length c10)) := hHeld.trans (esetC_below h1 h1 (Nat.le_refl _) 0 [.slice a4 ks.length c5, .slice a9 ts.length c10] wx8)
  have HF11 := Lib.hid (ln_put HN6.out)
  clear x0 x1 f0 f1 hx HN6
  generalize ((wx8.setCell ⟨h1, 0, none⟩ (.slice a4 ks.length c5)).setCell ⟨h1, 1, none⟩ (.slice a9 ts.length c10)) = w9 at *
  refine hK.out _ _ KK12 (fun hHeldN => ?_)
  clear hK K hHeld
  have hHeld := hHeldN
  clear hHeldN
  try simp only [Act.put, List.setIfInBounds_toArray, List.set_cons_zero, List.set_cons_succ]
  refine wpAnyH_done (by kernel_rfl) ?_ _
  have hHeld2 := hHeld
  clear hHeld
  have HE := Lib.hid (HD.out _ hHeld2).1
  have hx := HF11.out.x
  clear hHeld2
  go_wp2_with (fail)
  refine bodyPost_ret (Cel.result hx rfl _ rfl Try.underlying27 rfl (by show _ = some 2; kernel_rfl)) rfl ?_
  exact ⟨_, _, _, _, rfl, HF11.out.o.mono (Nat.le_of_lt HH.out.1) (Nat.le_refl _), HE.out⟩

set_option linter.unusedSimpArgs false in
set_option maxRecDepth 100000 in
set_option maxHeartbeats 8000000 in
theorem impl_learn (ku tu : Value) (ks : List Int) (ts : List Tv) (t : Tv) (w : World) (h : KnR w ku tu ks ts) (hkn : ks.length ≤ 1048576) (htn : ts.length ≤ 1048576) (hkw : KnW ks ts) (htw : TvW t) :
    Calls Try.prog 11 #[.agg #[ku, tu], .agg #[.int .i64 t.kind, .int .i64 t.one, .int .i64 t.two, .int .i64 t.a, .int .i64 t.b]] w fun e w' => ∃ a c b d, e = .returned (.agg #[.slice a ks.length c, .slice b (learnTs ks ts t).length d]) ∧ KnO w' w.heap.size w'.heap.size (.slice a ks.length c) (.slice b (learnTs ks ts t).length d) ks (learnTs ks ts t) ∧ Below w.heap.size w w' := by
  obtain ⟨ka, kc, rfl⟩ := h.k.form
  obtain ⟨ta, tc, rfl⟩ := h.t.form
  have hA0 := ((Cel.new w 27 #[.slice ka ks.length kc, .slice ta ts.length tc]).alloc (.cells #[.int .i64 t.kind, .int .i64 t.one, .int .i64 t.two, .int .i64 t.a, .int .i64 t.b] 29)).alloc (.cells #[.slice none 0 0, .slice none 0 0] 27)
  have hZ0 := (Cel.new (w.alloc (.cells #[.slice ka ks.length kc, .slice ta ts.length tc] 27)) 29 #[.int .i64 t.kind, .int .i64 t.one, .int .i64 t.two, .int .i64 t.a, .int .i64 t.b]).alloc (.cells #[.slice none 0 0, .slice none 0 0] 27)
  have hO0 := Cel.new ((w.alloc (.cells #[.slice ka ks.length kc, .slice ta ts.length tc] 27)).alloc (.cells #[.int .i64 t.kind, .int .i64 t.one, .int .i64 t.two, .int .i64 t.a, .int .i64 t.b] 29)) 27 #[.slice none 0 0, .slice none 0 0]
  have hB0 : Below w.heap.size w (((w.alloc (.cells #[.slice ka ks.length kc, .slice ta ts.length tc] 27)).alloc (.cells #[.int .i64 t.kind, .int .i64 t.one, .int .i64 t.two, .int .i64 t.a, .int .i64 t.b] 29)).alloc (.cells #[.slice none 0 0, .slice none 0 0] 27)) := (((Below.refl _ _).alloc (Nat.le_refl _) _).alloc (by simp) _).alloc (by simp; omega) _
  simp only [World.size_alloc] at hZ0 hO0
  obtain ⟨W0, hW0⟩ : ∃ W0, (((w.alloc (.cells #[.slice ka ks.length kc, .slice ta ts.length tc] 27)).alloc (.cells #[.int .i64 t.kind, .int .i64 t.one, .int .i64 t.two, .int .i64 t.a, .int .i64 t.b] 29)).alloc (.cells #[.slice none 0 0, .slice none 0 0] 27)) = W0 := ⟨_, rfl⟩
  rw [hW0] at hA0 hZ0 hB0 hO0
  obtain ⟨h1, hh1⟩ : ∃ h1, w.heap.size + 1 = h1 := ⟨_, rfl⟩
  rw [hh1] at hZ0 hO0
  obtain ⟨h2, hh2⟩ : ∃ h2, h1 + 1 = h2 := ⟨_, rfl⟩
  rw [hh2] at hO0
  have HH := Lib.hid (show w.heap.size ≤ h2 ∧ h2 < W0.heap.size from ⟨by omega, hO0.lt⟩)
  have HD := Lib.hid (show ∀ W, Below W0.heap.size W0 W → (Below w.heap.size w W ∧ KnR W (.slice ka ks.length kc) (.slice ta ts.length tc) ks ts ∧ (W.cell? ⟨w.heap.size, 0, none⟩ = some (.slice ka ks.length kc) ∧ W.cell? ⟨w.heap.size, 1, none⟩ = some (.slice ta ts.length tc)) ∧ (W.cell? ⟨h1, 0, none⟩ = some (.int .i64 t.kind) ∧ W.cell? ⟨h1, 1, none⟩ = some (.int .i64 t.one) ∧ W.cell? ⟨h1, 2, none⟩ = some (.int .i64 t.two) ∧ W.cell? ⟨h1, 3, none⟩ = some (.int .i64 t.a) ∧ W.cell? ⟨h1, 4, none⟩ = some (.int .i64 t.b)) ∧ Cel W h2 27 #[.slice none 0 0, .slice none 0 0]) from fun W hW => ⟨Below.then_ hB0 hW, h.below (Below.then_ hB0 hW), cel2k (hA0.kept hW), cel5tv (hZ0.kept hW), hO0.kept hW⟩)
  have HW := Lib.hid (And.intro hW0 (And.intro hh1 hh2))
  have cS := fun W (h : KnR W (.slice ka ks.length kc) (.slice ta ts.length tc) ks ts) => impl_canMake (.slice ka ks.length kc) (.slice ta ts.length tc) ks ts t W h (by omega) (by omega) hkw htw
  have cC := fun W (h : KnR W (.slice ka ks.length kc) (.slice ta ts.length tc) ks ts) => impl_copyKnown (.slice ka ks.length kc) (.slice ta ts.length tc) ks ts W h (by omega) (by omega)
  clear hA0 hZ0 hB0 hO0 hW0 hh1 hh2 h hkw htw
  go_enter Try.func11, Try.ntmps11
  go_upto_region 1 with (fail)
  rw [HW.out.1, HW.out.2.1, HW.out.2.2]
  clear HW
  obtain ⟨-, hr0, ⟨c0, c1⟩, -, -⟩ := HD.out W0 (Below.refl _ _)
  have HR0 := Lib.hid hr0
  clear hr0
  go_wp2_with (fail)
  with_reducible refine (cC _ HR0.out).mono ?_
  rintro e w1 ⟨a1, d1, a2, d2, rfl, oK, bK⟩
  have HX := Lib.hid (show Below W0.heap.size W0 (w1.alloc (.cells #[.slice a1 ks.length d1, .slice a2 ts.length d2] 27)) ∧ LnF (w1.alloc (.cells #[.slice a1 ks.length d1, .slice a2 ts.length d2] 27)) W0.heap.size (.slice a1 ks.length d1) (.slice a2 ts.length d2) ks ts w1.heap.size from ⟨Below.then_ bK (below_new _ _), ⟨⟨eown_alloc oK.k _, eown_alloc oK.t _, oK.sep⟩, bK.size, Cel.new _ _ _, own_block_lt oK.k, own_block_lt oK.t⟩⟩)
  clear HR0 oK bK c0 c1 cC
  go_upto_region 2 with (fail)
  generalize w1.alloc (.cells #[.slice a1 ks.length d1, .slice a2 ts.length d2] 27) = w3 at *
  generalize w1.heap.size = gb at *
  obtain ⟨-, hr3, ⟨c0, c1⟩, ⟨t0, t1, t2, t3, t4⟩, -⟩ := HD.out _ HX.out.1
  by_cases h300 : ts.length < 300
  · have q3 : (ts.length : Int) < 300 := by omega
    have HR3 := Lib.hid hr3
    clear hr3
    go_wp2_with (fail)
    with_reducible refine (cS _ HR3.out).mono ?_
    rintro e w2 ⟨rfl, b2⟩
    have HX2 := Lib.hid (And.intro (Below.then_ HX.out.1 b2) (lnf_keep HX.out.2 b2))
    clear HR3 HX b2 c0 c1 t0 t1 t2 t3 t4
    obtain ⟨-, -, ⟨c0, c1⟩, ⟨t0, t1, t2, t3, t4⟩, -⟩ := HD.out w2 HX2.out.1
    cases hok : canMk ks ts t with
    | true =>
      have HL := Lib.hid (show learnTs ks ts t = ts from by simp [learnTs, hok])
      clear hok
      obtain ⟨x0, x1⟩ := cel2k HX2.out.2.x
      have hO := (HD.out _ HX2.out.1).2.2.2.2
      obtain ⟨z0, z1⟩ := cel2k hO
      have f0 := hO.frozen 0
      have f1 := hO.frozen 1
      have hE := (hO.set 0 (.slice a1 ks.length d1)).set 1 (.slice a2 ts.length d2)
      have hb9 : Below w.heap.size w2 ((w2.setCell ⟨h2, 0, none⟩ (.slice a1 ks.length d1)).setCell ⟨h2, 1, none⟩ (.slice a2 ts.length d2)) := esetC_below h2 w.heap.size HH.out.1 0 [.slice a1 ks.length d1, .slice a2 ts.length d2] w2
      have hz9 : ((w2.setCell ⟨h2, 0, none⟩ (.slice a1 ks.length d1)).setCell ⟨h2, 1, none⟩ (.slice a2 ts.length d2)).heap.size = w2.heap.size := esetC_size h2 0 [.slice a1 ks.length d1, .slice a2 ts.length d2] w2
      have HE := Lib.hid (And.intro hE (And.intro hb9 hz9))
      clear hO hE hb9 hz9
      go_wp2_with (fail)
      refine bodyPost_ret (Cel.result HE.out.1 rfl _ rfl Try.underlying27 rfl (by show _ = some 2; kernel_rfl)) rfl ?_
      rw [HL.out]
      refine ⟨_, _, _, _, rfl, ?_, (HD.out _ HX2.out.1).1.trans HE.out.2.1⟩
      rw [HE.out.2.2]
      have ho := HX2.out.2.o
      have hz := (HD.out W0 (Below.refl _ _)).1.size
      exact ⟨(own_other (own_other ho.k HH.out.2 _) HH.out.2 _).mono hz (Nat.le_refl _), (own_other (own_other ho.t HH.out.2 _) HH.out.2 _).mono hz (Nat.le_refl _), ho.sep⟩
    | false =>
      obtain ⟨L, hL⟩ : ∃ L, ts ++ [t] = L := ⟨_, rfl⟩
      have HL := Lib.hid (show learnTs ks ts t = L from by simp [learnTs, hok, h300, hL])
      have HLL := Lib.hid hL
      clear hL hok
      obtain ⟨x0, x1⟩ := cel2k HX2.out.2.x
      have HA := Lib.hid (And.intro (lnf_keep HX2.out.2 (below_new w2 (.cells #[.int .i64 t.kind, .int .i64 t.one, .int .i64 t.two, .int .i64 t.a, .int .i64 t.b] 29))) (And.intro (rd_tvbox (Cel.new w2 29 #[.int .i64 t.kind, .int .i64 t.one, .int .i64 t.two, .int .i64 t.a, .int .i64 t.b])) (Below.then_ HX2.out.1 (below_new w2 (.cells #[.int .i64 t.kind, .int .i64 t.one, .int .i64 t.two, .int .i64 t.a, .int .i64 t.b] 29)))))
      have hbx := (Cel.kept HX2.out.2.x (below_new w2 (.cells #[.int .i64 t.kind, .int .i64 t.one, .int .i64 t.two, .int .i64 t.a, .int .i64 t.b] 29)))
      have HBX := Lib.hid hbx
      clear hbx
      go_upto_region 4 with (at_builtin; go_loud (refine wpList_append_els tvK rfl _ _ 25 25 rfl uTv uTv W0.heap.size (.slice a2 ts.length d2) (.slice (some ⟨w2.heap.size, 0, none⟩) 1 1) ts [t] (by simp [Act.eval, Act.put]) (by simp [Act.eval, Act.put]) HA.out.1.o.t HA.out.2.2.size HA.out.2.1 (by simp; omega) ?_); intro v' w5 hown hgrow hloc; rw [HLL.out] at hown; have hq := lnf_grow HA.out.1 hown hgrow hloc; obtain ⟨y0, y1⟩ := cel2k hq.1; have f5 := hq.1.frozen 1; have HG := Lib.hid (And.intro (show Below W0.heap.size W0 (w5.setCell ⟨gb, 1, none⟩ v') from (ebelow_grown HA.out.2.2 HA.out.2.2.size hgrow (fun g hg => (HA.out.1.o.t.block g hg).1)).trans (esetC_below gb W0.heap.size HA.out.1.l 1 [v'] w5)) hq.2); obtain ⟨a6, c6, rfl, -⟩ := hown.form; clear hown hgrow hloc hq)
      generalize w5.setCell ⟨gb, 1, none⟩ (.slice a6 L.length c6) = w6 at *
      clear HA HBX HX2 x0 x1 c0 c1 t0 t1 t2 t3 t4
      obtain ⟨x0, x1⟩ := cel2k HG.out.2.x
      have hO := (HD.out _ HG.out.1).2.2.2.2
      obtain ⟨z0, z1⟩ := cel2k hO
      have f0 := hO.frozen 0
      have f1 := hO.frozen 1
      have hE := (hO.set 0 (.slice a1 ks.length d1)).set 1 (.slice a6 L.length c6)
      have hb9 : Below w.heap.size w6 ((w6.setCell ⟨h2, 0, none⟩ (.slice a1 ks.length d1)).setCell ⟨h2, 1, none⟩ (.slice a6 L.length c6)) := esetC_below h2 w.heap.size HH.out.1 0 [.slice a1 ks.length d1, .slice a6 L.length c6] w6
      have hz9 : ((w6.setCell ⟨h2, 0, none⟩ (.slice a1 ks.length d1)).setCell ⟨h2, 1, none⟩ (.slice a6 L.length c6)).heap.size = w6.heap.size := esetC_size h2 0 [.slice a1 ks.length d1, .slice a6 L.length c6] w6
      have HE := Lib.hid (And.intro hE (And.intro hb9 hz9))
      clear hO hE hb9 hz9
      go_wp2_with (fail)
      refine bodyPost_ret (Cel.result HE.out.1 rfl _ rfl Try.underlying27 rfl (by show _ = some 2; kernel_rfl)) rfl ?_
      rw [HL.out]
      refine ⟨_, _, _, _, rfl, ?_, (HD.out _ HG.out.1).1.trans HE.out.2.1⟩
      rw [HE.out.2.2]
      have ho := HG.out.2.o
      have hz := (HD.out W0 (Below.refl _ _)).1.size
      exact ⟨(own_other (own_other ho.k HH.out.2 _) HH.out.2 _).mono hz (Nat.le_refl _), (own_other (own_other ho.t HH.out.2 _) HH.out.2 _).mono hz (Nat.le_refl _), ho.sep⟩
  · have q3 : ¬ (ts.length : Int) < 300 := by omega
    have HL := Lib.hid (show learnTs ks ts t = ts from by simp [learnTs, h300])
    clear hr3
    obtain ⟨x0, x1⟩ := cel2k HX.out.2.x
    have hO := (HD.out _ HX.out.1).2.2.2.2
    obtain ⟨z0, z1⟩ := cel2k hO
    have f0 := hO.frozen 0
    have f1 := hO.frozen 1
    have hE := (hO.set 0 (.slice a1 ks.length d1)).set 1 (.slice a2 ts.length d2)
    have hb9 : Below w.heap.size w3 ((w3.setCell ⟨h2, 0, none⟩ (.slice a1 ks.length d1)).setCell ⟨h2, 1, none⟩ (.slice a2 ts.length d2)) := esetC_below h2 w.heap.size HH.out.1 0 [.slice a1 ks.length d1, .slice a2 ts.length d2] w3
    have hz9 : ((w3.setCell ⟨h2, 0, none⟩ (.slice a1 ks.length d1)).setCell ⟨h2, 1, none⟩ (.slice a2 ts.length d2)).heap.size = w3.heap.size := esetC_size h2 0 [.slice a1 ks.length d1, .slice a2 ts.length d2] w3
    have HE := Lib.hid (And.intro hE (And.intro hb9 hz9))
    clear hO hE hb9 hz9
    go_wp2_with (fail)
    refine bodyPost_ret (Cel.result HE.out.1 rfl _ rfl Try.underlying27 rfl (by show _ = some 2; kernel_rfl)) rfl ?_
    rw [HL.out]
    refine ⟨_, _, _, _, rfl, ?_, (HD.out _ HX.out.1).1.trans HE.out.2.1⟩
    rw [HE.out.2.2]
    have ho := HX.out.2.o
    have hz := (HD.out W0 (Below.refl _ _)).1.size
    exact ⟨(own_other (own_other ho.k HH.out.2 _) HH.out.2 _).mono hz (Nat.le_refl _), (own_other (own_other ho.t HH.out.2 _) HH.out.2 _).mono hz (Nat.le_refl _), ho.sep⟩
end Go.Proofs.Ytgfkmnadbcbfkaa
