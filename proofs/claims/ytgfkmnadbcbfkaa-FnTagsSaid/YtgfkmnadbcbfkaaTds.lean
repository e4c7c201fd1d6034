import Derived.Test.YtgfkmnadbcbfkaaTdr
import Derived.Test.YtgfkmnadbcbfkaaTms
import Derived.Test.YtgfkmnadbcbfkaaBig
namespace Go.Proofs.Ytgfkmnadbcbfkaa
open Go.RowKit

theorem results_cell_cell {fn : Func} {p u : Tmp} {ty tu : TypeId} (h : fn.results = #[.cell p ty, .cell u tu]) (tmps : Array Value) (P : Program) (w : World) :
    (results fn tmps).run P w =
      ((asAddr (tmps.getD p undef)).run P w).andThen fun a w₁ => ((loadVar ty a).run P w₁).andThen fun v w₂ => ((asAddr (tmps.getD u undef)).run P w₂).andThen fun b w₃ => ((loadVar tu b).run P w₃).andThen fun x w₄ => .ok (.tuple #[v, x]) w₄ := by
  simp only [results, h]
  simp [Sem.run_bind, Result.andThen]
theorem kt_result {W : World} {g g2 : Nat} {x0 x1 y0 y1 y2 y3 y4 : Value} (h : Cel W g 27 #[x0, x1]) (h2 : Cel W g2 29 #[y0, y1, y2, y3, y4]) {fn : Func} {p u : Tmp} (hr : fn.results = #[.cell p 27, .cell u 29]) (tmps : Array Value) (hp : tmps.getD p undef = .pointer (some ⟨g, 0, none⟩)) (hu : tmps.getD u undef = .pointer (some ⟨g2, 0, none⟩)) :
    (results fn tmps).run Try.prog W = .ok (.tuple #[.agg #[x0, x1], .agg #[y0, y1, y2, y3, y4]]) W := by
  rw [results_cell_cell hr, hp, hu]
  simp [asAddr, run_loadVar_row W g 27 27 _ (0, 0) _ h Try.underlying27 rfl (show _ = some 2 by kernel_rfl), run_loadVar_row W g2 29 29 _ (0, 0) _ h2 Try.underlying29 rfl (show _ = some 5 by kernel_rfl), Result.andThen]

/-- While a case is drawn: the two results' blocks, the box of what is known, its rows. -/
structure KC (w W : World) (g b5 : Nat) (ku tu : Value) (ks : List Int) (ts : List Tv) (x0 x1 : Array Value) : Prop where
  c0 : Cel W w.heap.size 27 x0
  c1 : Cel W (w.heap.size + 1) 29 x1
  c5 : Cel W b5 27 #[ku, tu]
  o : KnO W (w.heap.size + 3) W.heap.size ku tu ks ts
  b : Below w.heap.size w W
  hg : g = w.heap.size + 2
  l5 : w.heap.size + 3 ≤ b5
section
variable {w W W' : World} {g b5 : Nat} {ku tu : Value} {ks : List Int} {ts : List Tv} {x0 x1 : Array Value}
theorem KC.grew (h : KC w W g b5 ku tu ks ts x0 x1) (ho : Grew g W W') : KC w W' g b5 ku tu ks ts x0 x1 :=
  have h1 := h.hg
  have h2 := h.l5
  ⟨h.c0.grew ho (by omega), h.c1.grew ho (by omega), h.c5.grew ho (by omega), h.o.grew ho (by omega), h.b.trans (ho.below (by omega) h.b.size), h.hg, h.l5⟩
theorem KC.kept (h : KC w W g b5 ku tu ks ts x0 x1) (hb : Below W.heap.size W W') : KC w W' g b5 ku tu ks ts x0 x1 :=
  ⟨h.c0.kept hb, h.c1.kept hb, h.c5.kept hb, h.o.full hb, Below.then_ h.b hb, h.hg, h.l5⟩
theorem KC.put0 (h : KC w W g b5 ku tu ks ts #[.slice none 0 0, .slice none 0 0] x1) (u1 u2 : Value) : KC w ((W.setCell ⟨w.heap.size, 0, none⟩ u1).setCell ⟨w.heap.size, 1, none⟩ u2) g b5 ku tu ks ts #[u1, u2] x1 := by
  have h2 := h.l5
  have hB : Below w.heap.size W ((W.setCell ⟨w.heap.size, 0, none⟩ u1).setCell ⟨w.heap.size, 1, none⟩ u2) := esetC_below _ _ (Nat.le_refl _) 0 [u1, u2] W
  have hz : ((W.setCell ⟨w.heap.size, 0, none⟩ u1).setCell ⟨w.heap.size, 1, none⟩ u2).heap.size = W.heap.size := esetC_size _ 0 [u1, u2] W
  have ho : ∀ i, i ≠ w.heap.size → ((W.setCell ⟨w.heap.size, 0, none⟩ u1).setCell ⟨w.heap.size, 1, none⟩ u2).heap[i]? = W.heap[i]? := fun i hi => esetC_other _ 0 [u1, u2] W i hi
  refine ⟨(h.c0.set 0 u1).set 1 u2, (ho _ (by omega)).trans h.c1, (ho _ (by omega)).trans h.c5, ?_, h.b.trans hB, h.hg, h.l5⟩
  rw [hz]
  exact h.o.keepAt fun i hi _ => ho i (by omega)
theorem KC.put1 (h : KC w W g b5 ku tu ks ts x0 #[.int .i64 0, .int .i64 0, .int .i64 0, .int .i64 0, .int .i64 0]) (u0 u1 u2 u3 u4 : Value) : KC w (((((W.setCell ⟨w.heap.size + 1, 0, none⟩ u0).setCell ⟨w.heap.size + 1, 1, none⟩ u1).setCell ⟨w.heap.size + 1, 2, none⟩ u2).setCell ⟨w.heap.size + 1, 3, none⟩ u3).setCell ⟨w.heap.size + 1, 4, none⟩ u4) g b5 ku tu ks ts x0 #[u0, u1, u2, u3, u4] := by
  have h2 := h.l5
  have hB : Below w.heap.size W (((((W.setCell ⟨w.heap.size + 1, 0, none⟩ u0).setCell ⟨w.heap.size + 1, 1, none⟩ u1).setCell ⟨w.heap.size + 1, 2, none⟩ u2).setCell ⟨w.heap.size + 1, 3, none⟩ u3).setCell ⟨w.heap.size + 1, 4, none⟩ u4) := esetC_below _ _ (Nat.le_succ _) 0 [u0, u1, u2, u3, u4] W
  have hz : (((((W.setCell ⟨w.heap.size + 1, 0, none⟩ u0).setCell ⟨w.heap.size + 1, 1, none⟩ u1).setCell ⟨w.heap.size + 1, 2, none⟩ u2).setCell ⟨w.heap.size + 1, 3, none⟩ u3).setCell ⟨w.heap.size + 1, 4, none⟩ u4).heap.size = W.heap.size := esetC_size _ 0 [u0, u1, u2, u3, u4] W
  have ho : ∀ i, i ≠ w.heap.size + 1 → (((((W.setCell ⟨w.heap.size + 1, 0, none⟩ u0).setCell ⟨w.heap.size + 1, 1, none⟩ u1).setCell ⟨w.heap.size + 1, 2, none⟩ u2).setCell ⟨w.heap.size + 1, 3, none⟩ u3).setCell ⟨w.heap.size + 1, 4, none⟩ u4).heap[i]? = W.heap[i]? := fun i hi => esetC_other _ 0 [u0, u1, u2, u3, u4] W i hi
  refine ⟨(ho _ (by omega)).trans h.c0, ((((h.c1.set 0 u0).set 1 u1).set 2 u2).set 3 u3).set 4 u4, (ho _ (by omega)).trans h.c5, ?_, h.b.trans hB, h.hg, h.l5⟩
  rw [hz]
  exact h.o.keepAt fun i hi _ => ho i (by omega)
end
theorem own_head {α : Type} {K : EK α} {W : World} {B C n c : Nat} {a : Option Addr} {xs : List α} (h : OwnE K W B C (.slice a n c) xs) (h0 : 0 < xs.length) : ∃ b, a = some ⟨b, 0, none⟩ := by
  obtain ⟨a', c', he, hg⟩ := h.form
  injection he with e1 e2 e3
  subst e1
  obtain ⟨g, h1, -⟩ := hg h0
  exact ⟨g, h1⟩
/-- What a drawn case is. -/
def CaseR (w w' : World) (a b : Option Addr) (c d : Nat) (ks : List Int) (ts : List Tv) (t : Tv) : Prop :=
  KnO w' w.heap.size w'.heap.size (.slice a ks.length c) (.slice b ts.length d) ks ts ∧ ks.length ≤ 3 ∧ ts.length ≤ 5 ∧ KnW ks ts ∧ TvW t ∧ Below w.heap.size w w'

set_option linter.unusedSimpArgs false in
set_option maxRecDepth 100000 in
set_option maxHeartbeats 8000000 in
theorem case_dr (v : Value) (n : Nat) (w : World) (hv : RdB w v n) (hn : n ≤ 1048576) :
    Calls Try.prog 30 #[v] w fun e w' => ∃ a c b d ks ts t, e = .returned (.tuple #[.agg #[.slice a (ks : List Int).length c, .slice b (ts : List Tv).length d], .agg #[.int .i64 t.kind, .int .i64 t.one, .int .i64 t.two, .int .i64 t.a, .int .i64 t.b]]) ∧ CaseR w w' a b c d ks ts t := by
  have b1 := below_new w (.cells #[.slice none 0 0, .slice none 0 0] 27)
  have b2 := below_new (w.alloc (.cells #[.slice none 0 0, .slice none 0 0] 27)) (.cells #[.int .i64 0, .int .i64 0, .int .i64 0, .int .i64 0, .int .i64 0] 29)
  have hC0 := (Cel.new w 27 #[.slice none 0 0, .slice none 0 0]).kept b2
  have hC1 := Cel.new (w.alloc (.cells #[.slice none 0 0, .slice none 0 0] 27)) 29 #[.int .i64 0, .int .i64 0, .int .i64 0, .int .i64 0, .int .i64 0]
  have hB := Below.then_ b1 b2
  have hz : ((w.alloc (.cells #[.slice none 0 0, .slice none 0 0] 27)).alloc (.cells #[.int .i64 0, .int .i64 0, .int .i64 0, .int .i64 0, .int .i64 0] 29)).heap.size = w.heap.size + 2 := by simp
  have cN := new_dr v n _ (hv.below hB hv.lt) hn
  rw [hz] at cN
  simp only [World.size_alloc] at hC1
  have HE := Lib.hid (And.intro hB (And.intro hC0 (And.intro hC1 hz)))
  have c12 := fun W h => once_dr (w.heap.size + 2) v n 12 12 rfl W h (by omega) (by omega)
  have c3 := fun W h => once_dr (w.heap.size + 2) v n 3 3 rfl W h (by omega) (by omega)
  have cT := fun W h => tag_dr (w.heap.size + 2) v n W h
  have HC := Lib.hid (And.intro c12 (And.intro c3 cT))
  clear b1 b2 hC0 hC1 hB hv c12 c3 cT hz
  go_enter Try.func30, Try.ntmps30
  go_wp2_with (fail)
  generalize (w.alloc (.cells #[.slice none 0 0, .slice none 0 0] 27)).alloc (.cells #[.int .i64 0, .int .i64 0, .int .i64 0, .int .i64 0, .int .i64 0] 29) = w0 at *
  with_reducible refine cN.mono ?_
  rintro e w1 ⟨rfl, d1, hb1⟩
  have hz1 := d1.blk
  have cK := known_dr _ v n w1 d1
  clear cN d1
  go_wp2_with (fail)
  with_reducible refine cK.mono ?_
  rintro e w2 ⟨ka, kc, ta, tc, ks, ts, rfl, hO, hl1, hl2, hwf, d2, g2⟩
  have hbx := below_new w2 (.cells #[.slice ka ks.length kc, .slice ta ts.length tc] 27)
  have HD := Lib.hid (d2.kept hbx)
  have HK : Hid (KC w (w2.alloc (.cells #[.slice ka ks.length kc, .slice ta ts.length tc] 27)) (w.heap.size + 2) w2.heap.size (.slice ka ks.length kc) (.slice ta ts.length tc) ks ts #[.slice none 0 0, .slice none 0 0] #[.int .i64 0, .int .i64 0, .int .i64 0, .int .i64 0, .int .i64 0]) := Lib.hid (by
    obtain ⟨e1, e2, e3, e4⟩ := HE.out
    have hg := g2.size
    refine ⟨((e2.below hb1 (by omega)).grew g2 (by omega)).kept hbx, ((e3.below hb1 (by omega)).grew g2 (by omega)).kept hbx, Cel.new _ _ _, (hO.mono (by omega) (Nat.le_refl _)).full hbx, Below.then_ ((e1.trans (hb1.mono (by omega))).trans (g2.below (by omega) (by omega))) hbx, rfl, by omega⟩)
  have HW := Lib.hid (And.intro hl1 (And.intro hl2 hwf))
  clear hO hl1 hl2 hwf d2 g2 hbx HE hb1 hz1 cK
  go_upto_region 3 with (fail)
  generalize w2.alloc (.cells #[.slice ka ks.length kc, .slice ta ts.length tc] 27) = w3 at *
  generalize w2.heap.size = b5 at *
  obtain ⟨c0, c1⟩ := cel2k HK.out.c5
  by_cases h0 : 0 < ts.length
  · have q0 : (0 : Int) < (ts.length : Int) := by omega
    go_wp2_with (fail)
    have hDd := HD.out
    with_reducible refine (HC.out.2.1 _ hDd).mono ?_
    rintro e w4 ⟨bb, rfl, d4, o4⟩
    have HK4 := Lib.hid (HK.out.grew o4.grew)
    have HD4 := Lib.hid d4
    clear HK HD d4 o4 hDd c0 c1
    obtain ⟨c0, c1⟩ := cel2k HK4.out.c5
    cases bb with
    | true =>
      go_upto_region 4 with (fail)
      obtain ⟨tb, rfl⟩ := own_head HK4.out.o.t h0
      have HN := Lib.hid (HK4.out.kept (show Below _ _ (World.drew _) from (Below.refl _ _).drew))
      have hdd : Dr w4.drew (w.heap.size + 2) v n := HD4.out.kept (show Below _ _ (World.drew _) from (Below.refl _ _).drew)
      have HDN := Lib.hid hdd
      have hS := And.intro HN.out.c5 HN.out.o
      have hlen := HW.out.2.1
      have cB := fun W h => bel_dr (w.heap.size + 2) v n ts.length (ts.length : Int) rfl W h h0 (by omega)
      clear HK4 HD4 hdd c0 c1
      refine wp_region_held_drew (S := fun W => Cel W b5 27 #[.slice ka ks.length kc, .slice (some ⟨tb, 0, none⟩) ts.length tc] ∧ KnO W (w.heap.size + 3) W.heap.size (.slice ka ks.length kc) (.slice (some ⟨tb, 0, none⟩) ts.length tc) ks ts) (by kernel_rfl) hS (fun hHeld => ?_)
      clear hS
      generalize w4.drew = wd at *
      refine take_yes (i := 0) (oi := { dst := some 18, op := Op.load 27 (Operand.tmp 5), type := 27, pos := "l15_tags.go:74", after := #[], guard := none }) (v := .agg #[.slice ka ks.length kc, .slice (some ⟨tb, 0, none⟩) ts.length tc]) rfl (by kernel_rfl) (by kernel_rfl) (by kernel_rfl) (fun _ _ _ h => h) (by rfl) (fun w hSw => by (try dsimp only at hSw); obtain ⟨c0, c1⟩ := cel2k hSw.1; go_simp) (by assumption) ?_
      try simp only [Act.put, List.setIfInBounds_toArray, List.set_cons_zero, List.set_cons_succ]
      refine take_yes (i := 1) (oi := { dst := some 19, op := Op.fieldAddr 27 (Operand.tmp 5) 1, type := 0, pos := "l15_tags.go:74", after := #[{ on := 10, ground := Ground.gcOnly Departure.lateStores }], guard := none }) (v := .pointer (some ⟨b5, 1, none⟩)) rfl (by kernel_rfl) (by kernel_rfl) (by kernel_rfl) (fun _ _ _ h => h) (by rfl) (fun w hSw => by (try dsimp only at hSw); go_simp) (by assumption) ?_
      try simp only [Act.put, List.setIfInBounds_toArray, List.set_cons_zero, List.set_cons_succ]
      refine take_yes (i := 2) (oi := { dst := some 20, op := Op.load 25 (Operand.tmp 19), type := 25, pos := "l15_tags.go:74", after := #[{ on := 1, ground := Ground.data }, { on := 10, ground := Ground.gcOnly Departure.lateStores }], guard := none }) (v := .slice (some ⟨tb, 0, none⟩) ts.length tc) rfl (by kernel_rfl) (by kernel_rfl) (by kernel_rfl) (fun _ _ _ h => h) (by rfl) (fun w hSw => by (try dsimp only at hSw); obtain ⟨c0, c1⟩ := cel2k hSw.1; go_simp) (by assumption) ?_
      try simp only [Act.put, List.setIfInBounds_toArray, List.set_cons_zero, List.set_cons_succ]
      refine take_yes (i := 3) (oi := { dst := some 21, op := Op.move (Operand.tmp 4), type := 49, pos := "l15_tags.go:74", after := #[], guard := none }) (v := .pointer (some ⟨w.heap.size + 2, 0, none⟩)) rfl (by kernel_rfl) (by kernel_rfl) (by kernel_rfl) (fun _ _ _ h => h) (by rfl) (fun w hSw => by (try dsimp only at hSw); go_simp) (by assumption) ?_
      try simp only [Act.put, List.setIfInBounds_toArray, List.set_cons_zero, List.set_cons_succ]
      refine take_yes (i := 4) (oi := { dst := some 22, op := Op.fieldAddr 27 (Operand.tmp 5) 1, type := 0, pos := "l15_tags.go:74", after := #[], guard := none }) (v := .pointer (some ⟨b5, 1, none⟩)) rfl (by kernel_rfl) (by kernel_rfl) (by kernel_rfl) (fun _ _ _ h => h) (by rfl) (fun w hSw => by (try dsimp only at hSw); go_simp) (by assumption) ?_
      try simp only [Act.put, List.setIfInBounds_toArray, List.set_cons_zero, List.set_cons_succ]
      refine take_yes (i := 5) (oi := { dst := some 23, op := Op.load 25 (Operand.tmp 22), type := 25, pos := "l15_tags.go:74", after := #[{ on := 4, ground := Ground.data }], guard := none }) (v := .slice (some ⟨tb, 0, none⟩) ts.length tc) rfl (by kernel_rfl) (by kernel_rfl) (by kernel_rfl) (fun _ _ _ h => h) (by rfl) (fun w hSw => by (try dsimp only at hSw); obtain ⟨c0, c1⟩ := cel2k hSw.1; go_simp) (by assumption) ?_
      try simp only [Act.put, List.setIfInBounds_toArray, List.set_cons_zero, List.set_cons_succ]
      refine take_yes (i := 6) (oi := { dst := some 24, op := Op.call { callee := Callee.builtin Builtin.len, args := #[Operand.tmp 23], argTypes := #[25] }, type := 3, pos := "l15_tags.go:74", after := #[{ on := 5, ground := Ground.data }], guard := none }) (v := .int .i64 (ts.length : Int)) rfl (by kernel_rfl) (by kernel_rfl) (by kernel_rfl) (fun _ _ _ h => h) (by rfl) (fun w hSw => by (try dsimp only at hSw); go_simp) (by assumption) ?_
      try simp only [Act.put, List.setIfInBounds_toArray, List.set_cons_zero, List.set_cons_succ]
      refine wpAnyH_ready (rs := [7]) (by kernel_rfl) (by simp) ?_
      refine AllReadyH.cons (o := { dst := some 25, op := Op.call { callee := Callee.value (Operand.func 33), args := #[Operand.tmp 21, Operand.tmp 24], argTypes := #[49, 3] }, type := 3, pos := "l15_tags.go:74", after := #[{ on := 3, ground := Ground.data }, { on := 6, ground := Ground.data }], guard := none }) rfl (fun K hK => ?_) AllReadyH.nil
      have hDd := HDN.out
      go_simp
      with_reducible refine (cB _ hDd).mono ?_
      rintro e wx2 ⟨r, hr, rfl, d6, o6⟩
      have HN1 := Lib.hid (HN.out.grew o6.grew)
      obtain ⟨m, hm⟩ : ∃ m, ts[r] = m := ⟨_, rfl⟩
      have HM := Lib.hid (And.intro hm (show TvW m by rw [← hm]; exact HW.out.2.2.2 _ (List.getElem_mem hr)))
      have qr : (0 : Int) ≤ (r : Int) ∧ (r : Int) < (ts.length : Int) := by omega
      clear HN hDd d6 o6 hm HDN
      refine hK.out _ _ ⟨HN1.out.c5, HN1.out.o⟩ (fun hHeldN => ?_)
      clear hK K hHeld
      have hHeld := hHeldN
      clear hHeldN
      try simp only [Act.put, List.setIfInBounds_toArray, List.set_cons_zero, List.set_cons_succ]
      refine take_yes (i := 8) (oi := { dst := some 26, op := Op.indexAddr 25 (Operand.tmp 20) (Operand.tmp 25), type := 0, pos := "l15_tags.go:74", after := #[{ on := 2, ground := Ground.data }, { on := 7, ground := Ground.data }, { on := 10, ground := Ground.gcOnly Departure.lateStores }], guard := none }) (v := .pointer (some ⟨tb, r * 5, none⟩)) rfl (by kernel_rfl) (by kernel_rfl) (by kernel_rfl) (fun _ _ _ h => h) (by rfl) (fun w hSw => by (try dsimp only at hSw); go_simp) (by assumption) ?_
      try simp only [Act.put, List.setIfInBounds_toArray, List.set_cons_zero, List.set_cons_succ]
      refine take_yes (i := 9) (oi := { dst := some 27, op := Op.load 29 (Operand.tmp 26), type := 29, pos := "l15_tags.go:74", after := #[{ on := 8, ground := Ground.data }, { on := 10, ground := Ground.gcOnly Departure.lateStores }], guard := none }) (v := .agg #[.int .i64 m.kind, .int .i64 m.one, .int .i64 m.two, .int .i64 m.a, .int .i64 m.b]) rfl (by kernel_rfl) (by kernel_rfl) (by kernel_rfl) (fun _ _ _ h => h) (by rfl) (fun w hSw => by (try dsimp only at hSw); obtain ⟨k0, k1, k2, k3, k4, -⟩ := tv_own hSw.2.t r hr; rw [HM.out.1] at k0 k1 k2 k3 k4; go_simp) (by assumption) ?_
      try simp only [Act.put, List.setIfInBounds_toArray, List.set_cons_zero, List.set_cons_succ]
      refine wpAnyH_ready (rs := [10]) (by kernel_rfl) (by simp) ?_
      refine AllReadyH.cons (o := { dst := none, op := Op.store 27 (Operand.tmp 2) (Operand.tmp 18), type := 0, pos := "l15_tags.go:74", after := #[{ on := 0, ground := Ground.data }, { on := 7, ground := Ground.chain }, { on := 0, ground := Ground.phase }, { on := 1, ground := Ground.textOnly Departure.lateStores }, { on := 2, ground := Ground.textOnly Departure.lateStores }, { on := 3, ground := Ground.textOnly Departure.lateStores }, { on := 4, ground := Ground.textOnly Departure.lateStores }, { on := 5, ground := Ground.textOnly Departure.lateStores }, { on := 6, ground := Ground.textOnly Departure.lateStoresUnsure }, { on := 7, ground := Ground.textOnly Departure.lateStoresUnsure }, { on := 8, ground := Ground.textOnly Departure.lateStores }, { on := 9, ground := Ground.textOnly Departure.lateStores }], guard := none }) rfl (fun K hK => ?_) AllReadyH.nil
      obtain ⟨z0, z1⟩ := cel2k HN1.out.c0
      have f0 := HN1.out.c0.frozen 0
      have f1 := HN1.out.c0.frozen 1
      go_simp
      clear z0 z1 f0 f1
      have HN3 := Lib.hid (HN1.out.put0 (.slice ka ks.length kc) (.slice (some ⟨tb, 0, none⟩) ts.length tc))
      clear HN1
      generalize (wx2.setCell ⟨w.heap.size, 0, none⟩ (.slice ka ks.length kc)).setCell ⟨w.heap.size, 1, none⟩ (.slice (some ⟨tb, 0, none⟩) ts.length tc) = wx4 at *
      refine hK.out _ _ ⟨HN3.out.c5, HN3.out.o⟩ (fun hHeldN => ?_)
      clear hK K hHeld
      have hHeld := hHeldN
      clear hHeldN
      try simp only [Act.put, List.setIfInBounds_toArray, List.set_cons_zero, List.set_cons_succ]
      refine wpAnyH_ready (rs := [11]) (by kernel_rfl) (by simp) ?_
      refine AllReadyH.cons (o := { dst := none, op := Op.store 29 (Operand.tmp 3) (Operand.tmp 27), type := 0, pos := "l15_tags.go:74", after := #[{ on := 9, ground := Ground.data }, { on := 10, ground := Ground.chain }, { on := 0, ground := Ground.phase }, { on := 1, ground := Ground.phase }, { on := 2, ground := Ground.phase }, { on := 3, ground := Ground.phase }, { on := 4, ground := Ground.phase }, { on := 5, ground := Ground.phase }, { on := 6, ground := Ground.phase }, { on := 7, ground := Ground.phase }, { on := 8, ground := Ground.phase }, { on := 9, ground := Ground.phase }, { on := 10, ground := Ground.phase }], guard := none }) rfl (fun K hK => ?_) AllReadyH.nil
      obtain ⟨y0, y1, y2, y3, y4⟩ := cel5tv HN3.out.c1
      have k0 := HN3.out.c1.frozen 0
      have k1 := HN3.out.c1.frozen 1
      have k2 := HN3.out.c1.frozen 2
      have k3 := HN3.out.c1.frozen 3
      have k4 := HN3.out.c1.frozen 4
      go_simp
      clear y0 y1 y2 y3 y4 k0 k1 k2 k3 k4
      have HN5 := Lib.hid (HN3.out.put1 (.int .i64 m.kind) (.int .i64 m.one) (.int .i64 m.two) (.int .i64 m.a) (.int .i64 m.b))
      clear HN3
      generalize (((((wx4.setCell ⟨w.heap.size + 1, 0, none⟩ (.int .i64 m.kind)).setCell ⟨w.heap.size + 1, 1, none⟩ (.int .i64 m.one)).setCell ⟨w.heap.size + 1, 2, none⟩ (.int .i64 m.two)).setCell ⟨w.heap.size + 1, 3, none⟩ (.int .i64 m.a)).setCell ⟨w.heap.size + 1, 4, none⟩ (.int .i64 m.b)) = wx6 at *
      refine hK.out _ _ ⟨HN5.out.c5, HN5.out.o⟩ (fun hHeldN => ?_)
      clear hK K hHeld
      have hHeld := hHeldN
      clear hHeldN
      try simp only [Act.put, List.setIfInBounds_toArray, List.set_cons_zero, List.set_cons_succ]
      refine wpAnyH_done (by kernel_rfl) ?_ _
      have hHeld2 := hHeld
      clear hHeld
      clear hHeld2
      go_wp2_with (fail)
      refine bodyPost_ret (kt_result HN5.out.c0 HN5.out.c1 rfl _ rfl rfl) rfl ?_
      exact ⟨_, _, _, _, ks, ts, m, rfl, HN5.out.o.mono (by omega) (Nat.le_refl _), HW.out.1, HW.out.2.1, HW.out.2.2, HM.out.2, HN5.out.b⟩
    | false =>
      go_wp2_with (fail)
      have hDd := HD4.out
      with_reducible refine (HC.out.1 _ hDd).mono ?_
      rintro e w5 ⟨bb, rfl, d5, o5⟩
      have HK5 := Lib.hid (HK4.out.grew o5.grew)
      have HD5 := Lib.hid d5
      clear HK4 HD4 d5 o5 hDd c0 c1
      obtain ⟨c0, c1⟩ := cel2k HK5.out.c5
      cases bb with
      | true =>
        obtain ⟨z0, z1⟩ := cel2k HK5.out.c0
        obtain ⟨y0, y1, y2, y3, y4⟩ := cel5tv HK5.out.c1
        have f0 := HK5.out.c0.frozen 0
        have f1 := HK5.out.c0.frozen 1
        have k0 := HK5.out.c1.frozen 0
        have k1 := HK5.out.c1.frozen 1
        have k2 := HK5.out.c1.frozen 2
        have k3 := HK5.out.c1.frozen 3
        have k4 := HK5.out.c1.frozen 4
        have HF := Lib.hid ((HK5.out.put0 (.slice ka ks.length kc) (.slice ta ts.length tc)).put1 (.int .i64 0) (.int .i64 0) (.int .i64 0) (.int .i64 0) (.int .i64 0))
        clear HK5 HD5
        go_wp2_with (fail)
        refine bodyPost_ret (kt_result HF.out.c0 HF.out.c1 rfl _ rfl rfl) rfl ?_
        exact ⟨_, _, _, _, ks, ts, Tv.zero, rfl, HF.out.o.mono (by omega) (Nat.le_refl _), HW.out.1, HW.out.2.1, HW.out.2.2, tvW_zero, HF.out.b⟩
      | false =>
        go_upto_region 7 with (fail)
        have HN := Lib.hid (HK5.out.kept (show Below _ _ (World.drew _) from (Below.refl _ _).drew))
        have hdd : Dr w5.drew (w.heap.size + 2) v n := HD5.out.kept (show Below _ _ (World.drew _) from (Below.refl _ _).drew)
        have HDN := Lib.hid hdd
        have hS := And.intro HN.out.c5 HN.out.o
        clear HK5 HD5 hdd c0 c1
        refine wp_region_held_drew (S := fun W => Cel W b5 27 #[.slice ka ks.length kc, .slice ta ts.length tc] ∧ KnO W (w.heap.size + 3) W.heap.size (.slice ka ks.length kc) (.slice ta ts.length tc) ks ts) (by kernel_rfl) hS (fun hHeld => ?_)
        clear hS
        generalize w5.drew = wd at *
        refine take_yes (i := 0) (oi := { dst := some 32, op := Op.load 27 (Operand.tmp 5), type := 27, pos := "l15_tags.go:79", after := #[], guard := none }) (v := .agg #[.slice ka ks.length kc, .slice ta ts.length tc]) rfl (by kernel_rfl) (by kernel_rfl) (by kernel_rfl) (fun _ _ _ h => h) (by rfl) (fun w hSw => by (try dsimp only at hSw); obtain ⟨c0, c1⟩ := cel2k hSw.1; go_simp) (by assumption) ?_
        try simp only [Act.put, List.setIfInBounds_toArray, List.set_cons_zero, List.set_cons_succ]
        refine take_yes (i := 1) (oi := { dst := some 33, op := Op.move (Operand.tmp 4), type := 49, pos := "l15_tags.go:79", after := #[], guard := none }) (v := .pointer (some ⟨w.heap.size + 2, 0, none⟩)) rfl (by kernel_rfl) (by kernel_rfl) (by kernel_rfl) (fun _ _ _ h => h) (by rfl) (fun w hSw => by (try dsimp only at hSw); go_simp) (by assumption) ?_
        try simp only [Act.put, List.setIfInBounds_toArray, List.set_cons_zero, List.set_cons_succ]
        refine wpAnyH_ready (rs := [2]) (by kernel_rfl) (by simp) ?_
        refine AllReadyH.cons (o := { dst := some 34, op := Op.call { callee := Callee.value (Operand.func 51), args := #[Operand.tmp 33], argTypes := #[49] }, type := 29, pos := "l15_tags.go:79", after := #[{ on := 1, ground := Ground.data }], guard := none }) rfl (fun K hK => ?_) AllReadyH.nil
        have hDd := HDN.out
        go_simp
        with_reducible refine (HC.out.2.2 _ hDd).mono ?_
        rintro e wx8 ⟨m, rfl, hm, d6, g6⟩
        have HN7 := Lib.hid (HN.out.grew g6)
        have HM := Lib.hid hm
        clear HN hDd d6 g6 hm HDN
        refine hK.out _ _ ⟨HN7.out.c5, HN7.out.o⟩ (fun hHeldN => ?_)
        clear hK K hHeld
        have hHeld := hHeldN
        clear hHeldN
        try simp only [Act.put, List.setIfInBounds_toArray, List.set_cons_zero, List.set_cons_succ]
        refine wpAnyH_ready (rs := [3]) (by kernel_rfl) (by simp) ?_
        refine AllReadyH.cons (o := { dst := none, op := Op.store 27 (Operand.tmp 2) (Operand.tmp 32), type := 0, pos := "l15_tags.go:79", after := #[{ on := 0, ground := Ground.data }, { on := 2, ground := Ground.chain }, { on := 0, ground := Ground.phase }, { on := 1, ground := Ground.textOnly Departure.lateStores }, { on := 2, ground := Ground.textOnly Departure.lateStoresUnsure }], guard := none }) rfl (fun K hK => ?_) AllReadyH.nil
        obtain ⟨z0, z1⟩ := cel2k HN7.out.c0
        have f0 := HN7.out.c0.frozen 0
        have f1 := HN7.out.c0.frozen 1
        go_simp
        clear z0 z1 f0 f1
        have HN9 := Lib.hid (HN7.out.put0 (.slice ka ks.length kc) (.slice ta ts.length tc))
        clear HN7
        generalize (wx8.setCell ⟨w.heap.size, 0, none⟩ (.slice ka ks.length kc)).setCell ⟨w.heap.size, 1, none⟩ (.slice ta ts.length tc) = wx10 at *
        refine hK.out _ _ ⟨HN9.out.c5, HN9.out.o⟩ (fun hHeldN => ?_)
        clear hK K hHeld
        have hHeld := hHeldN
        clear hHeldN
        try simp only [Act.put, List.setIfInBounds_toArray, List.set_cons_zero, List.set_cons_succ]
        refine wpAnyH_ready (rs := [4]) (by kernel_rfl) (by simp) ?_
        refine AllReadyH.cons (o := { dst := none, op := Op.store 29 (Operand.tmp 3) (Operand.tmp 34), type := 0, pos := "l15_tags.go:79", after := #[{ on := 2, ground := Ground.data }, { on := 3, ground := Ground.chain }, { on := 0, ground := Ground.phase }, { on := 1, ground := Ground.phase }, { on := 2, ground := Ground.phase }, { on := 3, ground := Ground.phase }], guard := none }) rfl (fun K hK => ?_) AllReadyH.nil
        obtain ⟨y0, y1, y2, y3, y4⟩ := cel5tv HN9.out.c1
        have k0 := HN9.out.c1.frozen 0
        have k1 := HN9.out.c1.frozen 1
        have k2 := HN9.out.c1.frozen 2
        have k3 := HN9.out.c1.frozen 3
        have k4 := HN9.out.c1.frozen 4
        go_simp
        clear y0 y1 y2 y3 y4 k0 k1 k2 k3 k4
        have HN11 := Lib.hid (HN9.out.put1 (.int .i64 m.kind) (.int .i64 m.one) (.int .i64 m.two) (.int .i64 m.a) (.int .i64 m.b))
        clear HN9
        generalize (((((wx10.setCell ⟨w.heap.size + 1, 0, none⟩ (.int .i64 m.kind)).setCell ⟨w.heap.size + 1, 1, none⟩ (.int .i64 m.one)).setCell ⟨w.heap.size + 1, 2, none⟩ (.int .i64 m.two)).setCell ⟨w.heap.size + 1, 3, none⟩ (.int .i64 m.a)).setCell ⟨w.heap.size + 1, 4, none⟩ (.int .i64 m.b)) = wx12 at *
        refine hK.out _ _ ⟨HN11.out.c5, HN11.out.o⟩ (fun hHeldN => ?_)
        clear hK K hHeld
        have hHeld := hHeldN
        clear hHeldN
        try simp only [Act.put, List.setIfInBounds_toArray, List.set_cons_zero, List.set_cons_succ]
        refine wpAnyH_done (by kernel_rfl) ?_ _
        have hHeld2 := hHeld
        clear hHeld
        clear hHeld2
        go_wp2_with (fail)
        refine bodyPost_ret (kt_result HN11.out.c0 HN11.out.c1 rfl _ rfl rfl) rfl ?_
        exact ⟨_, _, _, _, ks, ts, m, rfl, HN11.out.o.mono (by omega) (Nat.le_refl _), HW.out.1, HW.out.2.1, HW.out.2.2, HM.out, HN11.out.b⟩
  · have q0 : ¬ (0 : Int) < (ts.length : Int) := by omega
    go_wp2_with (fail)
    have hDd := HD.out
    with_reducible refine (HC.out.1 _ hDd).mono ?_
    rintro e w5 ⟨bb, rfl, d5, o5⟩
    have HK5 := Lib.hid (HK.out.grew o5.grew)
    have HD5 := Lib.hid d5
    clear HK HD d5 o5 hDd c0 c1
    obtain ⟨c0, c1⟩ := cel2k HK5.out.c5
    cases bb with
    | true =>
      obtain ⟨z0, z1⟩ := cel2k HK5.out.c0
      obtain ⟨y0, y1, y2, y3, y4⟩ := cel5tv HK5.out.c1
      have f0 := HK5.out.c0.frozen 0
      have f1 := HK5.out.c0.frozen 1
      have k0 := HK5.out.c1.frozen 0
      have k1 := HK5.out.c1.frozen 1
      have k2 := HK5.out.c1.frozen 2
      have k3 := HK5.out.c1.frozen 3
      have k4 := HK5.out.c1.frozen 4
      have HF := Lib.hid ((HK5.out.put0 (.slice ka ks.length kc) (.slice ta ts.length tc)).put1 (.int .i64 0) (.int .i64 0) (.int .i64 0) (.int .i64 0) (.int .i64 0))
      clear HK5 HD5
      go_wp2_with (fail)
      refine bodyPost_ret (kt_result HF.out.c0 HF.out.c1 rfl _ rfl rfl) rfl ?_
      exact ⟨_, _, _, _, ks, ts, Tv.zero, rfl, HF.out.o.mono (by omega) (Nat.le_refl _), HW.out.1, HW.out.2.1, HW.out.2.2, tvW_zero, HF.out.b⟩
    | false =>
      go_upto_region 7 with (fail)
      have HN := Lib.hid (HK5.out.kept (show Below _ _ (World.drew _) from (Below.refl _ _).drew))
      have hdd : Dr w5.drew (w.heap.size + 2) v n := HD5.out.kept (show Below _ _ (World.drew _) from (Below.refl _ _).drew)
      have HDN := Lib.hid hdd
      have hS := And.intro HN.out.c5 HN.out.o
      clear HK5 HD5 hdd c0 c1
      refine wp_region_held_drew (S := fun W => Cel W b5 27 #[.slice ka ks.length kc, .slice ta ts.length tc] ∧ KnO W (w.heap.size + 3) W.heap.size (.slice ka ks.length kc) (.slice ta ts.length tc) ks ts) (by kernel_rfl) hS (fun hHeld => ?_)
      clear hS
      generalize w5.drew = wd at *
      refine take_yes (i := 0) (oi := { dst := some 32, op := Op.load 27 (Operand.tmp 5), type := 27, pos := "l15_tags.go:79", after := #[], guard := none }) (v := .agg #[.slice ka ks.length kc, .slice ta ts.length tc]) rfl (by kernel_rfl) (by kernel_rfl) (by kernel_rfl) (fun _ _ _ h => h) (by rfl) (fun w hSw => by (try dsimp only at hSw); obtain ⟨c0, c1⟩ := cel2k hSw.1; go_simp) (by assumption) ?_
      try simp only [Act.put, List.setIfInBounds_toArray, List.set_cons_zero, List.set_cons_succ]
      refine take_yes (i := 1) (oi := { dst := some 33, op := Op.move (Operand.tmp 4), type := 49, pos := "l15_tags.go:79", after := #[], guard := none }) (v := .pointer (some ⟨w.heap.size + 2, 0, none⟩)) rfl (by kernel_rfl) (by kernel_rfl) (by kernel_rfl) (fun _ _ _ h => h) (by rfl) (fun w hSw => by (try dsimp only at hSw); go_simp) (by assumption) ?_
      try simp only [Act.put, List.setIfInBounds_toArray, List.set_cons_zero, List.set_cons_succ]
      refine wpAnyH_ready (rs := [2]) (by kernel_rfl) (by simp) ?_
      refine AllReadyH.cons (o := { dst := some 34, op := Op.call { callee := Callee.value (Operand.func 51), args := #[Operand.tmp 33], argTypes := #[49] }, type := 29, pos := "l15_tags.go:79", after := #[{ on := 1, ground := Ground.data }], guard := none }) rfl (fun K hK => ?_) AllReadyH.nil
      have hDd := HDN.out
      go_simp
      with_reducible refine (HC.out.2.2 _ hDd).mono ?_
      rintro e wx14 ⟨m, rfl, hm, d6, g6⟩
      have HN13 := Lib.hid (HN.out.grew g6)
      have HM := Lib.hid hm
      clear HN hDd d6 g6 hm HDN
      refine hK.out _ _ ⟨HN13.out.c5, HN13.out.o⟩ (fun hHeldN => ?_)
      clear hK K hHeld
      have hHeld := hHeldN
      clear hHeldN
      try simp only [Act.put, List.setIfInBounds_toArray, List.set_cons_zero, List.set_cons_succ]
      refine wpAnyH_ready (rs := [3]) (by kernel_rfl) (by simp) ?_
      refine AllReadyH.cons (o := { dst := none, op := Op.store 27 (Operand.tmp 2) (Operand.tmp 32), type := 0, pos := "l15_tags.go:79", after := #[{ on := 0, ground := Ground.data }, { on := 2, ground := Ground.chain }, { on := 0, ground := Ground.phase }, { on := 1, ground := Ground.textOnly Departure.lateStores }, { on := 2, ground := Ground.textOnly Departure.lateStoresUnsure }], guard := none }) rfl (fun K hK => ?_) AllReadyH.nil
      obtain ⟨z0, z1⟩ := cel2k HN13.out.c0
      have f0 := HN13.out.c0.frozen 0
      have f1 := HN13.out.c0.frozen 1
      go_simp
      clear z0 z1 f0 f1
      have HN15 := Lib.hid (HN13.out.put0 (.slice ka ks.length kc) (.slice ta ts.length tc))
      clear HN13
      generalize (wx14.setCell ⟨w.heap.size, 0, none⟩ (.slice ka ks.length kc)).setCell ⟨w.heap.size, 1, none⟩ (.slice ta ts.length tc) = wx16 at *
      refine hK.out _ _ ⟨HN15.out.c5, HN15.out.o⟩ (fun hHeldN => ?_)
      clear hK K hHeld
      have hHeld := hHeldN
      clear hHeldN
      try simp only [Act.put, List.setIfInBounds_toArray, List.set_cons_zero, List.set_cons_succ]
      refine wpAnyH_ready (rs := [4]) (by kernel_rfl) (by simp) ?_
      refine AllReadyH.cons (o := { dst := none, op := Op.store 29 (Operand.tmp 3) (Operand.tmp 34), type := 0, pos := "l15_tags.go:79", after := #[{ on := 2, ground := Ground.data }, { on := 3, ground := Ground.chain }, { on := 0, ground := Ground.phase }, { on := 1, ground := Ground.phase }, { on := 2, ground := Ground.phase }, { on := 3, ground := Ground.phase }], guard := none }) rfl (fun K hK => ?_) AllReadyH.nil
      obtain ⟨y0, y1, y2, y3, y4⟩ := cel5tv HN15.out.c1
      have k0 := HN15.out.c1.frozen 0
      have k1 := HN15.out.c1.frozen 1
      have k2 := HN15.out.c1.frozen 2
      have k3 := HN15.out.c1.frozen 3
      have k4 := HN15.out.c1.frozen 4
      go_simp
      clear y0 y1 y2 y3 y4 k0 k1 k2 k3 k4
      have HN17 := Lib.hid (HN15.out.put1 (.int .i64 m.kind) (.int .i64 m.one) (.int .i64 m.two) (.int .i64 m.a) (.int .i64 m.b))
      clear HN15
      generalize (((((wx16.setCell ⟨w.heap.size + 1, 0, none⟩ (.int .i64 m.kind)).setCell ⟨w.heap.size + 1, 1, none⟩ (.int .i64 m.one)).setCell ⟨w.heap.size + 1, 2, none⟩ (.int .i64 m.two)).setCell ⟨w.heap.size + 1, 3, none⟩ (.int .i64 m.a)).setCell ⟨w.heap.size + 1, 4, none⟩ (.int .i64 m.b)) = wx18 at *
      refine hK.out _ _ ⟨HN17.out.c5, HN17.out.o⟩ (fun hHeldN => ?_)
      clear hK K hHeld
      have hHeld := hHeldN
      clear hHeldN
      try simp only [Act.put, List.setIfInBounds_toArray, List.set_cons_zero, List.set_cons_succ]
      refine wpAnyH_done (by kernel_rfl) ?_ _
      have hHeld2 := hHeld
      clear hHeld
      clear hHeld2
      go_wp2_with (fail)
      refine bodyPost_ret (kt_result HN17.out.c0 HN17.out.c1 rfl _ rfl rfl) rfl ?_
      exact ⟨_, _, _, _, ks, ts, m, rfl, HN17.out.o.mono (by omega) (Nat.le_refl _), HW.out.1, HW.out.2.1, HW.out.2.2, HM.out, HN17.out.b⟩

theorem put01 {W : World} {h0 : Nat} {ku tu : Value} {ks : List Int} {ts : List Tv} (c0 : Cel W h0 27 #[.slice none 0 0, .slice none 0 0]) (c1 : Cel W (h0 + 1) 29 #[.int .i64 0, .int .i64 0, .int .i64 0, .int .i64 0, .int .i64 0]) (o : KnO W (h0 + 2) W.heap.size ku tu ks ts) (u1 u2 a0 a1 a2 a3 a4 : Value) :
    Cel (((((((W.setCell ⟨h0, 0, none⟩ u1).setCell ⟨h0, 1, none⟩ u2).setCell ⟨h0 + 1, 0, none⟩ a0).setCell ⟨h0 + 1, 1, none⟩ a1).setCell ⟨h0 + 1, 2, none⟩ a2).setCell ⟨h0 + 1, 3, none⟩ a3).setCell ⟨h0 + 1, 4, none⟩ a4) h0 27 #[u1, u2] ∧ Cel (((((((W.setCell ⟨h0, 0, none⟩ u1).setCell ⟨h0, 1, none⟩ u2).setCell ⟨h0 + 1, 0, none⟩ a0).setCell ⟨h0 + 1, 1, none⟩ a1).setCell ⟨h0 + 1, 2, none⟩ a2).setCell ⟨h0 + 1, 3, none⟩ a3).setCell ⟨h0 + 1, 4, none⟩ a4) (h0 + 1) 29 #[a0, a1, a2, a3, a4] ∧ KnO (((((((W.setCell ⟨h0, 0, none⟩ u1).setCell ⟨h0, 1, none⟩ u2).setCell ⟨h0 + 1, 0, none⟩ a0).setCell ⟨h0 + 1, 1, none⟩ a1).setCell ⟨h0 + 1, 2, none⟩ a2).setCell ⟨h0 + 1, 3, none⟩ a3).setCell ⟨h0 + 1, 4, none⟩ a4) (h0 + 2) (((((((W.setCell ⟨h0, 0, none⟩ u1).setCell ⟨h0, 1, none⟩ u2).setCell ⟨h0 + 1, 0, none⟩ a0).setCell ⟨h0 + 1, 1, none⟩ a1).setCell ⟨h0 + 1, 2, none⟩ a2).setCell ⟨h0 + 1, 3, none⟩ a3).setCell ⟨h0 + 1, 4, none⟩ a4).heap.size ku tu ks ts ∧ Below h0 W (((((((W.setCell ⟨h0, 0, none⟩ u1).setCell ⟨h0, 1, none⟩ u2).setCell ⟨h0 + 1, 0, none⟩ a0).setCell ⟨h0 + 1, 1, none⟩ a1).setCell ⟨h0 + 1, 2, none⟩ a2).setCell ⟨h0 + 1, 3, none⟩ a3).setCell ⟨h0 + 1, 4, none⟩ a4) := by
  have z0 : ((W.setCell ⟨h0, 0, none⟩ u1).setCell ⟨h0, 1, none⟩ u2).heap.size = W.heap.size := esetC_size h0 0 [u1, u2] W
  have e0 : ∀ i, i ≠ h0 → ((W.setCell ⟨h0, 0, none⟩ u1).setCell ⟨h0, 1, none⟩ u2).heap[i]? = W.heap[i]? := fun i hi => esetC_other h0 0 [u1, u2] W i hi
  have b0 : Below h0 W ((W.setCell ⟨h0, 0, none⟩ u1).setCell ⟨h0, 1, none⟩ u2) := esetC_below h0 h0 (Nat.le_refl _) 0 [u1, u2] W
  have d0 : Cel ((W.setCell ⟨h0, 0, none⟩ u1).setCell ⟨h0, 1, none⟩ u2) h0 27 #[u1, u2] := (c0.set 0 u1).set 1 u2
  have d1 : Cel ((W.setCell ⟨h0, 0, none⟩ u1).setCell ⟨h0, 1, none⟩ u2) (h0 + 1) 29 #[.int .i64 0, .int .i64 0, .int .i64 0, .int .i64 0, .int .i64 0] := (e0 _ (by omega)).trans c1
  have o0 : KnO ((W.setCell ⟨h0, 0, none⟩ u1).setCell ⟨h0, 1, none⟩ u2) (h0 + 2) W.heap.size ku tu ks ts := o.keepAt fun i hi _ => e0 i (by omega)
  generalize ((W.setCell ⟨h0, 0, none⟩ u1).setCell ⟨h0, 1, none⟩ u2) = V at *
  have e1 : ∀ i, i ≠ h0 + 1 → (((((V.setCell ⟨h0 + 1, 0, none⟩ a0).setCell ⟨h0 + 1, 1, none⟩ a1).setCell ⟨h0 + 1, 2, none⟩ a2).setCell ⟨h0 + 1, 3, none⟩ a3).setCell ⟨h0 + 1, 4, none⟩ a4).heap[i]? = V.heap[i]? := fun i hi => esetC_other (h0 + 1) 0 [a0, a1, a2, a3, a4] V i hi
  have z1 : (((((V.setCell ⟨h0 + 1, 0, none⟩ a0).setCell ⟨h0 + 1, 1, none⟩ a1).setCell ⟨h0 + 1, 2, none⟩ a2).setCell ⟨h0 + 1, 3, none⟩ a3).setCell ⟨h0 + 1, 4, none⟩ a4).heap.size = V.heap.size := esetC_size (h0 + 1) 0 [a0, a1, a2, a3, a4] V
  have b1 : Below h0 V (((((V.setCell ⟨h0 + 1, 0, none⟩ a0).setCell ⟨h0 + 1, 1, none⟩ a1).setCell ⟨h0 + 1, 2, none⟩ a2).setCell ⟨h0 + 1, 3, none⟩ a3).setCell ⟨h0 + 1, 4, none⟩ a4) := esetC_below (h0 + 1) h0 (Nat.le_succ _) 0 [a0, a1, a2, a3, a4] V
  refine ⟨(e1 _ (by omega)).trans d0, ((((d1.set 0 a0).set 1 a1).set 2 a2).set 3 a3).set 4 a4, ?_, b0.trans b1⟩
  rw [z1, z0]
  exact o0.keepAt fun i hi _ => e1 i (by omega)

set_option linter.unusedSimpArgs false in
set_option maxRecDepth 100000 in
set_option maxHeartbeats 4000000 in
theorem draw_learn (v : Value) (n : Nat) (w : World) (hv : RdB w v n) (hn : n ≤ 1048576) :
    Calls Try.prog 10 #[v] w fun e w' => ∃ a c b d ks ts t, e = .returned (.tuple #[.agg #[.slice a (ks : List Int).length c, .slice b (ts : List Tv).length d], .agg #[.int .i64 t.kind, .int .i64 t.one, .int .i64 t.two, .int .i64 t.a, .int .i64 t.b]]) ∧ CaseR w w' a b c d ks ts t := by
  have b1 := below_new w (.cells #[.slice none 0 0, .slice none 0 0] 27)
  have b2 := below_new (w.alloc (.cells #[.slice none 0 0, .slice none 0 0] 27)) (.cells #[.int .i64 0, .int .i64 0, .int .i64 0, .int .i64 0, .int .i64 0] 29)
  have hC0 := (Cel.new w 27 #[.slice none 0 0, .slice none 0 0]).kept b2
  have hC1 := Cel.new (w.alloc (.cells #[.slice none 0 0, .slice none 0 0] 27)) 29 #[.int .i64 0, .int .i64 0, .int .i64 0, .int .i64 0, .int .i64 0]
  have hB := Below.then_ b1 b2
  have hz : ((w.alloc (.cells #[.slice none 0 0, .slice none 0 0] 27)).alloc (.cells #[.int .i64 0, .int .i64 0, .int .i64 0, .int .i64 0, .int .i64 0] 29)).heap.size = w.heap.size + 2 := by simp
  have cN := case_dr v n _ (hv.below hB hv.lt) hn
  simp only [World.size_alloc] at hC1
  have HE := Lib.hid (And.intro hB (And.intro hC0 (And.intro hC1 hz)))
  clear b1 b2 hC0 hC1 hB hv hz
  go_enter Try.func10, Try.ntmps10
  go_wp2_with (fail)
  generalize (w.alloc (.cells #[.slice none 0 0, .slice none 0 0] 27)).alloc (.cells #[.int .i64 0, .int .i64 0, .int .i64 0, .int .i64 0, .int .i64 0] 29) = w0 at *
  with_reducible refine cN.mono ?_
  rintro e w1 ⟨ka, kc, ta, tc, ks, ts, t, rfl, hR⟩
  obtain ⟨hO, hl1, hl2, hwf, htw, hb1⟩ := hR
  have hc0 : Cel w1 w.heap.size 27 #[.slice none 0 0, .slice none 0 0] := HE.out.2.1.below hb1 (by have := HE.out.2.2.2; omega)
  have hc1 : Cel w1 (w.heap.size + 1) 29 #[.int .i64 0, .int .i64 0, .int .i64 0, .int .i64 0, .int .i64 0] := HE.out.2.2.1.below hb1 (by have := HE.out.2.2.2; omega)
  rw [HE.out.2.2.2] at hO hb1
  have HP := Lib.hid (put01 hc0 hc1 hO (.slice ka ks.length kc) (.slice ta ts.length tc) (.int .i64 t.kind) (.int .i64 t.one) (.int .i64 t.two) (.int .i64 t.a) (.int .i64 t.b))
  have HX := Lib.hid (And.intro hl1 (And.intro hl2 (And.intro hwf (And.intro htw (HE.out.1.trans (hb1.mono (by omega)))))))
  obtain ⟨z0, z1⟩ := cel2k hc0
  obtain ⟨y0, y1, y2, y3, y4⟩ := cel5tv hc1
  have f0 := hc0.frozen 0
  have f1 := hc0.frozen 1
  have k0 := hc1.frozen 0
  have k1 := hc1.frozen 1
  have k2 := hc1.frozen 2
  have k3 := hc1.frozen 3
  have k4 := hc1.frozen 4
  clear hO hl1 hl2 hwf htw hb1 hc0 hc1 HE cN
  go_wp2_with (fail)
  refine bodyPost_ret (kt_result HP.out.1 HP.out.2.1 rfl _ rfl rfl) rfl ?_
  exact ⟨_, _, _, _, ks, ts, t, rfl, HP.out.2.2.1.mono (by omega) (Nat.le_refl _), HX.out.1, HX.out.2.1, HX.out.2.2.1, HX.out.2.2.2.1, HX.out.2.2.2.2.trans HP.out.2.2.2⟩
end Go.Proofs.Ytgfkmnadbcbfkaa
