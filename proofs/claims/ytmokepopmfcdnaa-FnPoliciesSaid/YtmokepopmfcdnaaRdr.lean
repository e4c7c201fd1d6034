import Derived.Test.YtmokepopmfcdnaaAdr
import Derived.Test.YtmokepopmfcdnaaBig
import Derived.Test.YtmokepopmfcdnaaRok
namespace Go.Proofs.Ytmokepopmfcdnaa
open Go.RowKit

theorem below_two (w W : World) (x y : Value) : Below w.heap.size W ((W.setCell ⟨w.heap.size, 0, none⟩ x).setCell ⟨w.heap.size, 1, none⟩ y) :=
  ((Below.refl _ _).setCell (p := ⟨w.heap.size, 0, none⟩) (Nat.le_refl _) _).setCell (p := ⟨w.heap.size, 1, none⟩) (Nat.le_refl _) _

set_option maxHeartbeats 2000000 in
set_option maxRecDepth 100000 in
theorem pol_dr (g : Nat) (v : Value) (n : Nat) (w : World) (hd : Dr w g v n) :
    Calls Try.prog 41 #[.pointer (some ⟨g, 0, none⟩)] w fun e w' => ∃ kd mn : Int, e = .returned (.agg #[.int .i64 kd, .int .i64 mn]) ∧ Dr w' g v n ∧ Grew g w w' := by
  have hg := hd.blk
  have hb0 := below_new w (.cells #[.int .i64 0, .int .i64 0] 25)
  have hd0 := hd.kept hb0
  have c3 := fun W h => bel_dr g v n 3 3 rfl W h (by omega) (by omega)
  have c4 := fun W h => bel_dr g v n 4 4 rfl W h (by omega) (by omega)
  have HE := Lib.hid (And.intro (Cel.new w 25 #[.int .i64 0, .int .i64 0]) (Grew.then (Grew.refl g w) hb0))
  clear hb0 hd
  go_enter Try.func41, Try.ntmps41
  go_wp2_with (fail)
  with_reducible refine (c3 _ hd0).mono ?_
  rintro e w1 ⟨r, hr, rfl, d1, o1⟩
  clear c3 hd0
  have HE1 := Lib.hid (And.intro (HE.out.1.only o1 (by omega)) (HE.out.2.only o1))
  clear HE o1
  by_cases h0 : r = 0
  · subst h0
    clear c4 hr
    have hC := HE1.out.1
    obtain ⟨k0, k1⟩ := cel2a hC
    have f0 := hC.frozen 0
    have f1 := hC.frozen 1
    have HG := Lib.hid (And.intro HE1.out.2 d1)
    clear hC d1 HE1
    go_wp2_with (fail)
    have hB5 := below_two w w1 (.int .i64 1) (.int .i64 0)
    exact bodyPost_ret (v := .agg #[.int .i64 1, .int .i64 0]) (by simp [results, Try.results41, go_sem, k0, k1]) rfl ⟨1, 0, rfl, HG.out.2.below hB5 hg, HG.out.1.then hB5⟩
  · have q0 : ((r : Int) == 0) = false := by simp; omega
    by_cases h1 : r = 1
    · subst h1
      clear hr h0
      go_wp2_with (fail)
      with_reducible refine (c4 _ d1).mono ?_
      rintro e w2 ⟨r2, hr2, rfl, d2, o2⟩
      have HE2 := Lib.hid (And.intro (HE1.out.1.only o2 (by omega)) (HE1.out.2.only o2))
      have e1 : IntKind.i64.wrap (1 + (r2 : Int)) = 1 + (r2 : Int) := IntWalk.i64_in _ (by omega)
      clear HE1 d1 o2 c4
      have hC := HE2.out.1
      obtain ⟨k0, k1⟩ := cel2a hC
      have f0 := hC.frozen 0
      have f1 := hC.frozen 1
      have HG := Lib.hid (And.intro HE2.out.2 d2)
      clear hC d2 HE2
      go_wp2_with (fail)
      have hB5 := below_two w w2 (.int .i64 2) (.int .i64 (1 + (r2 : Int)))
      exact bodyPost_ret (v := .agg #[.int .i64 2, .int .i64 (1 + (r2 : Int))]) (by simp [results, Try.results41, go_sem, k0, k1]) rfl ⟨2, (1 + (r2 : Int)), rfl, HG.out.2.below hB5 hg, HG.out.1.then hB5⟩
    · have q1 : ((r : Int) == 1) = false := by simp; omega
      clear c4 hr h0 h1
      have hC := HE1.out.1
      obtain ⟨k0, k1⟩ := cel2a hC
      have f0 := hC.frozen 0
      have f1 := hC.frozen 1
      have HG := Lib.hid (And.intro HE1.out.2 d1)
      clear hC d1 HE1
      go_wp2_with (fail)
      have hB5 := below_two w w1 (.int .i64 3) (.int .i64 0)
      exact bodyPost_ret (v := .agg #[.int .i64 3, .int .i64 0]) (by simp [results, Try.results41, go_sem, k0, k1]) rfl ⟨3, 0, rfl, HG.out.2.below hB5 hg, HG.out.1.then hB5⟩

/-- A draw of a policy under way: the result's block, the policy's box. -/
structure Pd (w W : World) (g : Nat) (v : Value) (n bx : Nat) (kd mn : Int) : Prop where
  c : Cel W w.heap.size 25 #[.int .i64 0, .int .i64 0]
  b : Cel W bx 25 #[.int .i64 kd, .int .i64 mn]
  d : Dr W g v n
  gr : Grew g w W
  lt : w.heap.size < bx
  hg : g < w.heap.size
section
variable {w W W' : World} {g n bx : Nat} {v : Value} {kd mn : Int}
theorem Pd.only (h : Pd w W g v n bx kd mn) (ho : Only g W W') (hd : Dr W' g v n) : Pd w W' g v n bx kd mn :=
  have h1 := h.lt
  have h2 := h.hg
  ⟨h.c.only ho (by omega), h.b.only ho (by omega), hd, h.gr.only ho, h.lt, h.hg⟩
theorem Pd.kept (h : Pd w W g v n bx kd mn) (hb : Below W.heap.size W W') : Pd w W' g v n bx kd mn :=
  ⟨h.c.kept hb, h.b.kept hb, h.d.kept hb, h.gr.then (hb.mono h.gr.size), h.lt, h.hg⟩
theorem Pd.setM (h : Pd w W g v n bx kd mn) (x : Int) : Pd w (W.setCell ⟨bx, 1, none⟩ (.int .i64 x)) g v n bx kd x := by
  have h1 := h.lt
  have hB : Below bx W (W.setCell ⟨bx, 1, none⟩ (.int .i64 x)) := (Below.refl _ _).setCell (p := ⟨bx, 1, none⟩) (Nat.le_refl _) _
  refine ⟨h.c.below hB h1, ?_, h.d.below hB (by have := h.hg; omega), h.gr.then (hB.mono (by omega)), h.lt, h.hg⟩
  have := h.b.set 1 (.int .i64 x)
  simpa using this
theorem Pd.setK (h : Pd w W g v n bx kd mn) (x : Int) : Pd w (W.setCell ⟨bx, 0, none⟩ (.int .i64 x)) g v n bx x mn := by
  have h1 := h.lt
  have hB : Below bx W (W.setCell ⟨bx, 0, none⟩ (.int .i64 x)) := (Below.refl _ _).setCell (p := ⟨bx, 0, none⟩) (Nat.le_refl _) _
  refine ⟨h.c.below hB h1, ?_, h.d.below hB (by have := h.hg; omega), h.gr.then (hB.mono (by omega)), h.lt, h.hg⟩
  have := h.b.set 0 (.int .i64 x)
  simpa using this
end

set_option maxHeartbeats 4000000 in
set_option maxRecDepth 100000 in
theorem anypol_dr (g : Nat) (v : Value) (n : Nat) (w : World) (hd : Dr w g v n) :
    Calls Try.prog 32 #[.pointer (some ⟨g, 0, none⟩)] w fun e w' => ∃ kd mn : Int, e = .returned (.agg #[.int .i64 kd, .int .i64 mn]) ∧ Dr w' g v n ∧ Grew g w w' := by
  have hg := hd.blk
  have hb0 := below_new w (.cells #[.int .i64 0, .int .i64 0] 25)
  have hd0 := hd.kept hb0
  have cP := fun W h => pol_dr g v n W h
  have c6 := fun W h => once_dr g v n 6 6 rfl W h (by omega) (by omega)
  have c12 := fun W h => once_dr g v n 12 12 rfl W h (by omega) (by omega)
  have c5 := fun W h => bel_dr g v n 5 5 rfl W h (by omega) (by omega)
  have HE := Lib.hid (And.intro (Cel.new w 25 #[.int .i64 0, .int .i64 0]) (Grew.then (Grew.refl g w) hb0))
  clear hb0 hd
  go_enter Try.func32, Try.ntmps32
  go_wp2_with (fail)
  with_reducible refine (cP _ hd0).mono ?_
  rintro e w1 ⟨kd, mn, rfl, d1, g1⟩
  have hz1 : w.heap.size < w1.heap.size := (HE.out.1.grew g1 (by omega)).lt
  have P1 : Pd w (w1.alloc (.cells #[.int .i64 kd, .int .i64 mn] 25)) g v n w1.heap.size kd mn :=
    have hbq := below_pol w1 kd mn
    ⟨(HE.out.1.grew g1 (by omega)).kept hbq, Cel.new w1 25 #[.int .i64 kd, .int .i64 mn], d1.kept hbq, (HE.out.2.trans g1).then (hbq.mono (by omega)), hz1, hg⟩
  have HP1 := Lib.hid P1
  have d2 := P1.d
  clear cP hd0 d1 g1 HE P1
  go_wp2_with (fail)
  generalize hbx : w1.heap.size = bx at *
  generalize w1.alloc (.cells #[.int .i64 kd, .int .i64 mn] 25) = w2 at *
  clear hbx
  with_reducible refine (c6 _ d2).mono ?_
  rintro e w3 ⟨b6, rfl, d3, o3⟩
  have HP3 := Lib.hid (HP1.out.only o3 d3)
  clear c6 d2 o3 HP1
  cases b6 with
  | false =>
    go_wp2_with (fail)
    with_reducible refine (c12 _ d3).mono ?_
    rintro e w7 ⟨b12, rfl, d7, o7⟩
    have HP7 := Lib.hid (HP3.out.only o7 d7)
    clear c12 d3 o7 HP3
    cases b12 with
    | false =>
      clear c5 d7
      obtain ⟨k0, k1⟩ := cel2a HP7.out.c
      have f0 := HP7.out.c.frozen 0
      have f1 := HP7.out.c.frozen 1
      obtain ⟨q0, q1⟩ := cel2a HP7.out.b
      have hne : ¬ w.heap.size = bx := by have := HP7.out.lt; omega
      go_wp2_with (fail)
      have hB5 := below_two w w7 (.int .i64 kd) (.int .i64 mn)
      exact bodyPost_ret (v := .agg #[.int .i64 kd, .int .i64 mn]) (by simp [results, Try.results32, go_sem, k0, k1]) rfl ⟨kd, mn, rfl, HP7.out.d.below hB5 hg, HP7.out.gr.then hB5⟩
    | true =>
      go_wp2_with (fail)
      with_reducible refine (c5 _ d7).mono ?_
      rintro e w8 ⟨r8, hr8, rfl, d8, o8⟩
      have HP8 := Lib.hid (HP7.out.only o8 d8)
      have kb0 := (cel2a HP8.out.b).1
      have fb0 := HP8.out.b.frozen 0
      clear c5 d7 d8 o8 HP7
      go_upto_region 6 with (fail)
      have HP9 := Lib.hid (HP8.out.setK (r8 : Int))
      clear HP8 kb0 fb0
      generalize w8.setCell ⟨bx, 0, none⟩ (.int .i64 (r8 : Int)) = w9 at *
      obtain ⟨k0, k1⟩ := cel2a HP9.out.c
      have f0 := HP9.out.c.frozen 0
      have f1 := HP9.out.c.frozen 1
      obtain ⟨q0, q1⟩ := cel2a HP9.out.b
      have hne : ¬ w.heap.size = bx := by have := HP9.out.lt; omega
      go_wp2_with (fail)
      have hB5 := below_two w w9 (.int .i64 (r8 : Int)) (.int .i64 mn)
      exact bodyPost_ret (v := .agg #[.int .i64 (r8 : Int), .int .i64 mn]) (by simp [results, Try.results32, go_sem, k0, k1]) rfl ⟨(r8 : Int), mn, rfl, HP9.out.d.below hB5 hg, HP9.out.gr.then hB5⟩
  | true =>
    have hb4 := below_ints w3 #[.int .i64 0, .int .i64 8, .int .i64 9, .int .i64 (-1)]
    have HP4 := Lib.hid (HP3.out.kept hb4)
    have cp := pick_mem g v n _ HP4.out.d w3.heap.size 4 4 _ [0, 8, 9, -1] rfl rfl (Cel.new w3 3 #[.int .i64 0, .int .i64 8, .int .i64 9, .int .i64 (-1)]) (by have := d3.blk; omega) (by omega) (by omega)
    clear HP3 d3 hb4
    go_wp2_with (fail)
    with_reducible refine cp.mono ?_
    rintro e w5 ⟨z, -, rfl, d5, o5⟩
    have HP5 := Lib.hid (HP4.out.only o5 d5)
    have kb1 := (cel2a HP5.out.b).2
    have fb1 := HP5.out.b.frozen 1
    clear cp d5 o5 HP4
    go_upto_region 4 with (fail)
    have HP6 := Lib.hid (HP5.out.setM z)
    have d6 := HP6.out.d
    clear HP5 kb1 fb1
    generalize w5.setCell ⟨bx, 1, none⟩ (.int .i64 z) = w6 at *
    go_wp2_with (fail)
    with_reducible refine (c12 _ d6).mono ?_
    rintro e w7 ⟨b12, rfl, d7, o7⟩
    have HP7 := Lib.hid (HP6.out.only o7 d7)
    clear c12 d6 o7 HP6
    cases b12 with
    | false =>
      clear c5 d7
      obtain ⟨k0, k1⟩ := cel2a HP7.out.c
      have f0 := HP7.out.c.frozen 0
      have f1 := HP7.out.c.frozen 1
      obtain ⟨q0, q1⟩ := cel2a HP7.out.b
      have hne : ¬ w.heap.size = bx := by have := HP7.out.lt; omega
      go_wp2_with (fail)
      have hB5 := below_two w w7 (.int .i64 kd) (.int .i64 z)
      exact bodyPost_ret (v := .agg #[.int .i64 kd, .int .i64 z]) (by simp [results, Try.results32, go_sem, k0, k1]) rfl ⟨kd, z, rfl, HP7.out.d.below hB5 hg, HP7.out.gr.then hB5⟩
    | true =>
      go_wp2_with (fail)
      with_reducible refine (c5 _ d7).mono ?_
      rintro e w8 ⟨r8, hr8, rfl, d8, o8⟩
      have HP8 := Lib.hid (HP7.out.only o8 d8)
      have kb0 := (cel2a HP8.out.b).1
      have fb0 := HP8.out.b.frozen 0
      clear c5 d7 d8 o8 HP7
      go_upto_region 6 with (fail)
      have HP9 := Lib.hid (HP8.out.setK (r8 : Int))
      clear HP8 kb0 fb0
      generalize w8.setCell ⟨bx, 0, none⟩ (.int .i64 (r8 : Int)) = w9 at *
      obtain ⟨k0, k1⟩ := cel2a HP9.out.c
      have f0 := HP9.out.c.frozen 0
      have f1 := HP9.out.c.frozen 1
      obtain ⟨q0, q1⟩ := cel2a HP9.out.b
      have hne : ¬ w.heap.size = bx := by have := HP9.out.lt; omega
      go_wp2_with (fail)
      have hB5 := below_two w w9 (.int .i64 (r8 : Int)) (.int .i64 z)
      exact bodyPost_ret (v := .agg #[.int .i64 (r8 : Int), .int .i64 z]) (by simp [results, Try.results32, go_sem, k0, k1]) rfl ⟨(r8 : Int), z, rfl, HP9.out.d.below hB5 hg, HP9.out.gr.then hB5⟩

/-- The draw of two lists under way: the result's block. -/
structure Dw (w W : World) (g : Nat) (v : Value) (n : Nat) : Prop where
  c : Cel W w.heap.size 25 #[.int .i64 0, .int .i64 0]
  b : Below w.heap.size w W
  d : Dr W g v n
  hg : g = w.heap.size + 1
section
variable {w W W' : World} {g n : Nat} {v : Value}
theorem Dw.le (h : Dw w W g v n) : w.heap.size + 2 ≤ W.heap.size := by have := h.d.blk; have := h.hg; omega
theorem Dw.grew (h : Dw w W g v n) (hG : Grew g W W') (hd : Dr W' g v n) : Dw w W' g v n :=
  ⟨h.c.grew hG (by have := h.hg; omega), hG.chain h.b (by have := h.hg; omega) h.b.size, hd, h.hg⟩
theorem Dw.kept (h : Dw w W g v n) (hb : Below W.heap.size W W') : Dw w W' g v n := ⟨h.c.kept hb, Below.then_ h.b hb, h.d.kept hb, h.hg⟩
/-- The result written. -/
theorem Dw.give (h : Dw w W g v n) {u : Value} {ms : List Av} (ho : OwnV W (w.heap.size + 2) W.heap.size u ms) (x y : Value) : OwnV ((W.setCell ⟨w.heap.size, 0, none⟩ x).setCell ⟨w.heap.size, 1, none⟩ y) w.heap.size ((W.setCell ⟨w.heap.size, 0, none⟩ x).setCell ⟨w.heap.size, 1, none⟩ y).heap.size u ms ∧ Below w.heap.size w ((W.setCell ⟨w.heap.size, 0, none⟩ x).setCell ⟨w.heap.size, 1, none⟩ y) := by
  refine ⟨?_, h.b.trans (below_two w W x y)⟩
  have hz : ((W.setCell ⟨w.heap.size, 0, none⟩ x).setCell ⟨w.heap.size, 1, none⟩ y).heap.size = W.heap.size := by simp
  rw [hz]
  refine (ho.keepAt (fun k hk => ?_)).mono (by omega) (Nat.le_refl _)
  have := (ho.block k hk).1
  rw [Below.heap_setCell _ _ _ _ (by simp; omega), Below.heap_setCell _ _ _ _ (by simp; omega)]
end

set_option linter.unusedSimpArgs false in
set_option maxHeartbeats 4000000 in
set_option maxRecDepth 100000 in
theorem draw_wanted (v : Value) (n : Nat) (w : World) (hv : RdB w v n) (hn : n ≤ 1048576) :
    Calls Try.prog 9 #[v] w fun e w' => ∃ (kd mn : Int) (u : Value) (os : List Av) (u2 : Value) (fs : List Av), e = .returned (.tuple #[.agg #[.int .i64 kd, .int .i64 mn], u, u2]) ∧ OwnV w' w.heap.size w'.heap.size u os ∧ OwnV w' w.heap.size w'.heap.size u2 fs ∧ os.length ≤ 9 ∧ fs.length ≤ 9 ∧ Below w.heap.size w w' := by
  have hb0 := below_new w (.cells #[.int .i64 0, .int .i64 0] 25)
  have hC0 := Cel.new w 25 #[.int .i64 0, .int .i64 0]
  have cN := new_dr v n _ (hv.below hb0 hv.lt) hn
  rw [World.size_alloc] at cN
  have cA := fun W h => any_dr (w.heap.size + 1) v n W h
  have cP := fun W h => anypol_dr (w.heap.size + 1) v n W h
  have HE := Lib.hid (And.intro hb0 hC0)
  clear hb0 hC0 hv
  go_enter Try.func9, Try.ntmps9
  go_wp2_with (fail)
  with_reducible refine cN.mono ?_
  rintro e w1 ⟨rfl, d1, hb1'⟩
  have hb1 : Below (w.alloc (.cells #[.int .i64 0, .int .i64 0] 25)).heap.size (w.alloc (.cells #[.int .i64 0, .int .i64 0] 25)) w1 := by rw [World.size_alloc]; exact hb1'
  have HD1 := Lib.hid (show Dw w w1 (w.heap.size + 1) v n from ⟨HE.out.2.kept hb1, Below.then_ HE.out.1 hb1, d1, rfl⟩)
  clear cN hb1 hb1' HE
  go_wp2_with (fail)
  with_reducible refine (cP _ d1).mono ?_
  rintro e w2 ⟨kd, mn, rfl, d2, g2⟩
  have hb2 := below_pol w2 kd mn
  have HD2 := Lib.hid (And.intro ((HD1.out.grew g2 d2).kept hb2) (And.intro (Cel.new w2 25 #[.int .i64 kd, .int .i64 mn]) (show w.heap.size + 1 < w2.heap.size from d2.blk)))
  have d3 := HD2.out.1.d
  clear cP d1 d2 g2 hb2 HD1
  go_wp2_with (fail)
  generalize hbx : w2.heap.size = bx at *
  generalize w2.alloc (.cells #[.int .i64 kd, .int .i64 mn] 25) = w3 at *
  clear hbx
  with_reducible refine (cA _ d3).mono ?_
  rintro e w4 ⟨u, os, rfl, hO, hl, -, d4, g4⟩
  have HP4 := Lib.hid (And.intro (HD2.out.1.grew g4 d4) (And.intro (hO.mono (by have := HD2.out.1.le; omega) (Nat.le_refl _) : OwnV w4 (w.heap.size + 2) w4.heap.size u os) (And.intro (HD2.out.2.1.grew g4 (by have := HD2.out.2.2; omega)) HD2.out.2.2)))
  have HM := Lib.hid hl
  obtain ⟨ua, uc, rfl, -⟩ := hO.form
  clear hO hl d3 d4 g4 HD2
  go_wp2_with (fail)
  have hdw : Below w4.heap.size w4 w4.drew := (Below.refl _ _).drew
  have HPZ := Lib.hid (And.intro (HP4.out.1.kept hdw) (And.intro (HP4.out.2.1.full hdw) (And.intro (HP4.out.2.2.1.kept hdw) HP4.out.2.2.2)))
  have hS := cel2a HPZ.out.2.2.1
  clear HP4 hdw
  refine wp_region_held_drew (S := fun W => W.cell? ⟨bx, 0, none⟩ = some (.int .i64 kd) ∧ W.cell? ⟨bx, 1, none⟩ = some (.int .i64 mn)) (by kernel_rfl) hS (fun hHeld => ?_)
  clear hS
  generalize w4.drew = wd at *
  refine take_yes (i := 0) (oi := { dst := some 14, op := Op.load 25 (Operand.tmp 6), type := 25, pos := "l12_policy.go:83", after := #[], guard := none }) (v := .agg #[.int .i64 kd, .int .i64 mn]) rfl (by kernel_rfl) (by kernel_rfl) (by kernel_rfl) (fun _ _ _ h => h) (by rfl) (fun w hSw => by (try dsimp only at hSw); go_simp) (by assumption) ?_
  try simp only [Act.put, List.setIfInBounds_toArray, List.set_cons_zero, List.set_cons_succ]
  refine take_yes (i := 1) (oi := { dst := some 15, op := Op.move (Operand.tmp 7), type := 26, pos := "l12_policy.go:83", after := #[{ on := 4, ground := Ground.gcOnly Departure.lateStores }], guard := none }) (v := .slice ua os.length uc) rfl (by kernel_rfl) (by kernel_rfl) (by kernel_rfl) (fun _ _ _ h => h) (by rfl) (fun w hSw => by (try dsimp only at hSw); go_simp) (by assumption) ?_
  try simp only [Act.put, List.setIfInBounds_toArray, List.set_cons_zero, List.set_cons_succ]
  refine take_yes (i := 2) (oi := { dst := some 16, op := Op.move (Operand.tmp 5), type := 57, pos := "l12_policy.go:83", after := #[], guard := none }) (v := .pointer (some ⟨w.heap.size + 1, 0, none⟩)) rfl (by kernel_rfl) (by kernel_rfl) (by kernel_rfl) (fun _ _ _ h => h) (by rfl) (fun w hSw => by (try dsimp only at hSw); go_simp) (by assumption) ?_
  try simp only [Act.put, List.setIfInBounds_toArray, List.set_cons_zero, List.set_cons_succ]
  refine wpAnyH_ready (rs := [3]) (by kernel_rfl) (by simp) ?_
  refine AllReadyH.cons (o := { dst := some 17, op := Op.call { callee := Callee.value (Operand.func 33), args := #[Operand.tmp 16], argTypes := #[57] }, type := 26, pos := "l12_policy.go:83", after := #[{ on := 2, ground := Ground.data }], guard := none }) rfl (fun K hK => ?_) AllReadyH.nil
  go_simp
  with_reducible refine (cA _ HPZ.out.1.d).mono ?_
  rintro e w5 ⟨u5, fs, rfl, hO5, hl5, -, d5, g5⟩
  have HP5 := Lib.hid (HPZ.out.1.grew g5 d5)
  have HO5 := Lib.hid (And.intro ((hO5.mono (by have := HPZ.out.1.le; omega) (Nat.le_refl _) : OwnV w5 (w.heap.size + 2) w5.heap.size u5 fs)) (HPZ.out.2.1.grew g5 (by omega)))
  have HC5 := Lib.hid (HPZ.out.2.2.1.grew g5 (by have := HPZ.out.2.2.2; omega))
  have HL5 := Lib.hid hl5
  have KK := cel2a HC5.out
  obtain ⟨va, vc, rfl, -⟩ := hO5.form
  clear hO5 hl5 d5 g5
  refine hK.out _ _ KK (fun hHeldN => ?_)
  clear hK K hHeld
  have hHeld := hHeldN
  clear hHeldN
  try simp only [Act.put, List.setIfInBounds_toArray, List.set_cons_zero, List.set_cons_succ]
  refine wpAnyH_ready (rs := [4]) (by kernel_rfl) (by simp) ?_
  refine AllReadyH.cons (o := { dst := none, op := Op.store 25 (Operand.tmp 2) (Operand.tmp 14), type := 0, pos := "l12_policy.go:83", after := #[{ on := 0, ground := Ground.data }, { on := 3, ground := Ground.chain }, { on := 0, ground := Ground.phase }, { on := 1, ground := Ground.textOnly Departure.lateStores }, { on := 2, ground := Ground.textOnly Departure.lateStores }, { on := 3, ground := Ground.textOnly Departure.lateStoresUnsure }], guard := none }) rfl (fun K hK => ?_) AllReadyH.nil
  obtain ⟨q0, q1⟩ := cel2a HP5.out.c
  have f0 := HP5.out.c.frozen 0
  have f1 := HP5.out.c.frozen 1
  go_simp
  have HG := Lib.hid (And.intro (HP5.out.give HO5.out.2 (.int .i64 kd) (.int .i64 mn)) (HP5.out.give HO5.out.1 (.int .i64 kd) (.int .i64 mn)))
  have hC9 := (HC5.out.other ⟨w.heap.size, 0, none⟩ (.int .i64 kd) (by have := HPZ.out.2.2.2; simp; omega)).other ⟨w.heap.size, 1, none⟩ (.int .i64 mn) (by have := HPZ.out.2.2.2; simp; omega)
  refine hK.out _ _ (cel2a hC9) (fun hHeldN => ?_)
  clear hK K hHeld
  have hHeld := hHeldN
  clear hHeldN
  try simp only [Act.put, List.setIfInBounds_toArray, List.set_cons_zero, List.set_cons_succ]
  refine take_yes (i := 5) (oi := { dst := some 3, op := Op.assign (Operand.tmp 15), type := 26, pos := "l12_policy.go:83", after := #[{ on := 1, ground := Ground.data }, { on := 4, ground := Ground.chain }, { on := 0, ground := Ground.phase }, { on := 1, ground := Ground.phase }, { on := 2, ground := Ground.textOnly Departure.lateStores }, { on := 3, ground := Ground.textOnly Departure.lateStoresUnsure }, { on := 4, ground := Ground.phase }], guard := none }) (v := .slice ua os.length uc) rfl (by kernel_rfl) (by kernel_rfl) (by kernel_rfl) (fun _ _ _ h => h) (by rfl) (fun w hSw => by (try dsimp only at hSw); go_simp) (by assumption) ?_
  try simp only [Act.put, List.setIfInBounds_toArray, List.set_cons_zero, List.set_cons_succ]
  refine take_yes (i := 6) (oi := { dst := some 4, op := Op.assign (Operand.tmp 17), type := 26, pos := "l12_policy.go:83", after := #[{ on := 3, ground := Ground.data }, { on := 5, ground := Ground.chain }, { on := 0, ground := Ground.phase }, { on := 1, ground := Ground.phase }, { on := 2, ground := Ground.phase }, { on := 3, ground := Ground.phase }, { on := 4, ground := Ground.phase }, { on := 5, ground := Ground.phase }], guard := none }) (v := .slice va fs.length vc) rfl (by kernel_rfl) (by kernel_rfl) (by kernel_rfl) (fun _ _ _ h => h) (by rfl) (fun w hSw => by (try dsimp only at hSw); go_simp) (by assumption) ?_
  try simp only [Act.put, List.setIfInBounds_toArray, List.set_cons_zero, List.set_cons_succ]
  refine wpAnyH_done (by kernel_rfl) ?_ _
  have hHeld2 := hHeld
  clear hHeld
  clear hHeld2 f0 f1 hC9
  go_wp2_with (fail)
  exact bodyPost_ret (v := .tuple #[.agg #[.int .i64 kd, .int .i64 mn], .slice ua os.length uc, .slice va fs.length vc]) (by simp [results, Try.results9, go_sem, q0, q1]) rfl ⟨kd, mn, _, os, _, fs, rfl, HG.out.1.1, HG.out.2.1, HM.out, HL5.out, HG.out.1.2⟩
end Go.Proofs.Ytmokepopmfcdnaa
