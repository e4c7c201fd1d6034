import Derived.Test.YtdajfnonehianaaQok
namespace Go.Proofs.Ytdajfnonehianaa
open Go.RowKit

set_option maxRecDepth 100000 in
set_option maxHeartbeats 4000000 in
theorem impl_anew (o : Ot) (w : World) (hs : o.text.size ≤ 100000000000) :
    Calls Try.prog 21 #[.agg #[.string o.text, .int .i64 o.base, .int .i64 o.sent, .int .i64 o.room]] w fun e w' => e = .returned (.agg #[.string (anw o).text, .int .i64 (anw o).base, .int .i64 (anw o).sent, .int .i64 (anw o).room]) ∧ Below w.heap.size w w' := by
  obtain ⟨t, b, s, r⟩ := o
  simp only at hs
  have HX := Lib.hid (Bx.new w (.string t) (.int .i64 b) (.int .i64 s) (.int .i64 r))
  have cO := fun W => impl_outOk ⟨t, b, s, r⟩ W (by simp only; omega)
  have cC := fun W => copy_out ⟨t, b, s, r⟩ W (by simp only; omega)
  have cE := fun W => out_end ⟨t, b, s, r⟩ W
  simp only at cO cC cE
  unfold anw
  clear cE
  by_cases hok : Ot.Ok (Ot.mk t b s r)
  · rw [decide_eq_true hok] at cO
    rw [if_pos hok]
    simp only
    clear hok hs
    go_enter Try.func21, Try.ntmps21
    go_upto_region 1 with (fail)
    generalize (w.alloc _).alloc _ = w0 at *
    obtain ⟨a0, a1, a2, a3⟩ := HX.out.all
    go_wp2_with (fail)
    with_reducible refine (cC _).mono ?_
    rintro e w1 ⟨rfl, hb1⟩
    have h1 := HX.out.kept hb1
    have hN := Cel.new w1 33 #[.string t, .int .i64 b, .int .i64 s, .int .i64 r]
    have hbn := below_new w1 (.cells #[.string t, .int .i64 b, .int .i64 s, .int .i64 r] 33)
    have hz : w.heap.size + 1 < w1.heap.size := by obtain ⟨_, _, _, _, hz⟩ := h1.res; exact hz.lt
    have K2 := Lib.hid (And.intro (h1.kept hbn) (And.intro hN hz))
    clear HX hb1 h1 hN hbn hz a0 a1 a2 a3 cC
    go_upto_region 2 with (fail)
    obtain ⟨g, hg⟩ : ∃ g, w1.heap.size = g := ⟨_, rfl⟩
    rw [hg] at K2 ⊢
    generalize w1.alloc (.cells #[.string t, .int .i64 b, .int .i64 s, .int .i64 r] 33) = w2 at *
    clear hg
    obtain ⟨a0, a1, a2, a3⟩ := K2.out.1.all
    go_wp2_with (fail)
    with_reducible refine (cO _).mono ?_
    rintro e w3 ⟨rfl, hb3⟩
    have K3 := Lib.hid (And.intro (K2.out.1.kept hb3) (And.intro (K2.out.2.1.kept hb3) K2.out.2.2))
    clear K2 hb3 a0 a1 a2 a3 cO
    obtain ⟨a0, a1, a2, a3⟩ := K3.out.1.all
    obtain ⟨d0, d1, d2, d3⟩ := cel4 K3.out.2.1
    have f0 := K3.out.2.1.frozen 2
    have h4 := K3.out.2.1.set 2 (.int .i64 b)
    simp only [List.setIfInBounds_toArray, List.set_cons_zero, List.set_cons_succ] at h4
    have K4 := Lib.hid (And.intro (K3.out.1.far (g := g) K3.out.2.2 2 (.int .i64 b)) h4)
    clear K3 h4
    go_upto_region 4 with (fail)
    clear a0 a1 a2 a3 d0 d1 d2 d3 f0
    generalize w3.setCell ⟨g, 2, none⟩ (.int .i64 b) = w4 at *
    obtain ⟨d0, d1, d2, d3⟩ := cel4 K4.out.2
    have H4 := Lib.hid K4.out.1
    clear K4
    obtain ⟨a0, a1, a2, a3⟩ := H4.out.all
    obtain ⟨r0, r1, r2, r3, b0, b1, b2, b3⟩ := H4.out.rs
    have f0 := (H4.out.fr 0).2
    have f1 := (H4.out.fr 1).2
    have f2 := (H4.out.fr 2).2
    have f3 := (H4.out.fr 3).2
    have HG := Lib.hid (H4.out.give (.string t) (.int .i64 b) (.int .i64 b) (.int .i64 r))
    clear H4
    go_wp2_with (fail)
    exact bodyPost_ret (out_result HG.out.1 rfl _ rfl) rfl ⟨rfl, HG.out.2⟩
  · rw [decide_eq_false hok] at cO
    rw [if_neg hok]
    clear hok hs
    go_enter Try.func21, Try.ntmps21
    go_upto_region 1 with (fail)
    generalize (w.alloc _).alloc _ = w0 at *
    obtain ⟨a0, a1, a2, a3⟩ := HX.out.all
    go_wp2_with (fail)
    with_reducible refine (cC _).mono ?_
    rintro e w1 ⟨rfl, hb1⟩
    have h1 := HX.out.kept hb1
    have hN := Cel.new w1 33 #[.string t, .int .i64 b, .int .i64 s, .int .i64 r]
    have hbn := below_new w1 (.cells #[.string t, .int .i64 b, .int .i64 s, .int .i64 r] 33)
    have hz : w.heap.size + 1 < w1.heap.size := by obtain ⟨_, _, _, _, hz⟩ := h1.res; exact hz.lt
    have K2 := Lib.hid (And.intro (h1.kept hbn) (And.intro hN hz))
    clear HX hb1 h1 hN hbn hz a0 a1 a2 a3 cC
    go_upto_region 2 with (fail)
    obtain ⟨g, hg⟩ : ∃ g, w1.heap.size = g := ⟨_, rfl⟩
    rw [hg] at K2 ⊢
    generalize w1.alloc (.cells #[.string t, .int .i64 b, .int .i64 s, .int .i64 r] 33) = w2 at *
    clear hg
    obtain ⟨a0, a1, a2, a3⟩ := K2.out.1.all
    go_wp2_with (fail)
    with_reducible refine (cO _).mono ?_
    rintro e w3 ⟨rfl, hb3⟩
    have K3 := Lib.hid (And.intro (K2.out.1.kept hb3) (And.intro (K2.out.2.1.kept hb3) K2.out.2.2))
    clear K2 hb3 a0 a1 a2 a3 cO
    obtain ⟨d0, d1, d2, d3⟩ := cel4 K3.out.2.1
    have H4 := Lib.hid K3.out.1
    clear K3
    obtain ⟨a0, a1, a2, a3⟩ := H4.out.all
    obtain ⟨r0, r1, r2, r3, b0, b1, b2, b3⟩ := H4.out.rs
    have f0 := (H4.out.fr 0).2
    have f1 := (H4.out.fr 1).2
    have f2 := (H4.out.fr 2).2
    have f3 := (H4.out.fr 3).2
    have HG := Lib.hid (H4.out.give (.string t) (.int .i64 b) (.int .i64 s) (.int .i64 r))
    clear H4
    go_wp2_with (fail)
    exact bodyPost_ret (out_result HG.out.1 rfl _ rfl) rfl ⟨rfl, HG.out.2⟩

set_option maxRecDepth 100000 in
set_option maxHeartbeats 4000000 in
theorem impl_was (o : Ot) (w : World) (hs : o.text.size ≤ 100000000000) (hb : IntKind.i64.wrap o.sent = o.sent) :
    Calls Try.prog 23 #[.agg #[.string o.text, .int .i64 o.base, .int .i64 o.sent, .int .i64 o.room]] w fun e w' => e = .returned (.agg #[.string (was o).text, .int .i64 (was o).base, .int .i64 (was o).sent, .int .i64 (was o).room]) ∧ Below w.heap.size w w' := by
  have cN := fun W => impl_next o W hs
  have hz := nxt_size o
  have hw : IntKind.i64.wrap (o.sent + ((nxt o).1.text.size : Int)) = o.sent + ((nxt o).1.text.size : Int) := by
    unfold nxt at hz ⊢
    split at hz
    · rename_i h
      rw [if_pos h]
      have h2 := h.1
      unfold Ot.Ok at h2
      simp only at hz ⊢
      exact IntWalk.i64_in _ (by omega)
    · rename_i h
      rw [if_neg h]
      show IntKind.i64.wrap (o.sent + ((0 : Nat) : Int)) = o.sent + ((0 : Nat) : Int)
      rw [show o.sent + ((0 : Nat) : Int) = o.sent by omega]
      exact hb
  unfold was
  generalize nxt o = np at *
  obtain ⟨⟨pp, pt⟩, pb⟩ := np
  simp only at cN hw hz ⊢
  obtain ⟨t, b, s, r⟩ := o
  simp only at hs hw cN ⊢
  have HX := Lib.hid (Bx.new w (.string t) (.int .i64 b) (.int .i64 s) (.int .i64 r))
  have cO := fun W => impl_outOk ⟨t, b, s, r⟩ W (by simp only; omega)
  have cC := fun W => copy_out ⟨t, b, s, r⟩ W (by simp only; omega)
  have cE := fun W => out_end ⟨t, b, s, r⟩ W
  simp only at cO cC cE
  obtain ⟨sn, hsn⟩ : ∃ sn, s + (pt.size : Int) = sn := ⟨_, rfl⟩
  have hw2 : IntKind.i64.wrap (s + (pt.size : Int)) = sn := hw.trans hsn
  rw [hsn]
  clear cO cE hs hb hz hw hsn
  go_enter Try.func23, Try.ntmps23
  go_upto_region 1 with (fail)
  generalize (w.alloc _).alloc _ = w0 at *
  obtain ⟨a0, a1, a2, a3⟩ := HX.out.all
  go_wp2_with (fail)
  with_reducible refine (cN _).mono ?_
  rintro e w1 ⟨rfl, hb1⟩
  have h1 := HX.out.kept hb1
  have hN := Cel.new w1 41 #[.int .i64 pp, .string pt]
  have hbn := below_new w1 (.cells #[.int .i64 pp, .string pt] 41)
  have hz : w.heap.size + 1 < w1.heap.size := by obtain ⟨_, _, _, _, hz⟩ := h1.res; exact hz.lt
  have K2 := Lib.hid (And.intro (h1.kept hbn) (And.intro hN hz))
  clear HX hb1 h1 hN hbn hz a0 a1 a2 a3 cN
  go_upto_region 2 with (fail)
  obtain ⟨g, hg⟩ : ∃ g, w1.heap.size = g := ⟨_, rfl⟩
  rw [hg] at K2 ⊢
  generalize w1.alloc (.cells #[.int .i64 pp, .string pt] 41) = w2 at *
  clear hg
  obtain ⟨a0, a1, a2, a3⟩ := K2.out.1.all
  go_wp2_with (fail)
  with_reducible refine (cC _).mono ?_
  rintro e w3 ⟨rfl, hb3⟩
  have h3 := K2.out.1.kept hb3
  have hP := K2.out.2.1.kept hb3
  have hN := Cel.new w3 33 #[.string t, .int .i64 b, .int .i64 s, .int .i64 r]
  have hbn := below_new w3 (.cells #[.string t, .int .i64 b, .int .i64 s, .int .i64 r] 33)
  have hz : w.heap.size + 1 < w3.heap.size := by obtain ⟨_, _, _, _, hz⟩ := h3.res; exact hz.lt
  have K4 := Lib.hid (And.intro (h3.kept hbn) (And.intro (hP.kept hbn) (And.intro hN hz)))
  clear K2 hb3 h3 hP hN hbn hz a0 a1 a2 a3 cC
  go_upto_region 3 with (fail)
  obtain ⟨g3, hg⟩ : ∃ g3, w3.heap.size = g3 := ⟨_, rfl⟩
  rw [hg] at K4 ⊢
  generalize w3.alloc (.cells #[.string t, .int .i64 b, .int .i64 s, .int .i64 r] 33) = w4 at *
  clear hg
  obtain ⟨p0, p1⟩ := cel2 K4.out.2.1
  obtain ⟨d0, d1, d2, d3⟩ := cel4 K4.out.2.2.1
  have f0 := K4.out.2.2.1.frozen 2
  have h5 := K4.out.2.2.1.set 2 (.int .i64 sn)
  simp only [List.setIfInBounds_toArray, List.set_cons_zero, List.set_cons_succ] at h5
  have K5 := Lib.hid (And.intro (K4.out.1.far (g := g3) K4.out.2.2.2 2 (.int .i64 sn)) h5)
  clear K4 h5
  go_upto_region 4 with (fail)
  clear p0 p1 d0 d1 d2 d3 f0 hw2
  generalize w4.setCell ⟨g3, 2, none⟩ (.int .i64 sn) = w5 at *
  obtain ⟨d0, d1, d2, d3⟩ := cel4 K5.out.2
  have H5 := Lib.hid K5.out.1
  clear K5
  obtain ⟨a0, a1, a2, a3⟩ := H5.out.all
  obtain ⟨r0, r1, r2, r3, b0, b1, b2, b3⟩ := H5.out.rs
  have f0 := (H5.out.fr 0).2
  have f1 := (H5.out.fr 1).2
  have f2 := (H5.out.fr 2).2
  have f3 := (H5.out.fr 3).2
  have HG := Lib.hid (H5.out.give (.string t) (.int .i64 b) (.int .i64 sn) (.int .i64 r))
  clear H5
  go_wp2_with (fail)
  exact bodyPost_ret (out_result HG.out.1 rfl _ rfl) rfl ⟨rfl, HG.out.2⟩

theorem Bx.stay {w W : World} {x y z u : Value} (h : Bx w W x y z u) (a b c d : Value) : Cel ((((W.setCell ⟨w.heap.size + 1, 0, none⟩ a).setCell ⟨w.heap.size + 1, 1, none⟩ b).setCell ⟨w.heap.size + 1, 2, none⟩ c).setCell ⟨w.heap.size + 1, 3, none⟩ d) w.heap.size 33 #[x, y, z, u] :=
  (((h.box.other _ _ (by simp)).other _ _ (by simp)).other _ _ (by simp)).other _ _ (by simp)

set_option maxRecDepth 100000 in
set_option maxHeartbeats 4000000 in
theorem impl_came (o : Ot) (u : Int) (w : World) (hs : o.text.size ≤ 100000000000) :
    Calls Try.prog 24 #[.agg #[.string o.text, .int .i64 o.base, .int .i64 o.sent, .int .i64 o.room], .int .i64 u] w fun e w' => e = .returned (.agg #[.string (came o u).text, .int .i64 (came o u).base, .int .i64 (came o u).sent, .int .i64 (came o u).room]) ∧ Below w.heap.size w w' := by
  obtain ⟨t, b, s, r⟩ := o
  simp only at hs
  have HX := Lib.hid (Bx.new w (.string t) (.int .i64 b) (.int .i64 s) (.int .i64 r))
  have cO := fun W => impl_outOk ⟨t, b, s, r⟩ W (by simp only; omega)
  have cC := fun W => copy_out ⟨t, b, s, r⟩ W (by simp only; omega)
  have cE := fun W => out_end ⟨t, b, s, r⟩ W
  simp only at cO cC cE
  unfold came
  by_cases hok : Ot.Ok (Ot.mk t b s r)
  · rw [decide_eq_true hok] at cO
    have hok' := hok
    unfold Ot.Ok at hok'
    simp only at hok' ⊢
    have e2 : IntKind.i64.wrap (b + (t.size : Int)) = b + (t.size : Int) := IntWalk.i64_in _ (by omega)
    rw [e2] at cE
    have e5 : IntKind.i64.wrap (b + 1) = b + 1 := IntWalk.i64_in _ (by omega)
    obtain ⟨en, hen⟩ : ∃ en, b + (t.size : Int) = en := ⟨_, rfl⟩
    rw [hen] at cE ⊢
    have cW := fun W => impl_within u (b + 1) en W
    by_cases hm : b + 1 ≤ u ∧ u ≤ en
    · rw [if_pos ⟨hok, hm⟩]
      rw [decide_eq_true hm] at cW
      have hsl := cut_from t (u - b) (by omega) (by omega)
      have hzz := cut_size t (u - b).toNat t.size
      obtain ⟨y, hy⟩ : ∃ y, t.extract (u - b).toNat t.size = y := ⟨_, rfl⟩
      rw [hy] at hsl hzz ⊢
      obtain ⟨mx, hmx⟩ : ∃ mx, max s u = mx := ⟨_, rfl⟩
      rw [hmx]
      have cF := fun W => copy_out ⟨y, u, mx, r⟩ W (by simp only; omega)
      simp only at cF
      obtain ⟨d, hd⟩ : ∃ d, u - b = d := ⟨_, rfl⟩
      have e4 : IntKind.i64.wrap (u - b) = d := by rw [IntWalk.i64_in _ (by omega)]; exact hd
      rw [hd] at hsl
      clear hok hok' hs hen e2 cC hm hy hzz hd
      go_enter Try.func24, Try.ntmps24
      go_upto_region 1 with (fail)
      generalize (w.alloc _).alloc _ = w0 at *
      have k1 := Lib.hid HX.out.drew
      have e0 := k1.out.all
      clear HX
      refine wp_region_held_drew (S := fun W => W.cell? ⟨w.heap.size, 0, none⟩ = some (.string t) ∧ W.cell? ⟨w.heap.size, 1, none⟩ = some (.int .i64 b) ∧ W.cell? ⟨w.heap.size, 2, none⟩ = some (.int .i64 s) ∧ W.cell? ⟨w.heap.size, 3, none⟩ = some (.int .i64 r)) (by kernel_rfl) e0 (fun hHeld => ?_)
      refine take_yes (i := 0) (oi := { dst := some 5, op := Op.load 33 (Operand.tmp 2), type := 33, pos := "l10_sends.go:48", after := #[], guard := none }) (v := .agg #[.string t, .int .i64 b, .int .i64 s, .int .i64 r]) rfl (by kernel_rfl) (by kernel_rfl) (by kernel_rfl) (fun _ _ _ h => h) (by rfl) (fun w hSw => by (try dsimp only at hSw); go_simp) (by assumption) ?_
      try simp only [Act.put, List.setIfInBounds_toArray, List.set_cons_zero, List.set_cons_succ]
      refine wpAnyH_ready (rs := [1]) (by kernel_rfl) (by simp) ?_
      refine AllReadyH.cons (o := { dst := some 6, op := Op.call { callee := Callee.value (Operand.func 25), args := #[Operand.tmp 5], argTypes := #[33] }, type := 4, pos := "l10_sends.go:48", after := #[{ on := 0, ground := Ground.data }], guard := none }) rfl (fun K hK => ?_) AllReadyH.nil
      go_simp
      with_reducible refine (cO _).mono ?_
      rintro e wA ⟨rfl, hbA⟩
      have k2 := Lib.hid (k1.out.kept hbA)
      have e2 := k2.out.all
      clear hbA cO k1 e0
      refine hK.out _ _ e2 (fun hHeldN => ?_)
      clear hK K hHeld
      have hHeld := hHeldN
      clear hHeldN
      try simp only [Act.put, List.setIfInBounds_toArray, List.set_cons_zero, List.set_cons_succ]
      refine take_yes (i := 2) (oi := { dst := some 7, op := Op.unOp UnOp.not 4 (Operand.tmp 6), type := 4, pos := "l10_sends.go:48", after := #[{ on := 1, ground := Ground.data }], guard := none }) (v := .bool false) rfl (by kernel_rfl) (by kernel_rfl) (by kernel_rfl) (fun _ _ _ h => h) (by rfl) (fun w hSw => by (try dsimp only at hSw); go_simp) (by assumption) ?_
      try simp only [Act.put, List.setIfInBounds_toArray, List.set_cons_zero, List.set_cons_succ]
      refine take_yes (i := 3) (oi := { dst := some 8, op := Op.move (Operand.tmp 7), type := 4, pos := "l10_sends.go:48", after := #[{ on := 2, ground := Ground.data }, { on := 1, ground := Ground.chain }], guard := none }) (v := .bool false) rfl (by kernel_rfl) (by kernel_rfl) (by kernel_rfl) (fun _ _ _ h => h) (by rfl) (fun w hSw => by (try dsimp only at hSw); go_simp) (by assumption) ?_
      try simp only [Act.put, List.setIfInBounds_toArray, List.set_cons_zero, List.set_cons_succ]
      refine take_yes (i := 4) (oi := { dst := some 9, op := Op.move (Operand.tmp 1), type := 3, pos := "l10_sends.go:48", after := #[{ on := 3, ground := Ground.guard }], guard := some (3, false) }) (v := .int .i64 u) rfl (by kernel_rfl) (by kernel_rfl) (by kernel_rfl) (fun _ _ _ h => h) (by rfl) (fun w hSw => by (try dsimp only at hSw); go_simp) (by assumption) ?_
      try simp only [Act.put, List.setIfInBounds_toArray, List.set_cons_zero, List.set_cons_succ]
      refine take_yes (i := 5) (oi := { dst := some 10, op := Op.fieldAddr 33 (Operand.tmp 2) 1, type := 0, pos := "l10_sends.go:48", after := #[{ on := 3, ground := Ground.guard }], guard := some (3, false) }) (v := .pointer (some ⟨w.heap.size, 1, none⟩)) rfl (by kernel_rfl) (by kernel_rfl) (by kernel_rfl) (fun _ _ _ h => h) (by rfl) (fun w hSw => by (try dsimp only at hSw); go_simp) (by assumption) ?_
      try simp only [Act.put, List.setIfInBounds_toArray, List.set_cons_zero, List.set_cons_succ]
      refine take_yes (i := 6) (oi := { dst := some 11, op := Op.load 3 (Operand.tmp 10), type := 3, pos := "l10_sends.go:48", after := #[{ on := 5, ground := Ground.data }, { on := 3, ground := Ground.guard }], guard := some (3, false) }) (v := .int .i64 b) rfl (by kernel_rfl) (by kernel_rfl) (by kernel_rfl) (fun _ _ _ h => h) (by rfl) (fun w hSw => by (try dsimp only at hSw); go_simp) (by assumption) ?_
      try simp only [Act.put, List.setIfInBounds_toArray, List.set_cons_zero, List.set_cons_succ]
      refine take_yes (i := 7) (oi := { dst := some 12, op := Op.binOp BinOp.add 3 (Operand.tmp 11) (Operand.const (Value.int IntKind.i64 1)) 3, type := 3, pos := "l10_sends.go:48", after := #[{ on := 6, ground := Ground.data }, { on := 3, ground := Ground.guard }], guard := some (3, false) }) (v := .int .i64 (b + 1)) rfl (by kernel_rfl) (by kernel_rfl) (by kernel_rfl) (fun _ _ _ h => h) (by rfl) (fun w hSw => by (try dsimp only at hSw); go_simp) (by assumption) ?_
      try simp only [Act.put, List.setIfInBounds_toArray, List.set_cons_zero, List.set_cons_succ]
      refine take_yes (i := 8) (oi := { dst := some 13, op := Op.load 33 (Operand.tmp 2), type := 33, pos := "l10_sends.go:48", after := #[{ on := 3, ground := Ground.guard }], guard := some (3, false) }) (v := .agg #[.string t, .int .i64 b, .int .i64 s, .int .i64 r]) rfl (by kernel_rfl) (by kernel_rfl) (by kernel_rfl) (fun _ _ _ h => h) (by rfl) (fun w hSw => by (try dsimp only at hSw); go_simp) (by assumption) ?_
      try simp only [Act.put, List.setIfInBounds_toArray, List.set_cons_zero, List.set_cons_succ]
      refine wpAnyH_ready (rs := [9]) (by kernel_rfl) (by simp) ?_
      refine AllReadyH.cons (o := { dst := some 14, op := Op.call { callee := Callee.value (Operand.func 54), args := #[Operand.tmp 13], argTypes := #[33] }, type := 3, pos := "l10_sends.go:48", after := #[{ on := 8, ground := Ground.data }, { on := 3, ground := Ground.chain }, { on := 3, ground := Ground.guard }], guard := some (3, false) }) rfl (fun K hK => ?_) AllReadyH.nil
      go_simp
      with_reducible refine (cE _).mono ?_
      rintro e wB ⟨rfl, hbB⟩
      have k3 := Lib.hid (k2.out.kept hbB)
      have e3 := k3.out.all
      clear hbB cE k2 e2
      refine hK.out _ _ e3 (fun hHeldN => ?_)
      clear hK K hHeld
      have hHeld := hHeldN
      clear hHeldN
      try simp only [Act.put, List.setIfInBounds_toArray, List.set_cons_zero, List.set_cons_succ]
      refine wpAnyH_ready (rs := [10]) (by kernel_rfl) (by simp) ?_
      refine AllReadyH.cons (o := { dst := some 15, op := Op.call { callee := Callee.value (Operand.func 40), args := #[Operand.tmp 9, Operand.tmp 12, Operand.tmp 14], argTypes := #[3, 3, 3] }, type := 4, pos := "l10_sends.go:48", after := #[{ on := 4, ground := Ground.data }, { on := 7, ground := Ground.data }, { on := 9, ground := Ground.data }, { on := 9, ground := Ground.chain }, { on := 3, ground := Ground.guard }], guard := some (3, false) }) rfl (fun K hK => ?_) AllReadyH.nil
      go_simp
      with_reducible refine (cW _).mono ?_
      rintro e wC ⟨rfl, rfl⟩
      refine hK.out _ _ e3 (fun hHeldN => ?_)
      clear hK K hHeld
      have hHeld := hHeldN
      clear hHeldN
      try simp only [Act.put, List.setIfInBounds_toArray, List.set_cons_zero, List.set_cons_succ]
      refine take_yes (i := 11) (oi := { dst := some 16, op := Op.unOp UnOp.not 4 (Operand.tmp 15), type := 4, pos := "l10_sends.go:48", after := #[{ on := 10, ground := Ground.data }, { on := 3, ground := Ground.guard }], guard := some (3, false) }) (v := .bool false) rfl (by kernel_rfl) (by kernel_rfl) (by kernel_rfl) (fun _ _ _ h => h) (by rfl) (fun w hSw => by (try dsimp only at hSw); go_simp) (by assumption) ?_
      try simp only [Act.put, List.setIfInBounds_toArray, List.set_cons_zero, List.set_cons_succ]
      refine take_yes (i := 12) (oi := { dst := some 17, op := Op.pick (Operand.tmp 8) (Operand.const (Value.bool true)) (Operand.tmp 16), type := 4, pos := "l10_sends.go:48", after := #[{ on := 3, ground := Ground.data }, { on := 11, ground := Ground.data }], guard := none }) (v := .bool false) rfl (by kernel_rfl) (by kernel_rfl) (by kernel_rfl) (fun _ _ _ h => h) (by rfl) (fun w hSw => by (try dsimp only at hSw); go_simp) (by assumption) ?_
      try simp only [Act.put, List.setIfInBounds_toArray, List.set_cons_zero, List.set_cons_succ]
      refine wpAnyH_done (by kernel_rfl) ?_ _
      clear hHeld
      clear e3 cW
      go_upto_region 3 with (fail)
      have k4 := Lib.hid k3.out.drew
      have e6 := k4.out.all
      clear k3
      refine wp_region_held_drew (S := fun W => W.cell? ⟨w.heap.size, 0, none⟩ = some (.string t) ∧ W.cell? ⟨w.heap.size, 1, none⟩ = some (.int .i64 b) ∧ W.cell? ⟨w.heap.size, 2, none⟩ = some (.int .i64 s) ∧ W.cell? ⟨w.heap.size, 3, none⟩ = some (.int .i64 r)) (by kernel_rfl) e6 (fun hHeld => ?_)
      refine take_yes (i := 0) (oi := { dst := some 20, op := Op.fieldAddr 33 (Operand.tmp 2) 0, type := 0, pos := "l10_sends.go:51", after := #[], guard := none }) (v := .pointer (some ⟨w.heap.size, 0, none⟩)) rfl (by kernel_rfl) (by kernel_rfl) (by kernel_rfl) (fun _ _ _ h => h) (by rfl) (fun w hSw => by (try dsimp only at hSw); go_simp) (by assumption) ?_
      try simp only [Act.put, List.setIfInBounds_toArray, List.set_cons_zero, List.set_cons_succ]
      refine take_yes (i := 1) (oi := { dst := some 21, op := Op.load 9 (Operand.tmp 20), type := 9, pos := "l10_sends.go:51", after := #[{ on := 0, ground := Ground.data }], guard := none }) (v := .string t) rfl (by kernel_rfl) (by kernel_rfl) (by kernel_rfl) (fun _ _ _ h => h) (by rfl) (fun w hSw => by (try dsimp only at hSw); go_simp) (by assumption) ?_
      try simp only [Act.put, List.setIfInBounds_toArray, List.set_cons_zero, List.set_cons_succ]
      refine take_yes (i := 2) (oi := { dst := some 22, op := Op.move (Operand.tmp 1), type := 3, pos := "l10_sends.go:51", after := #[], guard := none }) (v := .int .i64 u) rfl (by kernel_rfl) (by kernel_rfl) (by kernel_rfl) (fun _ _ _ h => h) (by rfl) (fun w hSw => by (try dsimp only at hSw); go_simp) (by assumption) ?_
      try simp only [Act.put, List.setIfInBounds_toArray, List.set_cons_zero, List.set_cons_succ]
      refine take_yes (i := 3) (oi := { dst := some 23, op := Op.fieldAddr 33 (Operand.tmp 2) 1, type := 0, pos := "l10_sends.go:51", after := #[], guard := none }) (v := .pointer (some ⟨w.heap.size, 1, none⟩)) rfl (by kernel_rfl) (by kernel_rfl) (by kernel_rfl) (fun _ _ _ h => h) (by rfl) (fun w hSw => by (try dsimp only at hSw); go_simp) (by assumption) ?_
      try simp only [Act.put, List.setIfInBounds_toArray, List.set_cons_zero, List.set_cons_succ]
      refine take_yes (i := 4) (oi := { dst := some 24, op := Op.load 3 (Operand.tmp 23), type := 3, pos := "l10_sends.go:51", after := #[{ on := 3, ground := Ground.data }], guard := none }) (v := .int .i64 b) rfl (by kernel_rfl) (by kernel_rfl) (by kernel_rfl) (fun _ _ _ h => h) (by rfl) (fun w hSw => by (try dsimp only at hSw); go_simp) (by assumption) ?_
      try simp only [Act.put, List.setIfInBounds_toArray, List.set_cons_zero, List.set_cons_succ]
      refine take_yes (i := 5) (oi := { dst := some 25, op := Op.binOp BinOp.sub 3 (Operand.tmp 22) (Operand.tmp 24) 3, type := 3, pos := "l10_sends.go:51", after := #[{ on := 2, ground := Ground.data }, { on := 4, ground := Ground.data }], guard := none }) (v := .int .i64 d) rfl (by kernel_rfl) (by kernel_rfl) (by kernel_rfl) (fun _ _ _ h => h) (by rfl) (fun w hSw => by (try dsimp only at hSw); go_simp) (by assumption) ?_
      try simp only [Act.put, List.setIfInBounds_toArray, List.set_cons_zero, List.set_cons_succ]
      refine take_yes (i := 6) (oi := { dst := some 26, op := Op.slice 9 (Operand.tmp 21) (some (Operand.tmp 25)) none none, type := 9, pos := "l10_sends.go:51", after := #[{ on := 1, ground := Ground.data }, { on := 5, ground := Ground.data }], guard := none }) (v := .string y) rfl (by kernel_rfl) (by kernel_rfl) (by kernel_rfl) (fun _ _ _ h => h) (by rfl) (fun w hSw => by (try dsimp only at hSw); go_simp) (by assumption) ?_
      try simp only [Act.put, List.setIfInBounds_toArray, List.set_cons_zero, List.set_cons_succ]
      refine take_yes (i := 7) (oi := { dst := some 27, op := Op.move (Operand.tmp 1), type := 3, pos := "l10_sends.go:51", after := #[], guard := none }) (v := .int .i64 u) rfl (by kernel_rfl) (by kernel_rfl) (by kernel_rfl) (fun _ _ _ h => h) (by rfl) (fun w hSw => by (try dsimp only at hSw); go_simp) (by assumption) ?_
      try simp only [Act.put, List.setIfInBounds_toArray, List.set_cons_zero, List.set_cons_succ]
      refine take_yes (i := 8) (oi := { dst := some 28, op := Op.fieldAddr 33 (Operand.tmp 2) 2, type := 0, pos := "l10_sends.go:51", after := #[], guard := none }) (v := .pointer (some ⟨w.heap.size, 2, none⟩)) rfl (by kernel_rfl) (by kernel_rfl) (by kernel_rfl) (fun _ _ _ h => h) (by rfl) (fun w hSw => by (try dsimp only at hSw); go_simp) (by assumption) ?_
      try simp only [Act.put, List.setIfInBounds_toArray, List.set_cons_zero, List.set_cons_succ]
      refine take_yes (i := 9) (oi := { dst := some 29, op := Op.load 3 (Operand.tmp 28), type := 3, pos := "l10_sends.go:51", after := #[{ on := 8, ground := Ground.data }], guard := none }) (v := .int .i64 s) rfl (by kernel_rfl) (by kernel_rfl) (by kernel_rfl) (fun _ _ _ h => h) (by rfl) (fun w hSw => by (try dsimp only at hSw); go_simp) (by assumption) ?_
      try simp only [Act.put, List.setIfInBounds_toArray, List.set_cons_zero, List.set_cons_succ]
      refine take_yes (i := 10) (oi := { dst := some 30, op := Op.move (Operand.tmp 1), type := 3, pos := "l10_sends.go:51", after := #[], guard := none }) (v := .int .i64 u) rfl (by kernel_rfl) (by kernel_rfl) (by kernel_rfl) (fun _ _ _ h => h) (by rfl) (fun w hSw => by (try dsimp only at hSw); go_simp) (by assumption) ?_
      try simp only [Act.put, List.setIfInBounds_toArray, List.set_cons_zero, List.set_cons_succ]
      refine take_yes (i := 11) (oi := { dst := some 31, op := Op.call { callee := Callee.builtin Builtin.max, args := #[Operand.tmp 29, Operand.tmp 30], argTypes := #[3, 3] }, type := 3, pos := "l10_sends.go:51", after := #[{ on := 9, ground := Ground.data }, { on := 10, ground := Ground.data }], guard := none }) (v := .int .i64 mx) rfl (by kernel_rfl) (by kernel_rfl) (by kernel_rfl) (fun _ _ _ h => h) (by rfl) (fun w hSw => by (try dsimp only at hSw); go_simp) (by assumption) ?_
      try simp only [Act.put, List.setIfInBounds_toArray, List.set_cons_zero, List.set_cons_succ]
      refine take_yes (i := 12) (oi := { dst := some 32, op := Op.fieldAddr 33 (Operand.tmp 2) 3, type := 0, pos := "l10_sends.go:51", after := #[], guard := none }) (v := .pointer (some ⟨w.heap.size, 3, none⟩)) rfl (by kernel_rfl) (by kernel_rfl) (by kernel_rfl) (fun _ _ _ h => h) (by rfl) (fun w hSw => by (try dsimp only at hSw); go_simp) (by assumption) ?_
      try simp only [Act.put, List.setIfInBounds_toArray, List.set_cons_zero, List.set_cons_succ]
      refine take_yes (i := 13) (oi := { dst := some 33, op := Op.load 3 (Operand.tmp 32), type := 3, pos := "l10_sends.go:51", after := #[{ on := 12, ground := Ground.data }], guard := none }) (v := .int .i64 r) rfl (by kernel_rfl) (by kernel_rfl) (by kernel_rfl) (fun _ _ _ h => h) (by rfl) (fun w hSw => by (try dsimp only at hSw); go_simp) (by assumption) ?_
      try simp only [Act.put, List.setIfInBounds_toArray, List.set_cons_zero, List.set_cons_succ]
      refine take_yes (i := 14) (oi := { dst := some 34, op := Op.build 33 #[(0, Operand.tmp 26), (1, Operand.tmp 27), (2, Operand.tmp 31), (3, Operand.tmp 33)], type := 33, pos := "l10_sends.go:51", after := #[{ on := 6, ground := Ground.data }, { on := 7, ground := Ground.data }, { on := 11, ground := Ground.data }, { on := 13, ground := Ground.data }], guard := none }) (v := .agg #[.string y, .int .i64 u, .int .i64 mx, .int .i64 r]) rfl (by kernel_rfl) (by kernel_rfl) (by kernel_rfl) (fun _ _ _ h => h) (by rfl) (fun w hSw => by (try dsimp only at hSw); go_simp) (by assumption) ?_
      try simp only [Act.put, List.setIfInBounds_toArray, List.set_cons_zero, List.set_cons_succ]
      refine wpAnyH_ready (rs := [15]) (by kernel_rfl) (by simp) ?_
      refine AllReadyH.cons (o := { dst := some 35, op := Op.call { callee := Callee.value (Operand.func 55), args := #[Operand.tmp 34], argTypes := #[33] }, type := 33, pos := "l10_sends.go:51", after := #[{ on := 14, ground := Ground.data }], guard := none }) rfl (fun K hK => ?_) AllReadyH.nil
      go_simp
      with_reducible refine (cF _).mono ?_
      rintro e w5 ⟨rfl, hb5⟩
      have k5 := Lib.hid (k4.out.kept hb5)
      have e7 := k5.out.all
      clear hb5 cF k4 e6
      refine hK.out _ _ e7 (fun hHeldN => ?_)
      clear hK K hHeld
      have hHeld := hHeldN
      clear hHeldN
      try simp only [Act.put, List.setIfInBounds_toArray, List.set_cons_zero, List.set_cons_succ]
      refine wpAnyH_ready (rs := [16]) (by kernel_rfl) (by simp) ?_
      refine AllReadyH.cons (o := { dst := none, op := Op.store 33 (Operand.tmp 4) (Operand.tmp 35), type := 0, pos := "l10_sends.go:51", after := #[{ on := 15, ground := Ground.data }, { on := 15, ground := Ground.chain }, { on := 0, ground := Ground.phase }, { on := 1, ground := Ground.phase }, { on := 2, ground := Ground.phase }, { on := 3, ground := Ground.phase }, { on := 4, ground := Ground.phase }, { on := 5, ground := Ground.phase }, { on := 6, ground := Ground.phase }, { on := 7, ground := Ground.phase }, { on := 8, ground := Ground.phase }, { on := 9, ground := Ground.phase }, { on := 10, ground := Ground.phase }, { on := 11, ground := Ground.phase }, { on := 12, ground := Ground.phase }, { on := 13, ground := Ground.phase }, { on := 14, ground := Ground.phase }, { on := 15, ground := Ground.phase }], guard := none }) rfl (fun K hK => ?_) AllReadyH.nil
      obtain ⟨r0, r1, r2, r3, b0, b1, b2, b3⟩ := k5.out.rs
      have f0 := (k5.out.fr 0).2
      have f1 := (k5.out.fr 1).2
      have f2 := (k5.out.fr 2).2
      have f3 := (k5.out.fr 3).2
      go_simp
      have HG := Lib.hid (k5.out.give (.string y) (.int .i64 u) (.int .i64 mx) (.int .i64 r))
      have e8 := cel4 (k5.out.stay (.string y) (.int .i64 u) (.int .i64 mx) (.int .i64 r))
      clear b0 b1 b2 b3 f0 f1 f2 f3 k5 e7
      refine hK.out _ _ e8 (fun hHeldN => ?_)
      clear hK K hHeld
      have hHeld := hHeldN
      clear hHeldN
      try simp only [Act.put, List.setIfInBounds_toArray, List.set_cons_zero, List.set_cons_succ]
      refine wpAnyH_done (by kernel_rfl) ?_ _
      clear hHeld
      clear e8
      go_wp2_with (fail)
      exact bodyPost_ret (out_result HG.out.1 rfl _ rfl) rfl ⟨rfl, HG.out.2⟩
    · rw [if_neg (fun h => hm h.2)]
      rw [decide_eq_false hm] at cW
      clear hok hok' hs hen e2 hm
      go_enter Try.func24, Try.ntmps24
      go_upto_region 1 with (fail)
      generalize (w.alloc _).alloc _ = w0 at *
      have k1 := Lib.hid HX.out.drew
      have e0 := k1.out.all
      clear HX
      refine wp_region_held_drew (S := fun W => W.cell? ⟨w.heap.size, 0, none⟩ = some (.string t) ∧ W.cell? ⟨w.heap.size, 1, none⟩ = some (.int .i64 b) ∧ W.cell? ⟨w.heap.size, 2, none⟩ = some (.int .i64 s) ∧ W.cell? ⟨w.heap.size, 3, none⟩ = some (.int .i64 r)) (by kernel_rfl) e0 (fun hHeld => ?_)
      refine take_yes (i := 0) (oi := { dst := some 5, op := Op.load 33 (Operand.tmp 2), type := 33, pos := "l10_sends.go:48", after := #[], guard := none }) (v := .agg #[.string t, .int .i64 b, .int .i64 s, .int .i64 r]) rfl (by kernel_rfl) (by kernel_rfl) (by kernel_rfl) (fun _ _ _ h => h) (by rfl) (fun w hSw => by (try dsimp only at hSw); go_simp) (by assumption) ?_
      try simp only [Act.put, List.setIfInBounds_toArray, List.set_cons_zero, List.set_cons_succ]
      refine wpAnyH_ready (rs := [1]) (by kernel_rfl) (by simp) ?_
      refine AllReadyH.cons (o := { dst := some 6, op := Op.call { callee := Callee.value (Operand.func 25), args := #[Operand.tmp 5], argTypes := #[33] }, type := 4, pos := "l10_sends.go:48", after := #[{ on := 0, ground := Ground.data }], guard := none }) rfl (fun K hK => ?_) AllReadyH.nil
      go_simp
      with_reducible refine (cO _).mono ?_
      rintro e wA ⟨rfl, hbA⟩
      have k2 := Lib.hid (k1.out.kept hbA)
      have e2 := k2.out.all
      clear hbA cO k1 e0
      refine hK.out _ _ e2 (fun hHeldN => ?_)
      clear hK K hHeld
      have hHeld := hHeldN
      clear hHeldN
      try simp only [Act.put, List.setIfInBounds_toArray, List.set_cons_zero, List.set_cons_succ]
      refine take_yes (i := 2) (oi := { dst := some 7, op := Op.unOp UnOp.not 4 (Operand.tmp 6), type := 4, pos := "l10_sends.go:48", after := #[{ on := 1, ground := Ground.data }], guard := none }) (v := .bool false) rfl (by kernel_rfl) (by kernel_rfl) (by kernel_rfl) (fun _ _ _ h => h) (by rfl) (fun w hSw => by (try dsimp only at hSw); go_simp) (by assumption) ?_
      try simp only [Act.put, List.setIfInBounds_toArray, List.set_cons_zero, List.set_cons_succ]
      refine take_yes (i := 3) (oi := { dst := some 8, op := Op.move (Operand.tmp 7), type := 4, pos := "l10_sends.go:48", after := #[{ on := 2, ground := Ground.data }, { on := 1, ground := Ground.chain }], guard := none }) (v := .bool false) rfl (by kernel_rfl) (by kernel_rfl) (by kernel_rfl) (fun _ _ _ h => h) (by rfl) (fun w hSw => by (try dsimp only at hSw); go_simp) (by assumption) ?_
      try simp only [Act.put, List.setIfInBounds_toArray, List.set_cons_zero, List.set_cons_succ]
      refine take_yes (i := 4) (oi := { dst := some 9, op := Op.move (Operand.tmp 1), type := 3, pos := "l10_sends.go:48", after := #[{ on := 3, ground := Ground.guard }], guard := some (3, false) }) (v := .int .i64 u) rfl (by kernel_rfl) (by kernel_rfl) (by kernel_rfl) (fun _ _ _ h => h) (by rfl) (fun w hSw => by (try dsimp only at hSw); go_simp) (by assumption) ?_
      try simp only [Act.put, List.setIfInBounds_toArray, List.set_cons_zero, List.set_cons_succ]
      refine take_yes (i := 5) (oi := { dst := some 10, op := Op.fieldAddr 33 (Operand.tmp 2) 1, type := 0, pos := "l10_sends.go:48", after := #[{ on := 3, ground := Ground.guard }], guard := some (3, false) }) (v := .pointer (some ⟨w.heap.size, 1, none⟩)) rfl (by kernel_rfl) (by kernel_rfl) (by kernel_rfl) (fun _ _ _ h => h) (by rfl) (fun w hSw => by (try dsimp only at hSw); go_simp) (by assumption) ?_
      try simp only [Act.put, List.setIfInBounds_toArray, List.set_cons_zero, List.set_cons_succ]
      refine take_yes (i := 6) (oi := { dst := some 11, op := Op.load 3 (Operand.tmp 10), type := 3, pos := "l10_sends.go:48", after := #[{ on := 5, ground := Ground.data }, { on := 3, ground := Ground.guard }], guard := some (3, false) }) (v := .int .i64 b) rfl (by kernel_rfl) (by kernel_rfl) (by kernel_rfl) (fun _ _ _ h => h) (by rfl) (fun w hSw => by (try dsimp only at hSw); go_simp) (by assumption) ?_
      try simp only [Act.put, List.setIfInBounds_toArray, List.set_cons_zero, List.set_cons_succ]
      refine take_yes (i := 7) (oi := { dst := some 12, op := Op.binOp BinOp.add 3 (Operand.tmp 11) (Operand.const (Value.int IntKind.i64 1)) 3, type := 3, pos := "l10_sends.go:48", after := #[{ on := 6, ground := Ground.data }, { on := 3, ground := Ground.guard }], guard := some (3, false) }) (v := .int .i64 (b + 1)) rfl (by kernel_rfl) (by kernel_rfl) (by kernel_rfl) (fun _ _ _ h => h) (by rfl) (fun w hSw => by (try dsimp only at hSw); go_simp) (by assumption) ?_
      try simp only [Act.put, List.setIfInBounds_toArray, List.set_cons_zero, List.set_cons_succ]
      refine take_yes (i := 8) (oi := { dst := some 13, op := Op.load 33 (Operand.tmp 2), type := 33, pos := "l10_sends.go:48", after := #[{ on := 3, ground := Ground.guard }], guard := some (3, false) }) (v := .agg #[.string t, .int .i64 b, .int .i64 s, .int .i64 r]) rfl (by kernel_rfl) (by kernel_rfl) (by kernel_rfl) (fun _ _ _ h => h) (by rfl) (fun w hSw => by (try dsimp only at hSw); go_simp) (by assumption) ?_
      try simp only [Act.put, List.setIfInBounds_toArray, List.set_cons_zero, List.set_cons_succ]
      refine wpAnyH_ready (rs := [9]) (by kernel_rfl) (by simp) ?_
      refine AllReadyH.cons (o := { dst := some 14, op := Op.call { callee := Callee.value (Operand.func 54), args := #[Operand.tmp 13], argTypes := #[33] }, type := 3, pos := "l10_sends.go:48", after := #[{ on := 8, ground := Ground.data }, { on := 3, ground := Ground.chain }, { on := 3, ground := Ground.guard }], guard := some (3, false) }) rfl (fun K hK => ?_) AllReadyH.nil
      go_simp
      with_reducible refine (cE _).mono ?_
      rintro e wB ⟨rfl, hbB⟩
      have k3 := Lib.hid (k2.out.kept hbB)
      have e3 := k3.out.all
      clear hbB cE k2 e2
      refine hK.out _ _ e3 (fun hHeldN => ?_)
      clear hK K hHeld
      have hHeld := hHeldN
      clear hHeldN
      try simp only [Act.put, List.setIfInBounds_toArray, List.set_cons_zero, List.set_cons_succ]
      refine wpAnyH_ready (rs := [10]) (by kernel_rfl) (by simp) ?_
      refine AllReadyH.cons (o := { dst := some 15, op := Op.call { callee := Callee.value (Operand.func 40), args := #[Operand.tmp 9, Operand.tmp 12, Operand.tmp 14], argTypes := #[3, 3, 3] }, type := 4, pos := "l10_sends.go:48", after := #[{ on := 4, ground := Ground.data }, { on := 7, ground := Ground.data }, { on := 9, ground := Ground.data }, { on := 9, ground := Ground.chain }, { on := 3, ground := Ground.guard }], guard := some (3, false) }) rfl (fun K hK => ?_) AllReadyH.nil
      go_simp
      with_reducible refine (cW _).mono ?_
      rintro e wC ⟨rfl, rfl⟩
      refine hK.out _ _ e3 (fun hHeldN => ?_)
      clear hK K hHeld
      have hHeld := hHeldN
      clear hHeldN
      try simp only [Act.put, List.setIfInBounds_toArray, List.set_cons_zero, List.set_cons_succ]
      refine take_yes (i := 11) (oi := { dst := some 16, op := Op.unOp UnOp.not 4 (Operand.tmp 15), type := 4, pos := "l10_sends.go:48", after := #[{ on := 10, ground := Ground.data }, { on := 3, ground := Ground.guard }], guard := some (3, false) }) (v := .bool true) rfl (by kernel_rfl) (by kernel_rfl) (by kernel_rfl) (fun _ _ _ h => h) (by rfl) (fun w hSw => by (try dsimp only at hSw); go_simp) (by assumption) ?_
      try simp only [Act.put, List.setIfInBounds_toArray, List.set_cons_zero, List.set_cons_succ]
      refine take_yes (i := 12) (oi := { dst := some 17, op := Op.pick (Operand.tmp 8) (Operand.const (Value.bool true)) (Operand.tmp 16), type := 4, pos := "l10_sends.go:48", after := #[{ on := 3, ground := Ground.data }, { on := 11, ground := Ground.data }], guard := none }) (v := .bool true) rfl (by kernel_rfl) (by kernel_rfl) (by kernel_rfl) (fun _ _ _ h => h) (by rfl) (fun w hSw => by (try dsimp only at hSw); go_simp) (by assumption) ?_
      try simp only [Act.put, List.setIfInBounds_toArray, List.set_cons_zero, List.set_cons_succ]
      refine wpAnyH_done (by kernel_rfl) ?_ _
      clear hHeld
      clear e3 cW
      obtain ⟨a0, a1, a2, a3⟩ := k3.out.all
      go_wp2_with (fail)
      with_reducible refine (cC _).mono ?_
      rintro e w9 ⟨rfl, hb_w9⟩
      have H9 := Lib.hid (k3.out.kept hb_w9)
      clear hb_w9 k3
      clear a0 a1 a2 a3
      obtain ⟨a0, a1, a2, a3⟩ := H9.out.all
      obtain ⟨r0, r1, r2, r3, b0, b1, b2, b3⟩ := H9.out.rs
      have f0 := (H9.out.fr 0).2
      have f1 := (H9.out.fr 1).2
      have f2 := (H9.out.fr 2).2
      have f3 := (H9.out.fr 3).2
      have HG := Lib.hid (H9.out.give (.string t) (.int .i64 b) (.int .i64 s) (.int .i64 r))
      clear H9
      go_wp2_with (fail)
      exact bodyPost_ret (out_result HG.out.1 rfl _ rfl) rfl ⟨rfl, HG.out.2⟩
  · rw [decide_eq_false hok] at cO
    rw [if_neg (fun h => hok h.1)]
    clear hok hs cE
    go_enter Try.func24, Try.ntmps24
    go_upto_region 1 with (fail)
    generalize (w.alloc _).alloc _ = w0 at *
    have k1 := Lib.hid HX.out.drew
    have e0 := k1.out.all
    clear HX
    refine wp_region_held_drew (S := fun W => W.cell? ⟨w.heap.size, 0, none⟩ = some (.string t) ∧ W.cell? ⟨w.heap.size, 1, none⟩ = some (.int .i64 b) ∧ W.cell? ⟨w.heap.size, 2, none⟩ = some (.int .i64 s) ∧ W.cell? ⟨w.heap.size, 3, none⟩ = some (.int .i64 r)) (by kernel_rfl) e0 (fun hHeld => ?_)
    refine take_yes (i := 0) (oi := { dst := some 5, op := Op.load 33 (Operand.tmp 2), type := 33, pos := "l10_sends.go:48", after := #[], guard := none }) (v := .agg #[.string t, .int .i64 b, .int .i64 s, .int .i64 r]) rfl (by kernel_rfl) (by kernel_rfl) (by kernel_rfl) (fun _ _ _ h => h) (by rfl) (fun w hSw => by (try dsimp only at hSw); go_simp) (by assumption) ?_
    try simp only [Act.put, List.setIfInBounds_toArray, List.set_cons_zero, List.set_cons_succ]
    refine wpAnyH_ready (rs := [1]) (by kernel_rfl) (by simp) ?_
    refine AllReadyH.cons (o := { dst := some 6, op := Op.call { callee := Callee.value (Operand.func 25), args := #[Operand.tmp 5], argTypes := #[33] }, type := 4, pos := "l10_sends.go:48", after := #[{ on := 0, ground := Ground.data }], guard := none }) rfl (fun K hK => ?_) AllReadyH.nil
    go_simp
    with_reducible refine (cO _).mono ?_
    rintro e wA ⟨rfl, hbA⟩
    have k2 := Lib.hid (k1.out.kept hbA)
    have e2 := k2.out.all
    clear hbA cO k1 e0
    refine hK.out _ _ e2 (fun hHeldN => ?_)
    clear hK K hHeld
    have hHeld := hHeldN
    clear hHeldN
    try simp only [Act.put, List.setIfInBounds_toArray, List.set_cons_zero, List.set_cons_succ]
    refine take_yes (i := 2) (oi := { dst := some 7, op := Op.unOp UnOp.not 4 (Operand.tmp 6), type := 4, pos := "l10_sends.go:48", after := #[{ on := 1, ground := Ground.data }], guard := none }) (v := .bool true) rfl (by kernel_rfl) (by kernel_rfl) (by kernel_rfl) (fun _ _ _ h => h) (by rfl) (fun w hSw => by (try dsimp only at hSw); go_simp) (by assumption) ?_
    try simp only [Act.put, List.setIfInBounds_toArray, List.set_cons_zero, List.set_cons_succ]
    refine take_yes (i := 3) (oi := { dst := some 8, op := Op.move (Operand.tmp 7), type := 4, pos := "l10_sends.go:48", after := #[{ on := 2, ground := Ground.data }, { on := 1, ground := Ground.chain }], guard := none }) (v := .bool true) rfl (by kernel_rfl) (by kernel_rfl) (by kernel_rfl) (fun _ _ _ h => h) (by rfl) (fun w hSw => by (try dsimp only at hSw); go_simp) (by assumption) ?_
    try simp only [Act.put, List.setIfInBounds_toArray, List.set_cons_zero, List.set_cons_succ]
    refine take_no (i := 4) (oi := { dst := some 9, op := Op.move (Operand.tmp 1), type := 3, pos := "l10_sends.go:48", after := #[{ on := 3, ground := Ground.guard }], guard := some (3, false) }) rfl (by kernel_rfl) (by kernel_rfl) (by kernel_rfl) (fun _ _ _ h => h) (by rfl) (by assumption) ?_
    try simp only [Act.put, List.setIfInBounds_toArray, List.set_cons_zero, List.set_cons_succ]
    refine take_no (i := 5) (oi := { dst := some 10, op := Op.fieldAddr 33 (Operand.tmp 2) 1, type := 0, pos := "l10_sends.go:48", after := #[{ on := 3, ground := Ground.guard }], guard := some (3, false) }) rfl (by kernel_rfl) (by kernel_rfl) (by kernel_rfl) (fun _ _ _ h => h) (by rfl) (by assumption) ?_
    try simp only [Act.put, List.setIfInBounds_toArray, List.set_cons_zero, List.set_cons_succ]
    refine take_no (i := 6) (oi := { dst := some 11, op := Op.load 3 (Operand.tmp 10), type := 3, pos := "l10_sends.go:48", after := #[{ on := 5, ground := Ground.data }, { on := 3, ground := Ground.guard }], guard := some (3, false) }) rfl (by kernel_rfl) (by kernel_rfl) (by kernel_rfl) (fun _ _ _ h => h) (by rfl) (by assumption) ?_
    try simp only [Act.put, List.setIfInBounds_toArray, List.set_cons_zero, List.set_cons_succ]
    refine take_no (i := 7) (oi := { dst := some 12, op := Op.binOp BinOp.add 3 (Operand.tmp 11) (Operand.const (Value.int IntKind.i64 1)) 3, type := 3, pos := "l10_sends.go:48", after := #[{ on := 6, ground := Ground.data }, { on := 3, ground := Ground.guard }], guard := some (3, false) }) rfl (by kernel_rfl) (by kernel_rfl) (by kernel_rfl) (fun _ _ _ h => h) (by rfl) (by assumption) ?_
    try simp only [Act.put, List.setIfInBounds_toArray, List.set_cons_zero, List.set_cons_succ]
    refine take_no (i := 8) (oi := { dst := some 13, op := Op.load 33 (Operand.tmp 2), type := 33, pos := "l10_sends.go:48", after := #[{ on := 3, ground := Ground.guard }], guard := some (3, false) }) rfl (by kernel_rfl) (by kernel_rfl) (by kernel_rfl) (fun _ _ _ h => h) (by rfl) (by assumption) ?_
    try simp only [Act.put, List.setIfInBounds_toArray, List.set_cons_zero, List.set_cons_succ]
    refine take_no (i := 9) (oi := { dst := some 14, op := Op.call { callee := Callee.value (Operand.func 54), args := #[Operand.tmp 13], argTypes := #[33] }, type := 3, pos := "l10_sends.go:48", after := #[{ on := 8, ground := Ground.data }, { on := 3, ground := Ground.chain }, { on := 3, ground := Ground.guard }], guard := some (3, false) }) rfl (by kernel_rfl) (by kernel_rfl) (by kernel_rfl) (fun _ _ _ h => h) (by rfl) (by assumption) ?_
    try simp only [Act.put, List.setIfInBounds_toArray, List.set_cons_zero, List.set_cons_succ]
    refine take_no (i := 10) (oi := { dst := some 15, op := Op.call { callee := Callee.value (Operand.func 40), args := #[Operand.tmp 9, Operand.tmp 12, Operand.tmp 14], argTypes := #[3, 3, 3] }, type := 4, pos := "l10_sends.go:48", after := #[{ on := 4, ground := Ground.data }, { on := 7, ground := Ground.data }, { on := 9, ground := Ground.data }, { on := 9, ground := Ground.chain }, { on := 3, ground := Ground.guard }], guard := some (3, false) }) rfl (by kernel_rfl) (by kernel_rfl) (by kernel_rfl) (fun _ _ _ h => h) (by rfl) (by assumption) ?_
    try simp only [Act.put, List.setIfInBounds_toArray, List.set_cons_zero, List.set_cons_succ]
    refine take_no (i := 11) (oi := { dst := some 16, op := Op.unOp UnOp.not 4 (Operand.tmp 15), type := 4, pos := "l10_sends.go:48", after := #[{ on := 10, ground := Ground.data }, { on := 3, ground := Ground.guard }], guard := some (3, false) }) rfl (by kernel_rfl) (by kernel_rfl) (by kernel_rfl) (fun _ _ _ h => h) (by rfl) (by assumption) ?_
    try simp only [Act.put, List.setIfInBounds_toArray, List.set_cons_zero, List.set_cons_succ]
    refine take_yes (i := 12) (oi := { dst := some 17, op := Op.pick (Operand.tmp 8) (Operand.const (Value.bool true)) (Operand.tmp 16), type := 4, pos := "l10_sends.go:48", after := #[{ on := 3, ground := Ground.data }, { on := 11, ground := Ground.data }], guard := none }) (v := .bool true) rfl (by kernel_rfl) (by kernel_rfl) (by kernel_rfl) (fun _ _ _ h => h) (by rfl) (fun w hSw => by (try dsimp only at hSw); go_simp) (by assumption) ?_
    try simp only [Act.put, List.setIfInBounds_toArray, List.set_cons_zero, List.set_cons_succ]
    refine wpAnyH_done (by kernel_rfl) ?_ _
    clear hHeld
    clear e2
    obtain ⟨a0, a1, a2, a3⟩ := k2.out.all
    go_wp2_with (fail)
    with_reducible refine (cC _).mono ?_
    rintro e w9 ⟨rfl, hb_w9⟩
    have H9 := Lib.hid (k2.out.kept hb_w9)
    clear hb_w9 k2
    clear a0 a1 a2 a3
    obtain ⟨a0, a1, a2, a3⟩ := H9.out.all
    obtain ⟨r0, r1, r2, r3, b0, b1, b2, b3⟩ := H9.out.rs
    have f0 := (H9.out.fr 0).2
    have f1 := (H9.out.fr 1).2
    have f2 := (H9.out.fr 2).2
    have f3 := (H9.out.fr 3).2
    have HG := Lib.hid (H9.out.give (.string t) (.int .i64 b) (.int .i64 s) (.int .i64 r))
    clear H9
    go_wp2_with (fail)
    exact bodyPost_ret (out_result HG.out.1 rfl _ rfl) rfl ⟨rfl, HG.out.2⟩
end Go.Proofs.Ytdajfnonehianaa
