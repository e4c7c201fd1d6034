import Derived.Test.YtdajfnonehianaaQoi
import Derived.Test.YtdajfnonehianaaQom
namespace Go.Proofs.Ytdajfnonehianaa
open Go.RowKit

theorem Bx.far {w W : World} {x y z u : Value} (h : Bx w W x y z u) {g : Nat} (hg : w.heap.size + 1 < g) (i : Nat) (v : Value) : Bx w (W.setCell ⟨g, i, none⟩ v) x y z u := by
  obtain ⟨r0, r1, r2, r3, hz⟩ := h.res
  exact ⟨h.box.other _ _ (by simp; omega), ⟨r0, r1, r2, r3, hz.other _ _ (by simp; omega)⟩, h.below.setCell (p := ⟨g, i, none⟩) (by simp; omega) v⟩

set_option maxRecDepth 100000 in
set_option maxHeartbeats 4000000 in
theorem impl_accept (o : Ot) (x : ByteArray) (w : World) (hs : o.text.size ≤ 100000000000) (hx : x.size ≤ 100000000000) :
    Calls Try.prog 19 #[.agg #[.string o.text, .int .i64 o.base, .int .i64 o.sent, .int .i64 o.room], .string x] w fun e w' => e = .returned (.tuple #[.agg #[.string (acc o x).1.text, .int .i64 (acc o x).1.base, .int .i64 (acc o x).1.sent, .int .i64 (acc o x).1.room], .int .i64 (acc o x).2]) ∧ Below w.heap.size w w' := by
  obtain ⟨t, b, s, r⟩ := o
  simp only at hs
  have HX := Lib.hid (Bx.new w (.string t) (.int .i64 b) (.int .i64 s) (.int .i64 r))
  have cO := fun W => impl_outOk ⟨t, b, s, r⟩ W (by simp only; omega)
  have cC := fun W => copy_out ⟨t, b, s, r⟩ W (by simp only; omega)
  have cE := fun W => out_end ⟨t, b, s, r⟩ W
  simp only at cO cC cE
  unfold acc accN
  by_cases hok : Ot.Ok (Ot.mk t b s r)
  · rw [decide_eq_true hok] at cO
    have hok' := hok
    unfold Ot.Ok at hok'
    simp only at hok' ⊢
    have e1 : IntKind.i64.wrap (r - (t.size : Int)) = r - (t.size : Int) := IntWalk.i64_in _ (by omega)
    have e2 : IntKind.i64.wrap (b + (t.size : Int)) = b + (t.size : Int) := IntWalk.i64_in _ (by omega)
    rw [e2] at cE
    obtain ⟨n, hn⟩ : ∃ n, min (x.size : Int) (r - (t.size : Int)) = n := ⟨_, rfl⟩
    have hn0 : 0 ≤ n ∧ n ≤ (x.size : Int) ∧ n ≤ 200 := by omega
    have hnr : n ≤ r - (t.size : Int) := by omega
    have hsl := cut_to x n hn0.1 hn0.2.1
    have hsz : ((x.extract 0 n.toNat).size : Int) = n := by simp only [ByteArray.size_extract]; omega
    rw [hn]
    obtain ⟨y, hy⟩ : ∃ y, x.extract 0 n.toNat = y := ⟨_, rfl⟩
    rw [hy] at hsl hsz ⊢
    obtain ⟨en, hen⟩ : ∃ en, b + (t.size : Int) = en := ⟨_, rfl⟩
    rw [hen] at cE ⊢
    have e3 : IntKind.i64.wrap (en + n) = en + n := IntWalk.i64_in _ (by omega)
    by_cases hm : en + n ≤ 1000000000
    · rw [if_pos ⟨hok, hm⟩]
      have q1 : ¬ (1000000000 : Int) < en + n := by omega
      have hcat : t.size + y.size ≤ 9223372036854775807 := by omega
      have cF := fun W => copy_out ⟨t ++ y, b, s, r⟩ W (by simp only [ByteArray.size_append]; omega)
      simp only at cF
      clear hok hok' hm hs hx hy hsz hen cC hnr e2
      go_enter Try.func19, Try.ntmps19
      go_upto_region 1 with (fail)
      generalize (w.alloc _).alloc _ = w0 at *
      obtain ⟨a0, a1, a2, a3⟩ := HX.out.all
      go_wp2_with (fail)
      with_reducible refine (cO _).mono ?_
      rintro e w1 ⟨rfl, hb_w1⟩
      have H1 := Lib.hid (HX.out.kept hb_w1)
      clear hb_w1 HX
      clear a0 a1 a2 a3
      obtain ⟨a0, a1, a2, a3⟩ := H1.out.all
      go_wp2_with (fail)
      with_reducible refine (cE _).mono ?_
      rintro e w2 ⟨rfl, hb_w2⟩
      have H2 := Lib.hid (H1.out.kept hb_w2)
      clear hb_w2 H1
      clear a0 a1 a2 a3
      obtain ⟨a0, a1, a2, a3⟩ := H2.out.all
      go_upto_region 5 with (fail)
      have hb7 := below_new w2 (.cells #[.string t, .int .i64 b, .int .i64 s, .int .i64 r] 33)
      have hN7 : Cel (w2.alloc (.cells #[.string t, .int .i64 b, .int .i64 s, .int .i64 r] 33)) w2.heap.size 33 #[.string t, .int .i64 b, .int .i64 s, .int .i64 r] := Cel.new w2 _ _
      have hz7 : w.heap.size + 1 < w2.heap.size := by obtain ⟨_, _, _, _, hz⟩ := H2.out.res; exact hz.lt
      have K7 := Lib.hid (And.intro (H2.out.kept hb7) (And.intro hN7 hz7))
      clear a0 a1 a2 a3 H2 hb7 hN7 hz7
      obtain ⟨g7, hg7⟩ : ∃ g7, w2.heap.size = g7 := ⟨_, rfl⟩
      rw [hg7] at K7 ⊢
      generalize w2.alloc (.cells #[.string t, .int .i64 b, .int .i64 s, .int .i64 r] 33) = w7 at *
      clear hg7
      obtain ⟨a0, a1, a2, a3⟩ := cel4 K7.out.2.1.drew
      have e0 : w7.drew.cell? ⟨g7, 1, none⟩ = some (.int .i64 b) ∧ w7.drew.cell? ⟨g7, 2, none⟩ = some (.int .i64 s) ∧ w7.drew.cell? ⟨g7, 3, none⟩ = some (.int .i64 r) := ⟨a1, a2, a3⟩
      refine wp_region_held_drew (S := fun W => W.cell? ⟨g7, 1, none⟩ = some (.int .i64 b) ∧ W.cell? ⟨g7, 2, none⟩ = some (.int .i64 s) ∧ W.cell? ⟨g7, 3, none⟩ = some (.int .i64 r)) (by kernel_rfl) e0 (fun hHeld => ?_)
      refine take_yes (i := 0) (oi := { dst := some 30, op := Op.fieldAddr 33 (Operand.tmp 7) 0, type := 0, pos := "l10_sends.go:27", after := #[], guard := none }) (v := .pointer (some ⟨g7, 0, none⟩)) rfl (by kernel_rfl) (by kernel_rfl) (by kernel_rfl) (fun _ _ _ h => h) (by rfl) (fun w hSw => by (try dsimp only at hSw); go_simp) (by assumption) ?_
      try simp only [Act.put, List.setIfInBounds_toArray, List.set_cons_zero, List.set_cons_succ]
      refine take_yes (i := 2) (oi := { dst := some 32, op := Op.move (Operand.tmp 1), type := 9, pos := "l10_sends.go:27", after := #[], guard := none }) (v := .string x) rfl (by kernel_rfl) (by kernel_rfl) (by kernel_rfl) (fun _ _ _ h => h) (by rfl) (fun w hSw => by (try dsimp only at hSw); go_simp) (by assumption) ?_
      try simp only [Act.put, List.setIfInBounds_toArray, List.set_cons_zero, List.set_cons_succ]
      refine take_yes (i := 3) (oi := { dst := some 33, op := Op.move (Operand.tmp 6), type := 3, pos := "l10_sends.go:27", after := #[], guard := none }) (v := .int .i64 n) rfl (by kernel_rfl) (by kernel_rfl) (by kernel_rfl) (fun _ _ _ h => h) (by rfl) (fun w hSw => by (try dsimp only at hSw); go_simp) (by assumption) ?_
      try simp only [Act.put, List.setIfInBounds_toArray, List.set_cons_zero, List.set_cons_succ]
      refine take_yes (i := 4) (oi := { dst := some 34, op := Op.slice 9 (Operand.tmp 32) none (some (Operand.tmp 33)) none, type := 9, pos := "l10_sends.go:27", after := #[{ on := 2, ground := Ground.data }, { on := 3, ground := Ground.data }], guard := none }) (v := .string y) rfl (by kernel_rfl) (by kernel_rfl) (by kernel_rfl) (fun _ _ _ h => h) (by rfl) (fun w hSw => by (try dsimp only at hSw); go_simp) (by assumption) ?_
      try simp only [Act.put, List.setIfInBounds_toArray, List.set_cons_zero, List.set_cons_succ]
      refine wpAnyH_ready (rs := [1]) (by kernel_rfl) (by simp) ?_
      refine AllReadyH.cons (o := { dst := some 31, op := Op.load 9 (Operand.tmp 30), type := 9, pos := "l10_sends.go:27", after := #[{ on := 0, ground := Ground.data }], guard := none }) rfl (fun K hK => ?_) AllReadyH.nil
      go_simp
      refine hK.out _ _ hHeld (fun hHeldN => ?_)
      clear hK K hHeld
      have hHeld := hHeldN
      clear hHeldN
      try simp only [Act.put, List.setIfInBounds_toArray, List.set_cons_zero, List.set_cons_succ]
      refine take_yes (i := 5) (oi := { dst := some 35, op := Op.binOp BinOp.add 9 (Operand.tmp 31) (Operand.tmp 34) 9, type := 9, pos := "l10_sends.go:27", after := #[{ on := 1, ground := Ground.data }, { on := 4, ground := Ground.data }], guard := none }) (v := .string (t ++ y)) rfl (by kernel_rfl) (by kernel_rfl) (by kernel_rfl) (fun _ _ _ h => h) (by rfl) (fun w hSw => by (try dsimp only at hSw); go_simp) (by assumption) ?_
      try simp only [Act.put, List.setIfInBounds_toArray, List.set_cons_zero, List.set_cons_succ]
      refine take_yes (i := 6) (oi := { dst := some 36, op := Op.fieldAddr 33 (Operand.tmp 7) 0, type := 0, pos := "l10_sends.go:27", after := #[{ on := 0, ground := Ground.phase }, { on := 1, ground := Ground.phase }, { on := 2, ground := Ground.phase }, { on := 3, ground := Ground.phase }, { on := 4, ground := Ground.phase }, { on := 5, ground := Ground.phase }], guard := none }) (v := .pointer (some ⟨g7, 0, none⟩)) rfl (by kernel_rfl) (by kernel_rfl) (by kernel_rfl) (fun _ _ _ h => h) (by rfl) (fun w hSw => by (try dsimp only at hSw); go_simp) (by assumption) ?_
      try simp only [Act.put, List.setIfInBounds_toArray, List.set_cons_zero, List.set_cons_succ]
      refine wpAnyH_ready (rs := [7]) (by kernel_rfl) (by simp) ?_
      refine AllReadyH.cons (o := { dst := none, op := Op.store 9 (Operand.tmp 36) (Operand.tmp 35), type := 0, pos := "l10_sends.go:27", after := #[{ on := 6, ground := Ground.data }, { on := 5, ground := Ground.data }, { on := 0, ground := Ground.phase }, { on := 1, ground := Ground.phase }, { on := 2, ground := Ground.phase }, { on := 3, ground := Ground.phase }, { on := 4, ground := Ground.phase }, { on := 5, ground := Ground.phase }], guard := none }) rfl (fun K hK => ?_) AllReadyH.nil
      have f0 := K7.out.2.1.drew.frozen 0
      go_simp
      have h8 := K7.out.2.1.set 0 (.string (t ++ y))
      simp only [List.setIfInBounds_toArray, List.set_cons_zero] at h8
      have k8 := K7.out.1.far (g := g7) K7.out.2.2 0 (.string (t ++ y))
      have e8 := cel4 h8.drew
      have K8 := Lib.hid (And.intro k8.drew h8.drew)
      clear h8 k8
      refine hK.out _ _ e8.2 (fun hHeldN => ?_)
      clear hK K hHeld
      have hHeld := hHeldN
      clear hHeldN
      try simp only [Act.put, List.setIfInBounds_toArray, List.set_cons_zero, List.set_cons_succ]
      refine wpAnyH_done (by kernel_rfl) ?_ _
      clear hHeld
      clear a0 a1 a2 a3 f0 e0 e8 K7
      generalize w7.setCell ⟨g7, 0, none⟩ (.string (t ++ y)) = w8 at *
      obtain ⟨a0, a1, a2, a3⟩ := cel4 K8.out.2
      go_wp2_with (fail)
      with_reducible refine (cF _).mono ?_
      rintro e w9 ⟨rfl, hb9⟩
      have H9 := Lib.hid (K8.out.1.kept hb9)
      clear hb9 K8 a0 a1 a2 a3
      obtain ⟨a0, a1, a2, a3⟩ := H9.out.all
      obtain ⟨r0, r1, r2, r3, b0, b1, b2, b3⟩ := H9.out.rs
      have f0 := (H9.out.fr 0).2
      have f1 := (H9.out.fr 1).2
      have f2 := (H9.out.fr 2).2
      have f3 := (H9.out.fr 3).2
      have HG := Lib.hid (H9.out.give (.string (t ++ y)) (.int .i64 b) (.int .i64 s) (.int .i64 r))
      clear H9
      go_wp2_with (fail)
      exact bodyPost_ret (out_result2 HG.out.1 rfl _ rfl) rfl ⟨rfl, HG.out.2⟩
    · rw [if_neg (fun h => hm h.2)]
      have q1 : (1000000000 : Int) < en + n := by omega
      clear hok hok' hm hs hx hy hsz hen hsl hnr e2
      go_enter Try.func19, Try.ntmps19
      go_upto_region 1 with (fail)
      generalize (w.alloc _).alloc _ = w0 at *
      obtain ⟨a0, a1, a2, a3⟩ := HX.out.all
      go_wp2_with (fail)
      with_reducible refine (cO _).mono ?_
      rintro e w1 ⟨rfl, hb_w1⟩
      have H1 := Lib.hid (HX.out.kept hb_w1)
      clear hb_w1 HX
      clear a0 a1 a2 a3
      obtain ⟨a0, a1, a2, a3⟩ := H1.out.all
      go_wp2_with (fail)
      with_reducible refine (cE _).mono ?_
      rintro e w2 ⟨rfl, hb_w2⟩
      have H2 := Lib.hid (H1.out.kept hb_w2)
      clear hb_w2 H1
      clear a0 a1 a2 a3
      obtain ⟨a0, a1, a2, a3⟩ := H2.out.all
      go_wp2_with (fail)
      with_reducible refine (cC _).mono ?_
      rintro e w3 ⟨rfl, hb_w3⟩
      have H3 := Lib.hid (H2.out.kept hb_w3)
      clear hb_w3 H2
      clear a0 a1 a2 a3
      obtain ⟨a0, a1, a2, a3⟩ := H3.out.all
      obtain ⟨r0, r1, r2, r3, b0, b1, b2, b3⟩ := H3.out.rs
      have f0 := (H3.out.fr 0).2
      have f1 := (H3.out.fr 1).2
      have f2 := (H3.out.fr 2).2
      have f3 := (H3.out.fr 3).2
      have HG := Lib.hid (H3.out.give (.string t) (.int .i64 b) (.int .i64 s) (.int .i64 r))
      clear H3
      go_wp2_with (fail)
      exact bodyPost_ret (out_result2 HG.out.1 rfl _ rfl) rfl ⟨rfl, HG.out.2⟩
  · rw [decide_eq_false hok] at cO
    rw [if_neg (fun h => hok h.1)]
    simp only
    generalize hz : IntKind.i64.wrap (r - (t.size : Int)) = z
    clear hok hs hx cE
    go_enter Try.func19, Try.ntmps19
    go_upto_region 1 with (fail)
    generalize (w.alloc _).alloc _ = w0 at *
    obtain ⟨a0, a1, a2, a3⟩ := HX.out.all
    go_wp2_with (fail)
    with_reducible refine (cO _).mono ?_
    rintro e w1 ⟨rfl, hb_w1⟩
    have H1 := Lib.hid (HX.out.kept hb_w1)
    clear hb_w1 HX
    clear a0 a1 a2 a3
    obtain ⟨a0, a1, a2, a3⟩ := H1.out.all
    go_wp2_with (fail)
    with_reducible refine (cC _).mono ?_
    rintro e w3 ⟨rfl, hb_w3⟩
    have H3 := Lib.hid (H1.out.kept hb_w3)
    clear hb_w3 H1
    clear a0 a1 a2 a3
    obtain ⟨a0, a1, a2, a3⟩ := H3.out.all
    obtain ⟨r0, r1, r2, r3, b0, b1, b2, b3⟩ := H3.out.rs
    have f0 := (H3.out.fr 0).2
    have f1 := (H3.out.fr 1).2
    have f2 := (H3.out.fr 2).2
    have f3 := (H3.out.fr 3).2
    have HG := Lib.hid (H3.out.give (.string t) (.int .i64 b) (.int .i64 s) (.int .i64 r))
    clear H3
    go_wp2_with (fail)
    exact bodyPost_ret (out_result2 HG.out.1 rfl _ rfl) rfl ⟨rfl, HG.out.2⟩
end Go.Proofs.Ytdajfnonehianaa
