import Derived.Test.YtdajfnonehianaaPxc
namespace Go.Proofs.Ytdajfnonehianaa
open Go.RowKit

set_option linter.unusedSimpArgs false in
set_option maxRecDepth 100000 in
set_option maxHeartbeats 16000000 in
theorem any_x (s : St) (hs : StOk s) (w : World) (g : Nat) (v : Value) (hd : DrX w g v s) :
    Calls Try.prog 36 #[.pointer (some ⟨g, 0, none⟩)] w fun e w' => ∃ u, e = .returned (.agg #[.int .i64 (anyP s).1.read, .string (anyP s).1.ready, u]) ∧ LieE pcK w' (w.heap.size + 1) w'.heap.size u (anyP s).1.list ∧ DrX w' g v (anyP s).2 ∧ Grew g w w' := by
  have hg := hd.blk
  have hb0 := below_new w (.cells #[.int .i64 0, .string ⟨#[]⟩, .slice none 0 0] 26)
  have hC0 := Cel.new w 26 #[.int .i64 0, .string ⟨#[]⟩, .slice none 0 0]
  have cP := fun W h => pieces_x s hs W g v h
  obtain ⟨hsm, ok1, -⟩ := pieces_ok s hs
  have H0 := Lib.hid (And.intro (hd.below hb0 hg) (And.intro (Grew.of_below (g := g) hb0 (Nat.le_refl _)) (And.intro hC0 (World.size_alloc w (.cells #[.int .i64 0, .string ⟨#[]⟩, .slice none 0 0] 26)))))
  clear hb0 hC0 hd
  obtain ⟨A, hA⟩ : ∃ A, anyP s = A := ⟨_, rfl⟩
  rw [hA]
  unfold anyP at hA
  generalize piecesS s = R at *
  obtain ⟨⟨r, t, ms⟩, s1⟩ := R
  simp only at cP hsm ok1 hA
  have HA := Lib.hid hA
  clear hA
  unfold SmallP at hsm
  simp only at hsm
  go_enter Try.func36, Try.ntmps36
  go_upto_region 1 with (fail)
  generalize w.alloc (.cells #[.int .i64 0, .string ⟨#[]⟩, .slice none 0 0] 26) = w0 at *
  go_wp2_with (fail)
  with_reducible refine (cP _ H0.out.1).mono ?_
  rintro e w1 ⟨u, rfl, hl1, d1, o1⟩
  have hb2 := below_new w1 (.cells #[.int .i64 r, .string t, u] 26)
  have hC1 := H0.out.2.2.1.grew o1 (by omega)
  have hzw := H0.out.2.2.2
  have hN := LieN.of_lie (lo := w.heap.size) (b := w1.heap.size) hl1 (by omega) (fun k _ hk => by omega)
  obtain ⟨ua, uc, rfl⟩ := hN.form
  have Q2 : Qp w (w1.alloc (.cells #[.int .i64 r, .string t, .slice ua ms.length uc] 26)) g v s1 w1.heap.size r t (.slice ua ms.length uc) ms :=
    ⟨d1.below hb2 d1.blk, (H0.out.2.1.trans o1).trans (Grew.of_below (g := g) hb2 (Nat.le_refl _)), Cel.new _ _ _, hN.stay hb2.size (fun k _ hk _ => hb2.block k hk), ⟨_, _, _, hC1.kept hb2⟩, hC1.lt, hg⟩
  have H1 := Lib.hid Q2
  clear H0 d1 o1 hb2 hC1 Q2 cP hl1 hN hzw hs
  go_upto_region 2 with (fail)
  obtain ⟨b, hb⟩ : ∃ b, w1.heap.size = b := ⟨_, rfl⟩
  rw [hb] at H1 ⊢
  generalize w1.alloc (.cells #[.int .i64 r, .string t, .slice ua ms.length uc] 26) = w1' at *
  clear hb
  have c16 := fun W h => bel_x s1 ok1 16 (by omega) (by omega) 16 rfl W g v h
  have ok2 := byte_ok ok1
  generalize byteR s1 % 16 = q at *
  generalize byteS s1 = s2 at *
  go_wp2_with (fail)
  with_reducible refine (c16 _ H1.out.d).mono ?_
  rintro e w2 ⟨rfl, d2, o2⟩
  have H2 := Lib.hid (H1.out.only o2 d2)
  clear H1 d2 o2 c16 ok1
  by_cases h0 : q = 0
  · have t0 : ((q : Int) == 0) = true := by simp [h0]
    have hA := (if_pos h0).symm.trans HA.out
    clear HA
    have HA := Lib.hid hA
    clear h0 hsm hA
    go_upto_region 4 with (fail)
    have hb3 := below_new w2 (.cells #[.int .i64 (-1), .int .i64 1000000001, .int .i64 1000000000] 3)
    have hz : g < w2.heap.size := H2.out.d.blk
    have H3 := Lib.hid (H2.out.kept hb3)
    have cp := fun h => pick_x s2 ok2 [-1, 1000000001, 1000000000] 3 rfl (by omega) (by omega) _ g v h w2.heap.size 3 _ rfl (Cel.new w2 3 #[.int .i64 (-1), .int .i64 1000000001, .int .i64 1000000000]) (by omega)
    clear H2 hb3 hz
    generalize hzg : ([-1, 1000000001, 1000000000] : List Int).getD (byteR s2 % 3) 0 = z at *
    clear hzg
    go_wp2_with (fail)
    with_reducible refine (cp H3.out.d).mono ?_
    rintro e w4 ⟨rfl, d4, o4⟩
    have H4 := Lib.hid (H3.out.only o4 d4)
    clear H3 d4 o4 cp
    obtain ⟨a0, a1, a2⟩ := H4.out.all
    have f0 := (H4.out.fr 0).1
    have H5 := Lib.hid (H4.out.set0 z)
    clear H4
    go_upto_region 14 with (fail)
    clear a0 a1 a2 f0
    generalize w4.setCell ⟨b, 0, none⟩ (.int .i64 z) = w5 at *
    obtain ⟨a0, a1, a2⟩ := H5.out.all
    obtain ⟨r0, r1', r2, b0, b1, b2⟩ := H5.out.rs
    have f0 := (H5.out.fr 0).2
    have f1 := (H5.out.fr 1).2
    have f2 := (H5.out.fr 2).2
    have HG := Lib.hid H5.out.give
    clear H5
    have hA := HA.out
    subst hA
    go_wp2_with (fail)
    exact bodyPost_ret (ps_result HG.out.1 rfl _ rfl) rfl ⟨_, rfl, HG.out.2.1, HG.out.2.2.1, HG.out.2.2.2⟩
  · have t0 : ((q : Int) == 0) = false := by simp; omega
    have hA := (if_neg h0).symm.trans HA.out
    clear HA
    have HA := Lib.hid hA
    clear hA
    by_cases h1 : q = 1
    · have t1 : ((q : Int) == 1) = true := by simp [h1]
      have hA := (if_pos h1).symm.trans HA.out
      clear HA
      have HA := Lib.hid hA
      clear h0 h1 hA
      have c60 := fun W h => bel_x s2 ok2 60 (by omega) (by omega) 60 rfl W g v h
      have ok3 := byte_ok ok2
      have cT := fun W h => pickT_x (byteS s2) ok3 W g v h
      generalize pickT (byteS s2) = y at *
      generalize byteS (byteS s2) = s4 at *
      generalize byteS s2 = s3 at *
      generalize byteR s2 % 60 = z at *
      clear ok2 ok3
      go_upto_region 6 with (fail)
      have H2 := Lib.hid H2.out.drew
      refine wp_region_held_drew (S := fun W => True) (by kernel_rfl) trivial (fun hHeld => ?_)
      generalize w2.drew = wd at *
      refine take_yes (i := 0) (oi := { dst := some 17, op := Op.fieldAddr 26 (Operand.tmp 3) 2, type := 0, pos := "l09_pieces.go:130", after := #[], guard := none }) (v := .pointer (some ⟨b, 2, none⟩)) rfl (by kernel_rfl) (by kernel_rfl) (by kernel_rfl) (fun _ _ _ h => h) (by rfl) (fun w hSw => by (try dsimp only at hSw); go_simp) (by assumption) ?_
      try simp only [Act.put, List.setIfInBounds_toArray, List.set_cons_zero, List.set_cons_succ]
      refine take_yes (i := 2) (oi := { dst := some 19, op := Op.move (Operand.tmp 0), type := 53, pos := "l09_pieces.go:130", after := #[], guard := none }) (v := .pointer (some ⟨g, 0, none⟩)) rfl (by kernel_rfl) (by kernel_rfl) (by kernel_rfl) (fun _ _ _ h => h) (by rfl) (fun w hSw => by (try dsimp only at hSw); go_simp) (by assumption) ?_
      try simp only [Act.put, List.setIfInBounds_toArray, List.set_cons_zero, List.set_cons_succ]
      refine take_yes (i := 4) (oi := { dst := some 21, op := Op.move (Operand.tmp 0), type := 53, pos := "l09_pieces.go:130", after := #[], guard := none }) (v := .pointer (some ⟨g, 0, none⟩)) rfl (by kernel_rfl) (by kernel_rfl) (by kernel_rfl) (fun _ _ _ h => h) (by rfl) (fun w hSw => by (try dsimp only at hSw); go_simp) (by assumption) ?_
      try simp only [Act.put, List.setIfInBounds_toArray, List.set_cons_zero, List.set_cons_succ]
      refine wpAnyH_ready (rs := [1, 3, 5]) (by kernel_rfl) (by simp) ?_
      refine AllReadyH.cons (o := { dst := some 18, op := Op.load 24 (Operand.tmp 17), type := 24, pos := "l09_pieces.go:130", after := #[{ on := 0, ground := Ground.data }], guard := none }) rfl (fun K hK => ?_) ?_
      · obtain ⟨a0, a1, a2⟩ := H2.out.all
        go_simp
        clear a0 a1 a2
        refine hK.out _ _ trivial (fun hHeldN => ?_)
        clear hK K hHeld
        have hHeld := hHeldN
        clear hHeldN
        try simp only [Act.put, List.setIfInBounds_toArray, List.set_cons_zero, List.set_cons_succ]
        refine wpAnyH_ready (rs := [3, 5]) (by kernel_rfl) (by simp) ?_
        refine AllReadyH.cons (o := { dst := some 20, op := Op.call { callee := Callee.value (Operand.func 38), args := #[Operand.tmp 19, Operand.const (Value.int IntKind.i64 60)], argTypes := #[53, 3] }, type := 3, pos := "l09_pieces.go:130", after := #[{ on := 2, ground := Ground.data }], guard := none }) rfl (fun K hK => ?_) ?_
        · go_simp
          with_reducible refine (c60 _ H2.out.d).mono ?_
          rintro e wA1 ⟨rfl, dA, oA⟩
          have HX1 := Lib.hid (H2.out.only oA dA)
          clear dA oA c60 H2
          refine hK.out _ _ trivial (fun hHeldN => ?_)
          clear hK K hHeld
          have hHeld := hHeldN
          clear hHeldN
          try simp only [Act.put, List.setIfInBounds_toArray, List.set_cons_zero, List.set_cons_succ]
          refine wpAnyH_ready (rs := [5]) (by kernel_rfl) (by simp) ?_
          refine AllReadyH.cons (o := { dst := some 22, op := Op.buildSlice 74 2 #[(0, Operand.const (Value.string { data := #[] })), (1, Operand.const (Value.string { data := #[97] }))], type := 74, pos := "l09_pieces.go:130", after := #[], guard := none }) rfl (fun K hK => ?_) AllReadyH.nil
          go_simp
          have hbS := below_new wA1 (.cells #[.string ⟨#[]⟩, .string ⟨#[97]⟩] 9)
          have hS := Lib.hid (And.intro (Cel.new wA1 9 #[.string ⟨#[]⟩, .string ⟨#[97]⟩]) (show g < wA1.heap.size from HX1.out.d.blk))
          have HX2 := Lib.hid (HX1.out.kept hbS)
          clear hbS HX1
          generalize wA1.heap.size = gS at *
          refine hK.out _ _ trivial (fun hHeldN => ?_)
          clear hK K hHeld
          have hHeld := hHeldN
          clear hHeldN
          try simp only [Act.put, List.setIfInBounds_toArray, List.set_cons_zero, List.set_cons_succ]
          refine wpAnyH_ready (rs := [6]) (by kernel_rfl) (by simp) ?_
          refine AllReadyH.cons (o := { dst := some 23, op := Op.call { callee := Callee.value (Operand.func 60), args := #[Operand.tmp 21, Operand.tmp 22], argTypes := #[53, 74] }, type := 9, pos := "l09_pieces.go:130", after := #[{ on := 4, ground := Ground.data }, { on := 5, ground := Ground.data }, { on := 3, ground := Ground.chain }], guard := none }) rfl (fun K hK => ?_) AllReadyH.nil
          go_simp
          with_reducible refine (cT _ HX2.out.d gS 2 hS.out.1 (by have := hS.out.2; omega)).mono ?_
          rintro e wA3 ⟨rfl, dA, oA⟩
          have HX3 := Lib.hid (HX2.out.only oA dA)
          clear dA oA cT HX2 hS
          refine hK.out _ _ trivial (fun hHeldN => ?_)
          clear hK K hHeld
          have hHeld := hHeldN
          clear hHeldN
          try simp only [Act.put, List.setIfInBounds_toArray, List.set_cons_zero, List.set_cons_succ]
          refine take_yes (i := 7) (oi := { dst := some 24, op := Op.build 41 #[(0, Operand.tmp 20), (1, Operand.tmp 23)], type := 41, pos := "l09_pieces.go:130", after := #[{ on := 3, ground := Ground.data }, { on := 6, ground := Ground.data }], guard := none }) (v := .agg #[.int .i64 (z : Int), .string y]) rfl (by kernel_rfl) (by kernel_rfl) (by kernel_rfl) (fun _ _ _ h => h) (by rfl) (fun w hSw => by (try dsimp only at hSw); go_simp) (by assumption) ?_
          try simp only [Act.put, List.setIfInBounds_toArray, List.set_cons_zero, List.set_cons_succ]
          refine wpAnyH_ready (rs := [8]) (by kernel_rfl) (by simp) ?_
          refine AllReadyH.cons (o := { dst := some 25, op := Op.buildSlice 24 1 #[(0, Operand.tmp 24)], type := 24, pos := "l09_pieces.go:130", after := #[{ on := 7, ground := Ground.data }], guard := none }) rfl (fun K hK => ?_) AllReadyH.nil
          go_simp
          have hbS := below_new wA3 (.cells #[.int .i64 (z : Int), .string y] 41)
          have hP := Lib.hid (one_rd wA3 (z : Int) y)
          have HX4 := Lib.hid (HX3.out.kept hbS)
          clear hbS HX3
          generalize wA3.heap.size = gP at *
          generalize wA3.alloc (.cells #[.int .i64 (z : Int), .string y] 41) = wP at *
          refine hK.out _ _ trivial (fun hHeldN => ?_)
          clear hK K hHeld
          have hHeld := hHeldN
          clear hHeldN
          try simp only [Act.put, List.setIfInBounds_toArray, List.set_cons_zero, List.set_cons_succ]
          refine wpAnyH_ready (rs := [9]) (by kernel_rfl) (by simp) ?_
          refine AllReadyH.cons (o := { dst := some 26, op := Op.call { callee := Callee.builtin Builtin.append, args := #[Operand.tmp 18, Operand.tmp 25], argTypes := #[24, 24] }, type := 24, pos := "l09_pieces.go:130", after := #[{ on := 1, ground := Ground.data }, { on := 8, ground := Ground.data }, { on := 6, ground := Ground.chain }], guard := none }) rfl (fun K hK => ?_) AllReadyH.nil
          refine step_append_lieN pcK rfl _ _ 24 rfl uPc (.slice ua ms.length uc) (.slice (some ⟨gP, 0, none⟩) 1 1) ms [⟨(z : Int), y⟩] rfl rfl HX4.out.l (by have h1 := HX4.out.c.lt; have h2 := HX4.out.hb; omega) HX4.out.c.lt hP.out (by simp) (by simp; omega) ?_
          intro u9 w9 hl9 hB9 hb9
          generalize hm9 : ms ++ [(⟨(z : Int), y⟩ : Pc)] = m9 at *
          clear hm9
          have K9 := Lib.hid (HX4.out.app hB9 hb9 hl9)
          obtain ⟨v1, v2, rfl⟩ := hl9.form
          clear HX4 hP hB9 hb9 hl9
          refine hK.out _ _ trivial (fun hHeldN => ?_)
          clear hK K hHeld
          have hHeld := hHeldN
          clear hHeldN
          try simp only [Act.put, List.setIfInBounds_toArray, List.set_cons_zero, List.set_cons_succ]
          refine take_yes (i := 10) (oi := { dst := some 27, op := Op.fieldAddr 26 (Operand.tmp 3) 2, type := 0, pos := "l09_pieces.go:130", after := #[{ on := 0, ground := Ground.phase }, { on := 1, ground := Ground.phase }, { on := 2, ground := Ground.phase }, { on := 3, ground := Ground.phase }, { on := 4, ground := Ground.phase }, { on := 5, ground := Ground.phase }, { on := 6, ground := Ground.phase }, { on := 7, ground := Ground.phase }, { on := 8, ground := Ground.phase }, { on := 9, ground := Ground.phase }], guard := none }) (v := .pointer (some ⟨b, 2, none⟩)) rfl (by kernel_rfl) (by kernel_rfl) (by kernel_rfl) (fun _ _ _ h => h) (by rfl) (fun w hSw => by (try dsimp only at hSw); go_simp) (by assumption) ?_
          try simp only [Act.put, List.setIfInBounds_toArray, List.set_cons_zero, List.set_cons_succ]
          refine wpAnyH_ready (rs := [11]) (by kernel_rfl) (by simp) ?_
          refine AllReadyH.cons (o := { dst := none, op := Op.store 24 (Operand.tmp 27) (Operand.tmp 26), type := 0, pos := "l09_pieces.go:130", after := #[{ on := 10, ground := Ground.data }, { on := 9, ground := Ground.data }, { on := 9, ground := Ground.chain }, { on := 0, ground := Ground.phase }, { on := 1, ground := Ground.phase }, { on := 2, ground := Ground.phase }, { on := 3, ground := Ground.phase }, { on := 4, ground := Ground.phase }, { on := 5, ground := Ground.phase }, { on := 6, ground := Ground.phase }, { on := 7, ground := Ground.phase }, { on := 8, ground := Ground.phase }, { on := 9, ground := Ground.phase }], guard := none }) rfl (fun K hK => ?_) AllReadyH.nil
          obtain ⟨a2, f2⟩ := K9.out.1
          go_simp
          have KF := Lib.hid K9.out.2
          clear K9 a2 f2
          refine hK.out _ _ trivial (fun hHeldN => ?_)
          clear hK K hHeld
          have hHeld := hHeldN
          clear hHeldN
          try simp only [Act.put, List.setIfInBounds_toArray, List.set_cons_zero, List.set_cons_succ]
          refine wpAnyH_done (by kernel_rfl) ?_ _
          clear hHeld
          go_upto_region 14 with (fail)
          generalize World.setCell _ ⟨b, 2, none⟩ _ = w5 at *
          obtain ⟨a0, a1, a2⟩ := KF.out.all
          obtain ⟨r0, r1', r2, b0, b1, b2⟩ := KF.out.rs
          have f0 := (KF.out.fr 0).2
          have f1 := (KF.out.fr 1).2
          have f2 := (KF.out.fr 2).2
          have HG := Lib.hid KF.out.give
          clear KF
          have hA := HA.out
          subst hA
          go_wp2_with (fail)
          exact bodyPost_ret (ps_result HG.out.1 rfl _ rfl) rfl ⟨_, rfl, HG.out.2.1, HG.out.2.2.1, HG.out.2.2.2⟩
        refine AllReadyH.cons (o := { dst := some 22, op := Op.buildSlice 74 2 #[(0, Operand.const (Value.string { data := #[] })), (1, Operand.const (Value.string { data := #[97] }))], type := 74, pos := "l09_pieces.go:130", after := #[], guard := none }) rfl (fun K hK => ?_) AllReadyH.nil
        go_simp
        have hbS := below_new wd (.cells #[.string ⟨#[]⟩, .string ⟨#[97]⟩] 9)
        have hS := Lib.hid (And.intro (Cel.new wd 9 #[.string ⟨#[]⟩, .string ⟨#[97]⟩]) (show g < wd.heap.size from H2.out.d.blk))
        have HX5 := Lib.hid (H2.out.kept hbS)
        clear hbS H2
        generalize wd.heap.size = gS at *
        refine hK.out _ _ trivial (fun hHeldN => ?_)
        clear hK K hHeld
        have hHeld := hHeldN
        clear hHeldN
        try simp only [Act.put, List.setIfInBounds_toArray, List.set_cons_zero, List.set_cons_succ]
        refine wpAnyH_ready (rs := [3]) (by kernel_rfl) (by simp) ?_
        refine AllReadyH.cons (o := { dst := some 20, op := Op.call { callee := Callee.value (Operand.func 38), args := #[Operand.tmp 19, Operand.const (Value.int IntKind.i64 60)], argTypes := #[53, 3] }, type := 3, pos := "l09_pieces.go:130", after := #[{ on := 2, ground := Ground.data }], guard := none }) rfl (fun K hK => ?_) AllReadyH.nil
        go_simp
        with_reducible refine (c60 _ HX5.out.d).mono ?_
        rintro e wA6 ⟨rfl, dA, oA⟩
        have HX6 := Lib.hid (HX5.out.only oA dA)
        have hSA := hS.out.1.only oA (by have := hS.out.2; omega)
        have hSB := hS.out.2
        clear hS
        have hS := Lib.hid (And.intro hSA hSB)
        clear hSA hSB
        clear dA oA c60 HX5
        refine hK.out _ _ trivial (fun hHeldN => ?_)
        clear hK K hHeld
        have hHeld := hHeldN
        clear hHeldN
        try simp only [Act.put, List.setIfInBounds_toArray, List.set_cons_zero, List.set_cons_succ]
        refine wpAnyH_ready (rs := [6]) (by kernel_rfl) (by simp) ?_
        refine AllReadyH.cons (o := { dst := some 23, op := Op.call { callee := Callee.value (Operand.func 60), args := #[Operand.tmp 21, Operand.tmp 22], argTypes := #[53, 74] }, type := 9, pos := "l09_pieces.go:130", after := #[{ on := 4, ground := Ground.data }, { on := 5, ground := Ground.data }, { on := 3, ground := Ground.chain }], guard := none }) rfl (fun K hK => ?_) AllReadyH.nil
        go_simp
        with_reducible refine (cT _ HX6.out.d gS 2 hS.out.1 (by have := hS.out.2; omega)).mono ?_
        rintro e wA7 ⟨rfl, dA, oA⟩
        have HX7 := Lib.hid (HX6.out.only oA dA)
        clear dA oA cT HX6 hS
        refine hK.out _ _ trivial (fun hHeldN => ?_)
        clear hK K hHeld
        have hHeld := hHeldN
        clear hHeldN
        try simp only [Act.put, List.setIfInBounds_toArray, List.set_cons_zero, List.set_cons_succ]
        refine take_yes (i := 7) (oi := { dst := some 24, op := Op.build 41 #[(0, Operand.tmp 20), (1, Operand.tmp 23)], type := 41, pos := "l09_pieces.go:130", after := #[{ on := 3, ground := Ground.data }, { on := 6, ground := Ground.data }], guard := none }) (v := .agg #[.int .i64 (z : Int), .string y]) rfl (by kernel_rfl) (by kernel_rfl) (by kernel_rfl) (fun _ _ _ h => h) (by rfl) (fun w hSw => by (try dsimp only at hSw); go_simp) (by assumption) ?_
        try simp only [Act.put, List.setIfInBounds_toArray, List.set_cons_zero, List.set_cons_succ]
        refine wpAnyH_ready (rs := [8]) (by kernel_rfl) (by simp) ?_
        refine AllReadyH.cons (o := { dst := some 25, op := Op.buildSlice 24 1 #[(0, Operand.tmp 24)], type := 24, pos := "l09_pieces.go:130", after := #[{ on := 7, ground := Ground.data }], guard := none }) rfl (fun K hK => ?_) AllReadyH.nil
        go_simp
        have hbS := below_new wA7 (.cells #[.int .i64 (z : Int), .string y] 41)
        have hP := Lib.hid (one_rd wA7 (z : Int) y)
        have HX8 := Lib.hid (HX7.out.kept hbS)
        clear hbS HX7
        generalize wA7.heap.size = gP at *
        generalize wA7.alloc (.cells #[.int .i64 (z : Int), .string y] 41) = wP at *
        refine hK.out _ _ trivial (fun hHeldN => ?_)
        clear hK K hHeld
        have hHeld := hHeldN
        clear hHeldN
        try simp only [Act.put, List.setIfInBounds_toArray, List.set_cons_zero, List.set_cons_succ]
        refine wpAnyH_ready (rs := [9]) (by kernel_rfl) (by simp) ?_
        refine AllReadyH.cons (o := { dst := some 26, op := Op.call { callee := Callee.builtin Builtin.append, args := #[Operand.tmp 18, Operand.tmp 25], argTypes := #[24, 24] }, type := 24, pos := "l09_pieces.go:130", after := #[{ on := 1, ground := Ground.data }, { on := 8, ground := Ground.data }, { on := 6, ground := Ground.chain }], guard := none }) rfl (fun K hK => ?_) AllReadyH.nil
        refine step_append_lieN pcK rfl _ _ 24 rfl uPc (.slice ua ms.length uc) (.slice (some ⟨gP, 0, none⟩) 1 1) ms [⟨(z : Int), y⟩] rfl rfl HX8.out.l (by have h1 := HX8.out.c.lt; have h2 := HX8.out.hb; omega) HX8.out.c.lt hP.out (by simp) (by simp; omega) ?_
        intro u9 w9 hl9 hB9 hb9
        generalize hm9 : ms ++ [(⟨(z : Int), y⟩ : Pc)] = m9 at *
        clear hm9
        have K9 := Lib.hid (HX8.out.app hB9 hb9 hl9)
        obtain ⟨v1, v2, rfl⟩ := hl9.form
        clear HX8 hP hB9 hb9 hl9
        refine hK.out _ _ trivial (fun hHeldN => ?_)
        clear hK K hHeld
        have hHeld := hHeldN
        clear hHeldN
        try simp only [Act.put, List.setIfInBounds_toArray, List.set_cons_zero, List.set_cons_succ]
        refine take_yes (i := 10) (oi := { dst := some 27, op := Op.fieldAddr 26 (Operand.tmp 3) 2, type := 0, pos := "l09_pieces.go:130", after := #[{ on := 0, ground := Ground.phase }, { on := 1, ground := Ground.phase }, { on := 2, ground := Ground.phase }, { on := 3, ground := Ground.phase }, { on := 4, ground := Ground.phase }, { on := 5, ground := Ground.phase }, { on := 6, ground := Ground.phase }, { on := 7, ground := Ground.phase }, { on := 8, ground := Ground.phase }, { on := 9, ground := Ground.phase }], guard := none }) (v := .pointer (some ⟨b, 2, none⟩)) rfl (by kernel_rfl) (by kernel_rfl) (by kernel_rfl) (fun _ _ _ h => h) (by rfl) (fun w hSw => by (try dsimp only at hSw); go_simp) (by assumption) ?_
        try simp only [Act.put, List.setIfInBounds_toArray, List.set_cons_zero, List.set_cons_succ]
        refine wpAnyH_ready (rs := [11]) (by kernel_rfl) (by simp) ?_
        refine AllReadyH.cons (o := { dst := none, op := Op.store 24 (Operand.tmp 27) (Operand.tmp 26), type := 0, pos := "l09_pieces.go:130", after := #[{ on := 10, ground := Ground.data }, { on := 9, ground := Ground.data }, { on := 9, ground := Ground.chain }, { on := 0, ground := Ground.phase }, { on := 1, ground := Ground.phase }, { on := 2, ground := Ground.phase }, { on := 3, ground := Ground.phase }, { on := 4, ground := Ground.phase }, { on := 5, ground := Ground.phase }, { on := 6, ground := Ground.phase }, { on := 7, ground := Ground.phase }, { on := 8, ground := Ground.phase }, { on := 9, ground := Ground.phase }], guard := none }) rfl (fun K hK => ?_) AllReadyH.nil
        obtain ⟨a2, f2⟩ := K9.out.1
        go_simp
        have KF := Lib.hid K9.out.2
        clear K9 a2 f2
        refine hK.out _ _ trivial (fun hHeldN => ?_)
        clear hK K hHeld
        have hHeld := hHeldN
        clear hHeldN
        try simp only [Act.put, List.setIfInBounds_toArray, List.set_cons_zero, List.set_cons_succ]
        refine wpAnyH_done (by kernel_rfl) ?_ _
        clear hHeld
        go_upto_region 14 with (fail)
        generalize World.setCell _ ⟨b, 2, none⟩ _ = w5 at *
        obtain ⟨a0, a1, a2⟩ := KF.out.all
        obtain ⟨r0, r1', r2, b0, b1, b2⟩ := KF.out.rs
        have f0 := (KF.out.fr 0).2
        have f1 := (KF.out.fr 1).2
        have f2 := (KF.out.fr 2).2
        have HG := Lib.hid KF.out.give
        clear KF
        have hA := HA.out
        subst hA
        go_wp2_with (fail)
        exact bodyPost_ret (ps_result HG.out.1 rfl _ rfl) rfl ⟨_, rfl, HG.out.2.1, HG.out.2.2.1, HG.out.2.2.2⟩
      refine AllReadyH.cons (o := { dst := some 20, op := Op.call { callee := Callee.value (Operand.func 38), args := #[Operand.tmp 19, Operand.const (Value.int IntKind.i64 60)], argTypes := #[53, 3] }, type := 3, pos := "l09_pieces.go:130", after := #[{ on := 2, ground := Ground.data }], guard := none }) rfl (fun K hK => ?_) ?_
      · go_simp
        with_reducible refine (c60 _ H2.out.d).mono ?_
        rintro e wA9 ⟨rfl, dA, oA⟩
        have HX9 := Lib.hid (H2.out.only oA dA)
        clear dA oA c60 H2
        refine hK.out _ _ trivial (fun hHeldN => ?_)
        clear hK K hHeld
        have hHeld := hHeldN
        clear hHeldN
        try simp only [Act.put, List.setIfInBounds_toArray, List.set_cons_zero, List.set_cons_succ]
        refine wpAnyH_ready (rs := [1, 5]) (by kernel_rfl) (by simp) ?_
        refine AllReadyH.cons (o := { dst := some 18, op := Op.load 24 (Operand.tmp 17), type := 24, pos := "l09_pieces.go:130", after := #[{ on := 0, ground := Ground.data }], guard := none }) rfl (fun K hK => ?_) ?_
        · obtain ⟨a0, a1, a2⟩ := HX9.out.all
          go_simp
          clear a0 a1 a2
          refine hK.out _ _ trivial (fun hHeldN => ?_)
          clear hK K hHeld
          have hHeld := hHeldN
          clear hHeldN
          try simp only [Act.put, List.setIfInBounds_toArray, List.set_cons_zero, List.set_cons_succ]
          refine wpAnyH_ready (rs := [5]) (by kernel_rfl) (by simp) ?_
          refine AllReadyH.cons (o := { dst := some 22, op := Op.buildSlice 74 2 #[(0, Operand.const (Value.string { data := #[] })), (1, Operand.const (Value.string { data := #[97] }))], type := 74, pos := "l09_pieces.go:130", after := #[], guard := none }) rfl (fun K hK => ?_) AllReadyH.nil
          go_simp
          have hbS := below_new wA9 (.cells #[.string ⟨#[]⟩, .string ⟨#[97]⟩] 9)
          have hS := Lib.hid (And.intro (Cel.new wA9 9 #[.string ⟨#[]⟩, .string ⟨#[97]⟩]) (show g < wA9.heap.size from HX9.out.d.blk))
          have HX10 := Lib.hid (HX9.out.kept hbS)
          clear hbS HX9
          generalize wA9.heap.size = gS at *
          refine hK.out _ _ trivial (fun hHeldN => ?_)
          clear hK K hHeld
          have hHeld := hHeldN
          clear hHeldN
          try simp only [Act.put, List.setIfInBounds_toArray, List.set_cons_zero, List.set_cons_succ]
          refine wpAnyH_ready (rs := [6]) (by kernel_rfl) (by simp) ?_
          refine AllReadyH.cons (o := { dst := some 23, op := Op.call { callee := Callee.value (Operand.func 60), args := #[Operand.tmp 21, Operand.tmp 22], argTypes := #[53, 74] }, type := 9, pos := "l09_pieces.go:130", after := #[{ on := 4, ground := Ground.data }, { on := 5, ground := Ground.data }, { on := 3, ground := Ground.chain }], guard := none }) rfl (fun K hK => ?_) AllReadyH.nil
          go_simp
          with_reducible refine (cT _ HX10.out.d gS 2 hS.out.1 (by have := hS.out.2; omega)).mono ?_
          rintro e wA11 ⟨rfl, dA, oA⟩
          have HX11 := Lib.hid (HX10.out.only oA dA)
          clear dA oA cT HX10 hS
          refine hK.out _ _ trivial (fun hHeldN => ?_)
          clear hK K hHeld
          have hHeld := hHeldN
          clear hHeldN
          try simp only [Act.put, List.setIfInBounds_toArray, List.set_cons_zero, List.set_cons_succ]
          refine take_yes (i := 7) (oi := { dst := some 24, op := Op.build 41 #[(0, Operand.tmp 20), (1, Operand.tmp 23)], type := 41, pos := "l09_pieces.go:130", after := #[{ on := 3, ground := Ground.data }, { on := 6, ground := Ground.data }], guard := none }) (v := .agg #[.int .i64 (z : Int), .string y]) rfl (by kernel_rfl) (by kernel_rfl) (by kernel_rfl) (fun _ _ _ h => h) (by rfl) (fun w hSw => by (try dsimp only at hSw); go_simp) (by assumption) ?_
          try simp only [Act.put, List.setIfInBounds_toArray, List.set_cons_zero, List.set_cons_succ]
          refine wpAnyH_ready (rs := [8]) (by kernel_rfl) (by simp) ?_
          refine AllReadyH.cons (o := { dst := some 25, op := Op.buildSlice 24 1 #[(0, Operand.tmp 24)], type := 24, pos := "l09_pieces.go:130", after := #[{ on := 7, ground := Ground.data }], guard := none }) rfl (fun K hK => ?_) AllReadyH.nil
          go_simp
          have hbS := below_new wA11 (.cells #[.int .i64 (z : Int), .string y] 41)
          have hP := Lib.hid (one_rd wA11 (z : Int) y)
          have HX12 := Lib.hid (HX11.out.kept hbS)
          clear hbS HX11
          generalize wA11.heap.size = gP at *
          generalize wA11.alloc (.cells #[.int .i64 (z : Int), .string y] 41) = wP at *
          refine hK.out _ _ trivial (fun hHeldN => ?_)
          clear hK K hHeld
          have hHeld := hHeldN
          clear hHeldN
          try simp only [Act.put, List.setIfInBounds_toArray, List.set_cons_zero, List.set_cons_succ]
          refine wpAnyH_ready (rs := [9]) (by kernel_rfl) (by simp) ?_
          refine AllReadyH.cons (o := { dst := some 26, op := Op.call { callee := Callee.builtin Builtin.append, args := #[Operand.tmp 18, Operand.tmp 25], argTypes := #[24, 24] }, type := 24, pos := "l09_pieces.go:130", after := #[{ on := 1, ground := Ground.data }, { on := 8, ground := Ground.data }, { on := 6, ground := Ground.chain }], guard := none }) rfl (fun K hK => ?_) AllReadyH.nil
          refine step_append_lieN pcK rfl _ _ 24 rfl uPc (.slice ua ms.length uc) (.slice (some ⟨gP, 0, none⟩) 1 1) ms [⟨(z : Int), y⟩] rfl rfl HX12.out.l (by have h1 := HX12.out.c.lt; have h2 := HX12.out.hb; omega) HX12.out.c.lt hP.out (by simp) (by simp; omega) ?_
          intro u9 w9 hl9 hB9 hb9
          generalize hm9 : ms ++ [(⟨(z : Int), y⟩ : Pc)] = m9 at *
          clear hm9
          have K9 := Lib.hid (HX12.out.app hB9 hb9 hl9)
          obtain ⟨v1, v2, rfl⟩ := hl9.form
          clear HX12 hP hB9 hb9 hl9
          refine hK.out _ _ trivial (fun hHeldN => ?_)
          clear hK K hHeld
          have hHeld := hHeldN
          clear hHeldN
          try simp only [Act.put, List.setIfInBounds_toArray, List.set_cons_zero, List.set_cons_succ]
          refine take_yes (i := 10) (oi := { dst := some 27, op := Op.fieldAddr 26 (Operand.tmp 3) 2, type := 0, pos := "l09_pieces.go:130", after := #[{ on := 0, ground := Ground.phase }, { on := 1, ground := Ground.phase }, { on := 2, ground := Ground.phase }, { on := 3, ground := Ground.phase }, { on := 4, ground := Ground.phase }, { on := 5, ground := Ground.phase }, { on := 6, ground := Ground.phase }, { on := 7, ground := Ground.phase }, { on := 8, ground := Ground.phase }, { on := 9, ground := Ground.phase }], guard := none }) (v := .pointer (some ⟨b, 2, none⟩)) rfl (by kernel_rfl) (by kernel_rfl) (by kernel_rfl) (fun _ _ _ h => h) (by rfl) (fun w hSw => by (try dsimp only at hSw); go_simp) (by assumption) ?_
          try simp only [Act.put, List.setIfInBounds_toArray, List.set_cons_zero, List.set_cons_succ]
          refine wpAnyH_ready (rs := [11]) (by kernel_rfl) (by simp) ?_
          refine AllReadyH.cons (o := { dst := none, op := Op.store 24 (Operand.tmp 27) (Operand.tmp 26), type := 0, pos := "l09_pieces.go:130", after := #[{ on := 10, ground := Ground.data }, { on := 9, ground := Ground.data }, { on := 9, ground := Ground.chain }, { on := 0, ground := Ground.phase }, { on := 1, ground := Ground.phase }, { on := 2, ground := Ground.phase }, { on := 3, ground := Ground.phase }, { on := 4, ground := Ground.phase }, { on := 5, ground := Ground.phase }, { on := 6, ground := Ground.phase }, { on := 7, ground := Ground.phase }, { on := 8, ground := Ground.phase }, { on := 9, ground := Ground.phase }], guard := none }) rfl (fun K hK => ?_) AllReadyH.nil
          obtain ⟨a2, f2⟩ := K9.out.1
          go_simp
          have KF := Lib.hid K9.out.2
          clear K9 a2 f2
          refine hK.out _ _ trivial (fun hHeldN => ?_)
          clear hK K hHeld
          have hHeld := hHeldN
          clear hHeldN
          try simp only [Act.put, List.setIfInBounds_toArray, List.set_cons_zero, List.set_cons_succ]
          refine wpAnyH_done (by kernel_rfl) ?_ _
          clear hHeld
          go_upto_region 14 with (fail)
          generalize World.setCell _ ⟨b, 2, none⟩ _ = w5 at *
          obtain ⟨a0, a1, a2⟩ := KF.out.all
          obtain ⟨r0, r1', r2, b0, b1, b2⟩ := KF.out.rs
          have f0 := (KF.out.fr 0).2
          have f1 := (KF.out.fr 1).2
          have f2 := (KF.out.fr 2).2
          have HG := Lib.hid KF.out.give
          clear KF
          have hA := HA.out
          subst hA
          go_wp2_with (fail)
          exact bodyPost_ret (ps_result HG.out.1 rfl _ rfl) rfl ⟨_, rfl, HG.out.2.1, HG.out.2.2.1, HG.out.2.2.2⟩
        refine AllReadyH.cons (o := { dst := some 22, op := Op.buildSlice 74 2 #[(0, Operand.const (Value.string { data := #[] })), (1, Operand.const (Value.string { data := #[97] }))], type := 74, pos := "l09_pieces.go:130", after := #[], guard := none }) rfl (fun K hK => ?_) AllReadyH.nil
        go_simp
        have hbS := below_new wA9 (.cells #[.string ⟨#[]⟩, .string ⟨#[97]⟩] 9)
        have hS := Lib.hid (And.intro (Cel.new wA9 9 #[.string ⟨#[]⟩, .string ⟨#[97]⟩]) (show g < wA9.heap.size from HX9.out.d.blk))
        have HX13 := Lib.hid (HX9.out.kept hbS)
        clear hbS HX9
        generalize wA9.heap.size = gS at *
        refine hK.out _ _ trivial (fun hHeldN => ?_)
        clear hK K hHeld
        have hHeld := hHeldN
        clear hHeldN
        try simp only [Act.put, List.setIfInBounds_toArray, List.set_cons_zero, List.set_cons_succ]
        refine wpAnyH_ready (rs := [1, 6]) (by kernel_rfl) (by simp) ?_
        refine AllReadyH.cons (o := { dst := some 18, op := Op.load 24 (Operand.tmp 17), type := 24, pos := "l09_pieces.go:130", after := #[{ on := 0, ground := Ground.data }], guard := none }) rfl (fun K hK => ?_) ?_
        · obtain ⟨a0, a1, a2⟩ := HX13.out.all
          go_simp
          clear a0 a1 a2
          refine hK.out _ _ trivial (fun hHeldN => ?_)
          clear hK K hHeld
          have hHeld := hHeldN
          clear hHeldN
          try simp only [Act.put, List.setIfInBounds_toArray, List.set_cons_zero, List.set_cons_succ]
          refine wpAnyH_ready (rs := [6]) (by kernel_rfl) (by simp) ?_
          refine AllReadyH.cons (o := { dst := some 23, op := Op.call { callee := Callee.value (Operand.func 60), args := #[Operand.tmp 21, Operand.tmp 22], argTypes := #[53, 74] }, type := 9, pos := "l09_pieces.go:130", after := #[{ on := 4, ground := Ground.data }, { on := 5, ground := Ground.data }, { on := 3, ground := Ground.chain }], guard := none }) rfl (fun K hK => ?_) AllReadyH.nil
          go_simp
          with_reducible refine (cT _ HX13.out.d gS 2 hS.out.1 (by have := hS.out.2; omega)).mono ?_
          rintro e wA14 ⟨rfl, dA, oA⟩
          have HX14 := Lib.hid (HX13.out.only oA dA)
          clear dA oA cT HX13 hS
          refine hK.out _ _ trivial (fun hHeldN => ?_)
          clear hK K hHeld
          have hHeld := hHeldN
          clear hHeldN
          try simp only [Act.put, List.setIfInBounds_toArray, List.set_cons_zero, List.set_cons_succ]
          refine take_yes (i := 7) (oi := { dst := some 24, op := Op.build 41 #[(0, Operand.tmp 20), (1, Operand.tmp 23)], type := 41, pos := "l09_pieces.go:130", after := #[{ on := 3, ground := Ground.data }, { on := 6, ground := Ground.data }], guard := none }) (v := .agg #[.int .i64 (z : Int), .string y]) rfl (by kernel_rfl) (by kernel_rfl) (by kernel_rfl) (fun _ _ _ h => h) (by rfl) (fun w hSw => by (try dsimp only at hSw); go_simp) (by assumption) ?_
          try simp only [Act.put, List.setIfInBounds_toArray, List.set_cons_zero, List.set_cons_succ]
          refine wpAnyH_ready (rs := [8]) (by kernel_rfl) (by simp) ?_
          refine AllReadyH.cons (o := { dst := some 25, op := Op.buildSlice 24 1 #[(0, Operand.tmp 24)], type := 24, pos := "l09_pieces.go:130", after := #[{ on := 7, ground := Ground.data }], guard := none }) rfl (fun K hK => ?_) AllReadyH.nil
          go_simp
          have hbS := below_new wA14 (.cells #[.int .i64 (z : Int), .string y] 41)
          have hP := Lib.hid (one_rd wA14 (z : Int) y)
          have HX15 := Lib.hid (HX14.out.kept hbS)
          clear hbS HX14
          generalize wA14.heap.size = gP at *
          generalize wA14.alloc (.cells #[.int .i64 (z : Int), .string y] 41) = wP at *
          refine hK.out _ _ trivial (fun hHeldN => ?_)
          clear hK K hHeld
          have hHeld := hHeldN
          clear hHeldN
          try simp only [Act.put, List.setIfInBounds_toArray, List.set_cons_zero, List.set_cons_succ]
          refine wpAnyH_ready (rs := [9]) (by kernel_rfl) (by simp) ?_
          refine AllReadyH.cons (o := { dst := some 26, op := Op.call { callee := Callee.builtin Builtin.append, args := #[Operand.tmp 18, Operand.tmp 25], argTypes := #[24, 24] }, type := 24, pos := "l09_pieces.go:130", after := #[{ on := 1, ground := Ground.data }, { on := 8, ground := Ground.data }, { on := 6, ground := Ground.chain }], guard := none }) rfl (fun K hK => ?_) AllReadyH.nil
          refine step_append_lieN pcK rfl _ _ 24 rfl uPc (.slice ua ms.length uc) (.slice (some ⟨gP, 0, none⟩) 1 1) ms [⟨(z : Int), y⟩] rfl rfl HX15.out.l (by have h1 := HX15.out.c.lt; have h2 := HX15.out.hb; omega) HX15.out.c.lt hP.out (by simp) (by simp; omega) ?_
          intro u9 w9 hl9 hB9 hb9
          generalize hm9 : ms ++ [(⟨(z : Int), y⟩ : Pc)] = m9 at *
          clear hm9
          have K9 := Lib.hid (HX15.out.app hB9 hb9 hl9)
          obtain ⟨v1, v2, rfl⟩ := hl9.form
          clear HX15 hP hB9 hb9 hl9
          refine hK.out _ _ trivial (fun hHeldN => ?_)
          clear hK K hHeld
          have hHeld := hHeldN
          clear hHeldN
          try simp only [Act.put, List.setIfInBounds_toArray, List.set_cons_zero, List.set_cons_succ]
          refine take_yes (i := 10) (oi := { dst := some 27, op := Op.fieldAddr 26 (Operand.tmp 3) 2, type := 0, pos := "l09_pieces.go:130", after := #[{ on := 0, ground := Ground.phase }, { on := 1, ground := Ground.phase }, { on := 2, ground := Ground.phase }, { on := 3, ground := Ground.phase }, { on := 4, ground := Ground.phase }, { on := 5, ground := Ground.phase }, { on := 6, ground := Ground.phase }, { on := 7, ground := Ground.phase }, { on := 8, ground := Ground.phase }, { on := 9, ground := Ground.phase }], guard := none }) (v := .pointer (some ⟨b, 2, none⟩)) rfl (by kernel_rfl) (by kernel_rfl) (by kernel_rfl) (fun _ _ _ h => h) (by rfl) (fun w hSw => by (try dsimp only at hSw); go_simp) (by assumption) ?_
          try simp only [Act.put, List.setIfInBounds_toArray, List.set_cons_zero, List.set_cons_succ]
          refine wpAnyH_ready (rs := [11]) (by kernel_rfl) (by simp) ?_
          refine AllReadyH.cons (o := { dst := none, op := Op.store 24 (Operand.tmp 27) (Operand.tmp 26), type := 0, pos := "l09_pieces.go:130", after := #[{ on := 10, ground := Ground.data }, { on := 9, ground := Ground.data }, { on := 9, ground := Ground.chain }, { on := 0, ground := Ground.phase }, { on := 1, ground := Ground.phase }, { on := 2, ground := Ground.phase }, { on := 3, ground := Ground.phase }, { on := 4, ground := Ground.phase }, { on := 5, ground := Ground.phase }, { on := 6, ground := Ground.phase }, { on := 7, ground := Ground.phase }, { on := 8, ground := Ground.phase }, { on := 9, ground := Ground.phase }], guard := none }) rfl (fun K hK => ?_) AllReadyH.nil
          obtain ⟨a2, f2⟩ := K9.out.1
          go_simp
          have KF := Lib.hid K9.out.2
          clear K9 a2 f2
          refine hK.out _ _ trivial (fun hHeldN => ?_)
          clear hK K hHeld
          have hHeld := hHeldN
          clear hHeldN
          try simp only [Act.put, List.setIfInBounds_toArray, List.set_cons_zero, List.set_cons_succ]
          refine wpAnyH_done (by kernel_rfl) ?_ _
          clear hHeld
          go_upto_region 14 with (fail)
          generalize World.setCell _ ⟨b, 2, none⟩ _ = w5 at *
          obtain ⟨a0, a1, a2⟩ := KF.out.all
          obtain ⟨r0, r1', r2, b0, b1, b2⟩ := KF.out.rs
          have f0 := (KF.out.fr 0).2
          have f1 := (KF.out.fr 1).2
          have f2 := (KF.out.fr 2).2
          have HG := Lib.hid KF.out.give
          clear KF
          have hA := HA.out
          subst hA
          go_wp2_with (fail)
          exact bodyPost_ret (ps_result HG.out.1 rfl _ rfl) rfl ⟨_, rfl, HG.out.2.1, HG.out.2.2.1, HG.out.2.2.2⟩
        refine AllReadyH.cons (o := { dst := some 23, op := Op.call { callee := Callee.value (Operand.func 60), args := #[Operand.tmp 21, Operand.tmp 22], argTypes := #[53, 74] }, type := 9, pos := "l09_pieces.go:130", after := #[{ on := 4, ground := Ground.data }, { on := 5, ground := Ground.data }, { on := 3, ground := Ground.chain }], guard := none }) rfl (fun K hK => ?_) AllReadyH.nil
        go_simp
        with_reducible refine (cT _ HX13.out.d gS 2 hS.out.1 (by have := hS.out.2; omega)).mono ?_
        rintro e wA16 ⟨rfl, dA, oA⟩
        have HX16 := Lib.hid (HX13.out.only oA dA)
        clear dA oA cT HX13 hS
        refine hK.out _ _ trivial (fun hHeldN => ?_)
        clear hK K hHeld
        have hHeld := hHeldN
        clear hHeldN
        try simp only [Act.put, List.setIfInBounds_toArray, List.set_cons_zero, List.set_cons_succ]
        refine take_yes (i := 7) (oi := { dst := some 24, op := Op.build 41 #[(0, Operand.tmp 20), (1, Operand.tmp 23)], type := 41, pos := "l09_pieces.go:130", after := #[{ on := 3, ground := Ground.data }, { on := 6, ground := Ground.data }], guard := none }) (v := .agg #[.int .i64 (z : Int), .string y]) rfl (by kernel_rfl) (by kernel_rfl) (by kernel_rfl) (fun _ _ _ h => h) (by rfl) (fun w hSw => by (try dsimp only at hSw); go_simp) (by assumption) ?_
        try simp only [Act.put, List.setIfInBounds_toArray, List.set_cons_zero, List.set_cons_succ]
        refine wpAnyH_ready (rs := [1, 8]) (by kernel_rfl) (by simp) ?_
        refine AllReadyH.cons (o := { dst := some 18, op := Op.load 24 (Operand.tmp 17), type := 24, pos := "l09_pieces.go:130", after := #[{ on := 0, ground := Ground.data }], guard := none }) rfl (fun K hK => ?_) ?_
        · obtain ⟨a0, a1, a2⟩ := HX16.out.all
          go_simp
          clear a0 a1 a2
          refine hK.out _ _ trivial (fun hHeldN => ?_)
          clear hK K hHeld
          have hHeld := hHeldN
          clear hHeldN
          try simp only [Act.put, List.setIfInBounds_toArray, List.set_cons_zero, List.set_cons_succ]
          refine wpAnyH_ready (rs := [8]) (by kernel_rfl) (by simp) ?_
          refine AllReadyH.cons (o := { dst := some 25, op := Op.buildSlice 24 1 #[(0, Operand.tmp 24)], type := 24, pos := "l09_pieces.go:130", after := #[{ on := 7, ground := Ground.data }], guard := none }) rfl (fun K hK => ?_) AllReadyH.nil
          go_simp
          have hbS := below_new wA16 (.cells #[.int .i64 (z : Int), .string y] 41)
          have hP := Lib.hid (one_rd wA16 (z : Int) y)
          have HX17 := Lib.hid (HX16.out.kept hbS)
          clear hbS HX16
          generalize wA16.heap.size = gP at *
          generalize wA16.alloc (.cells #[.int .i64 (z : Int), .string y] 41) = wP at *
          refine hK.out _ _ trivial (fun hHeldN => ?_)
          clear hK K hHeld
          have hHeld := hHeldN
          clear hHeldN
          try simp only [Act.put, List.setIfInBounds_toArray, List.set_cons_zero, List.set_cons_succ]
          refine wpAnyH_ready (rs := [9]) (by kernel_rfl) (by simp) ?_
          refine AllReadyH.cons (o := { dst := some 26, op := Op.call { callee := Callee.builtin Builtin.append, args := #[Operand.tmp 18, Operand.tmp 25], argTypes := #[24, 24] }, type := 24, pos := "l09_pieces.go:130", after := #[{ on := 1, ground := Ground.data }, { on := 8, ground := Ground.data }, { on := 6, ground := Ground.chain }], guard := none }) rfl (fun K hK => ?_) AllReadyH.nil
          refine step_append_lieN pcK rfl _ _ 24 rfl uPc (.slice ua ms.length uc) (.slice (some ⟨gP, 0, none⟩) 1 1) ms [⟨(z : Int), y⟩] rfl rfl HX17.out.l (by have h1 := HX17.out.c.lt; have h2 := HX17.out.hb; omega) HX17.out.c.lt hP.out (by simp) (by simp; omega) ?_
          intro u9 w9 hl9 hB9 hb9
          generalize hm9 : ms ++ [(⟨(z : Int), y⟩ : Pc)] = m9 at *
          clear hm9
          have K9 := Lib.hid (HX17.out.app hB9 hb9 hl9)
          obtain ⟨v1, v2, rfl⟩ := hl9.form
          clear HX17 hP hB9 hb9 hl9
          refine hK.out _ _ trivial (fun hHeldN => ?_)
          clear hK K hHeld
          have hHeld := hHeldN
          clear hHeldN
          try simp only [Act.put, List.setIfInBounds_toArray, List.set_cons_zero, List.set_cons_succ]
          refine take_yes (i := 10) (oi := { dst := some 27, op := Op.fieldAddr 26 (Operand.tmp 3) 2, type := 0, pos := "l09_pieces.go:130", after := #[{ on := 0, ground := Ground.phase }, { on := 1, ground := Ground.phase }, { on := 2, ground := Ground.phase }, { on := 3, ground := Ground.phase }, { on := 4, ground := Ground.phase }, { on := 5, ground := Ground.phase }, { on := 6, ground := Ground.phase }, { on := 7, ground := Ground.phase }, { on := 8, ground := Ground.phase }, { on := 9, ground := Ground.phase }], guard := none }) (v := .pointer (some ⟨b, 2, none⟩)) rfl (by kernel_rfl) (by kernel_rfl) (by kernel_rfl) (fun _ _ _ h => h) (by rfl) (fun w hSw => by (try dsimp only at hSw); go_simp) (by assumption) ?_
          try simp only [Act.put, List.setIfInBounds_toArray, List.set_cons_zero, List.set_cons_succ]
          refine wpAnyH_ready (rs := [11]) (by kernel_rfl) (by simp) ?_
          refine AllReadyH.cons (o := { dst := none, op := Op.store 24 (Operand.tmp 27) (Operand.tmp 26), type := 0, pos := "l09_pieces.go:130", after := #[{ on := 10, ground := Ground.data }, { on := 9, ground := Ground.data }, { on := 9, ground := Ground.chain }, { on := 0, ground := Ground.phase }, { on := 1, ground := Ground.phase }, { on := 2, ground := Ground.phase }, { on := 3, ground := Ground.phase }, { on := 4, ground := Ground.phase }, { on := 5, ground := Ground.phase }, { on := 6, ground := Ground.phase }, { on := 7, ground := Ground.phase }, { on := 8, ground := Ground.phase }, { on := 9, ground := Ground.phase }], guard := none }) rfl (fun K hK => ?_) AllReadyH.nil
          obtain ⟨a2, f2⟩ := K9.out.1
          go_simp
          have KF := Lib.hid K9.out.2
          clear K9 a2 f2
          refine hK.out _ _ trivial (fun hHeldN => ?_)
          clear hK K hHeld
          have hHeld := hHeldN
          clear hHeldN
          try simp only [Act.put, List.setIfInBounds_toArray, List.set_cons_zero, List.set_cons_succ]
          refine wpAnyH_done (by kernel_rfl) ?_ _
          clear hHeld
          go_upto_region 14 with (fail)
          generalize World.setCell _ ⟨b, 2, none⟩ _ = w5 at *
          obtain ⟨a0, a1, a2⟩ := KF.out.all
          obtain ⟨r0, r1', r2, b0, b1, b2⟩ := KF.out.rs
          have f0 := (KF.out.fr 0).2
          have f1 := (KF.out.fr 1).2
          have f2 := (KF.out.fr 2).2
          have HG := Lib.hid KF.out.give
          clear KF
          have hA := HA.out
          subst hA
          go_wp2_with (fail)
          exact bodyPost_ret (ps_result HG.out.1 rfl _ rfl) rfl ⟨_, rfl, HG.out.2.1, HG.out.2.2.1, HG.out.2.2.2⟩
        refine AllReadyH.cons (o := { dst := some 25, op := Op.buildSlice 24 1 #[(0, Operand.tmp 24)], type := 24, pos := "l09_pieces.go:130", after := #[{ on := 7, ground := Ground.data }], guard := none }) rfl (fun K hK => ?_) AllReadyH.nil
        go_simp
        have hbS := below_new wA16 (.cells #[.int .i64 (z : Int), .string y] 41)
        have hP := Lib.hid (one_rd wA16 (z : Int) y)
        have HX18 := Lib.hid (HX16.out.kept hbS)
        clear hbS HX16
        generalize wA16.heap.size = gP at *
        generalize wA16.alloc (.cells #[.int .i64 (z : Int), .string y] 41) = wP at *
        refine hK.out _ _ trivial (fun hHeldN => ?_)
        clear hK K hHeld
        have hHeld := hHeldN
        clear hHeldN
        try simp only [Act.put, List.setIfInBounds_toArray, List.set_cons_zero, List.set_cons_succ]
        refine wpAnyH_ready (rs := [1]) (by kernel_rfl) (by simp) ?_
        refine AllReadyH.cons (o := { dst := some 18, op := Op.load 24 (Operand.tmp 17), type := 24, pos := "l09_pieces.go:130", after := #[{ on := 0, ground := Ground.data }], guard := none }) rfl (fun K hK => ?_) AllReadyH.nil
        obtain ⟨a0, a1, a2⟩ := HX18.out.all
        go_simp
        clear a0 a1 a2
        refine hK.out _ _ trivial (fun hHeldN => ?_)
        clear hK K hHeld
        have hHeld := hHeldN
        clear hHeldN
        try simp only [Act.put, List.setIfInBounds_toArray, List.set_cons_zero, List.set_cons_succ]
        refine wpAnyH_ready (rs := [9]) (by kernel_rfl) (by simp) ?_
        refine AllReadyH.cons (o := { dst := some 26, op := Op.call { callee := Callee.builtin Builtin.append, args := #[Operand.tmp 18, Operand.tmp 25], argTypes := #[24, 24] }, type := 24, pos := "l09_pieces.go:130", after := #[{ on := 1, ground := Ground.data }, { on := 8, ground := Ground.data }, { on := 6, ground := Ground.chain }], guard := none }) rfl (fun K hK => ?_) AllReadyH.nil
        refine step_append_lieN pcK rfl _ _ 24 rfl uPc (.slice ua ms.length uc) (.slice (some ⟨gP, 0, none⟩) 1 1) ms [⟨(z : Int), y⟩] rfl rfl HX18.out.l (by have h1 := HX18.out.c.lt; have h2 := HX18.out.hb; omega) HX18.out.c.lt hP.out (by simp) (by simp; omega) ?_
        intro u9 w9 hl9 hB9 hb9
        generalize hm9 : ms ++ [(⟨(z : Int), y⟩ : Pc)] = m9 at *
        clear hm9
        have K9 := Lib.hid (HX18.out.app hB9 hb9 hl9)
        obtain ⟨v1, v2, rfl⟩ := hl9.form
        clear HX18 hP hB9 hb9 hl9
        refine hK.out _ _ trivial (fun hHeldN => ?_)
        clear hK K hHeld
        have hHeld := hHeldN
        clear hHeldN
        try simp only [Act.put, List.setIfInBounds_toArray, List.set_cons_zero, List.set_cons_succ]
        refine take_yes (i := 10) (oi := { dst := some 27, op := Op.fieldAddr 26 (Operand.tmp 3) 2, type := 0, pos := "l09_pieces.go:130", after := #[{ on := 0, ground := Ground.phase }, { on := 1, ground := Ground.phase }, { on := 2, ground := Ground.phase }, { on := 3, ground := Ground.phase }, { on := 4, ground := Ground.phase }, { on := 5, ground := Ground.phase }, { on := 6, ground := Ground.phase }, { on := 7, ground := Ground.phase }, { on := 8, ground := Ground.phase }, { on := 9, ground := Ground.phase }], guard := none }) (v := .pointer (some ⟨b, 2, none⟩)) rfl (by kernel_rfl) (by kernel_rfl) (by kernel_rfl) (fun _ _ _ h => h) (by rfl) (fun w hSw => by (try dsimp only at hSw); go_simp) (by assumption) ?_
        try simp only [Act.put, List.setIfInBounds_toArray, List.set_cons_zero, List.set_cons_succ]
        refine wpAnyH_ready (rs := [11]) (by kernel_rfl) (by simp) ?_
        refine AllReadyH.cons (o := { dst := none, op := Op.store 24 (Operand.tmp 27) (Operand.tmp 26), type := 0, pos := "l09_pieces.go:130", after := #[{ on := 10, ground := Ground.data }, { on := 9, ground := Ground.data }, { on := 9, ground := Ground.chain }, { on := 0, ground := Ground.phase }, { on := 1, ground := Ground.phase }, { on := 2, ground := Ground.phase }, { on := 3, ground := Ground.phase }, { on := 4, ground := Ground.phase }, { on := 5, ground := Ground.phase }, { on := 6, ground := Ground.phase }, { on := 7, ground := Ground.phase }, { on := 8, ground := Ground.phase }, { on := 9, ground := Ground.phase }], guard := none }) rfl (fun K hK => ?_) AllReadyH.nil
        obtain ⟨a2, f2⟩ := K9.out.1
        go_simp
        have KF := Lib.hid K9.out.2
        clear K9 a2 f2
        refine hK.out _ _ trivial (fun hHeldN => ?_)
        clear hK K hHeld
        have hHeld := hHeldN
        clear hHeldN
        try simp only [Act.put, List.setIfInBounds_toArray, List.set_cons_zero, List.set_cons_succ]
        refine wpAnyH_done (by kernel_rfl) ?_ _
        clear hHeld
        go_upto_region 14 with (fail)
        generalize World.setCell _ ⟨b, 2, none⟩ _ = w5 at *
        obtain ⟨a0, a1, a2⟩ := KF.out.all
        obtain ⟨r0, r1', r2, b0, b1, b2⟩ := KF.out.rs
        have f0 := (KF.out.fr 0).2
        have f1 := (KF.out.fr 1).2
        have f2 := (KF.out.fr 2).2
        have HG := Lib.hid KF.out.give
        clear KF
        have hA := HA.out
        subst hA
        go_wp2_with (fail)
        exact bodyPost_ret (ps_result HG.out.1 rfl _ rfl) rfl ⟨_, rfl, HG.out.2.1, HG.out.2.2.1, HG.out.2.2.2⟩
      refine AllReadyH.cons (o := { dst := some 22, op := Op.buildSlice 74 2 #[(0, Operand.const (Value.string { data := #[] })), (1, Operand.const (Value.string { data := #[97] }))], type := 74, pos := "l09_pieces.go:130", after := #[], guard := none }) rfl (fun K hK => ?_) AllReadyH.nil
      go_simp
      have hbS := below_new wd (.cells #[.string ⟨#[]⟩, .string ⟨#[97]⟩] 9)
      have hS := Lib.hid (And.intro (Cel.new wd 9 #[.string ⟨#[]⟩, .string ⟨#[97]⟩]) (show g < wd.heap.size from H2.out.d.blk))
      have HX19 := Lib.hid (H2.out.kept hbS)
      clear hbS H2
      generalize wd.heap.size = gS at *
      refine hK.out _ _ trivial (fun hHeldN => ?_)
      clear hK K hHeld
      have hHeld := hHeldN
      clear hHeldN
      try simp only [Act.put, List.setIfInBounds_toArray, List.set_cons_zero, List.set_cons_succ]
      refine wpAnyH_ready (rs := [1, 3]) (by kernel_rfl) (by simp) ?_
      refine AllReadyH.cons (o := { dst := some 18, op := Op.load 24 (Operand.tmp 17), type := 24, pos := "l09_pieces.go:130", after := #[{ on := 0, ground := Ground.data }], guard := none }) rfl (fun K hK => ?_) ?_
      · obtain ⟨a0, a1, a2⟩ := HX19.out.all
        go_simp
        clear a0 a1 a2
        refine hK.out _ _ trivial (fun hHeldN => ?_)
        clear hK K hHeld
        have hHeld := hHeldN
        clear hHeldN
        try simp only [Act.put, List.setIfInBounds_toArray, List.set_cons_zero, List.set_cons_succ]
        refine wpAnyH_ready (rs := [3]) (by kernel_rfl) (by simp) ?_
        refine AllReadyH.cons (o := { dst := some 20, op := Op.call { callee := Callee.value (Operand.func 38), args := #[Operand.tmp 19, Operand.const (Value.int IntKind.i64 60)], argTypes := #[53, 3] }, type := 3, pos := "l09_pieces.go:130", after := #[{ on := 2, ground := Ground.data }], guard := none }) rfl (fun K hK => ?_) AllReadyH.nil
        go_simp
        with_reducible refine (c60 _ HX19.out.d).mono ?_
        rintro e wA20 ⟨rfl, dA, oA⟩
        have HX20 := Lib.hid (HX19.out.only oA dA)
        have hSA := hS.out.1.only oA (by have := hS.out.2; omega)
        have hSB := hS.out.2
        clear hS
        have hS := Lib.hid (And.intro hSA hSB)
        clear hSA hSB
        clear dA oA c60 HX19
        refine hK.out _ _ trivial (fun hHeldN => ?_)
        clear hK K hHeld
        have hHeld := hHeldN
        clear hHeldN
        try simp only [Act.put, List.setIfInBounds_toArray, List.set_cons_zero, List.set_cons_succ]
        refine wpAnyH_ready (rs := [6]) (by kernel_rfl) (by simp) ?_
        refine AllReadyH.cons (o := { dst := some 23, op := Op.call { callee := Callee.value (Operand.func 60), args := #[Operand.tmp 21, Operand.tmp 22], argTypes := #[53, 74] }, type := 9, pos := "l09_pieces.go:130", after := #[{ on := 4, ground := Ground.data }, { on := 5, ground := Ground.data }, { on := 3, ground := Ground.chain }], guard := none }) rfl (fun K hK => ?_) AllReadyH.nil
        go_simp
        with_reducible refine (cT _ HX20.out.d gS 2 hS.out.1 (by have := hS.out.2; omega)).mono ?_
        rintro e wA21 ⟨rfl, dA, oA⟩
        have HX21 := Lib.hid (HX20.out.only oA dA)
        clear dA oA cT HX20 hS
        refine hK.out _ _ trivial (fun hHeldN => ?_)
        clear hK K hHeld
        have hHeld := hHeldN
        clear hHeldN
        try simp only [Act.put, List.setIfInBounds_toArray, List.set_cons_zero, List.set_cons_succ]
        refine take_yes (i := 7) (oi := { dst := some 24, op := Op.build 41 #[(0, Operand.tmp 20), (1, Operand.tmp 23)], type := 41, pos := "l09_pieces.go:130", after := #[{ on := 3, ground := Ground.data }, { on := 6, ground := Ground.data }], guard := none }) (v := .agg #[.int .i64 (z : Int), .string y]) rfl (by kernel_rfl) (by kernel_rfl) (by kernel_rfl) (fun _ _ _ h => h) (by rfl) (fun w hSw => by (try dsimp only at hSw); go_simp) (by assumption) ?_
        try simp only [Act.put, List.setIfInBounds_toArray, List.set_cons_zero, List.set_cons_succ]
        refine wpAnyH_ready (rs := [8]) (by kernel_rfl) (by simp) ?_
        refine AllReadyH.cons (o := { dst := some 25, op := Op.buildSlice 24 1 #[(0, Operand.tmp 24)], type := 24, pos := "l09_pieces.go:130", after := #[{ on := 7, ground := Ground.data }], guard := none }) rfl (fun K hK => ?_) AllReadyH.nil
        go_simp
        have hbS := below_new wA21 (.cells #[.int .i64 (z : Int), .string y] 41)
        have hP := Lib.hid (one_rd wA21 (z : Int) y)
        have HX22 := Lib.hid (HX21.out.kept hbS)
        clear hbS HX21
        generalize wA21.heap.size = gP at *
        generalize wA21.alloc (.cells #[.int .i64 (z : Int), .string y] 41) = wP at *
        refine hK.out _ _ trivial (fun hHeldN => ?_)
        clear hK K hHeld
        have hHeld := hHeldN
        clear hHeldN
        try simp only [Act.put, List.setIfInBounds_toArray, List.set_cons_zero, List.set_cons_succ]
        refine wpAnyH_ready (rs := [9]) (by kernel_rfl) (by simp) ?_
        refine AllReadyH.cons (o := { dst := some 26, op := Op.call { callee := Callee.builtin Builtin.append, args := #[Operand.tmp 18, Operand.tmp 25], argTypes := #[24, 24] }, type := 24, pos := "l09_pieces.go:130", after := #[{ on := 1, ground := Ground.data }, { on := 8, ground := Ground.data }, { on := 6, ground := Ground.chain }], guard := none }) rfl (fun K hK => ?_) AllReadyH.nil
        refine step_append_lieN pcK rfl _ _ 24 rfl uPc (.slice ua ms.length uc) (.slice (some ⟨gP, 0, none⟩) 1 1) ms [⟨(z : Int), y⟩] rfl rfl HX22.out.l (by have h1 := HX22.out.c.lt; have h2 := HX22.out.hb; omega) HX22.out.c.lt hP.out (by simp) (by simp; omega) ?_
        intro u9 w9 hl9 hB9 hb9
        generalize hm9 : ms ++ [(⟨(z : Int), y⟩ : Pc)] = m9 at *
        clear hm9
        have K9 := Lib.hid (HX22.out.app hB9 hb9 hl9)
        obtain ⟨v1, v2, rfl⟩ := hl9.form
        clear HX22 hP hB9 hb9 hl9
        refine hK.out _ _ trivial (fun hHeldN => ?_)
        clear hK K hHeld
        have hHeld := hHeldN
        clear hHeldN
        try simp only [Act.put, List.setIfInBounds_toArray, List.set_cons_zero, List.set_cons_succ]
        refine take_yes (i := 10) (oi := { dst := some 27, op := Op.fieldAddr 26 (Operand.tmp 3) 2, type := 0, pos := "l09_pieces.go:130", after := #[{ on := 0, ground := Ground.phase }, { on := 1, ground := Ground.phase }, { on := 2, ground := Ground.phase }, { on := 3, ground := Ground.phase }, { on := 4, ground := Ground.phase }, { on := 5, ground := Ground.phase }, { on := 6, ground := Ground.phase }, { on := 7, ground := Ground.phase }, { on := 8, ground := Ground.phase }, { on := 9, ground := Ground.phase }], guard := none }) (v := .pointer (some ⟨b, 2, none⟩)) rfl (by kernel_rfl) (by kernel_rfl) (by kernel_rfl) (fun _ _ _ h => h) (by rfl) (fun w hSw => by (try dsimp only at hSw); go_simp) (by assumption) ?_
        try simp only [Act.put, List.setIfInBounds_toArray, List.set_cons_zero, List.set_cons_succ]
        refine wpAnyH_ready (rs := [11]) (by kernel_rfl) (by simp) ?_
        refine AllReadyH.cons (o := { dst := none, op := Op.store 24 (Operand.tmp 27) (Operand.tmp 26), type := 0, pos := "l09_pieces.go:130", after := #[{ on := 10, ground := Ground.data }, { on := 9, ground := Ground.data }, { on := 9, ground := Ground.chain }, { on := 0, ground := Ground.phase }, { on := 1, ground := Ground.phase }, { on := 2, ground := Ground.phase }, { on := 3, ground := Ground.phase }, { on := 4, ground := Ground.phase }, { on := 5, ground := Ground.phase }, { on := 6, ground := Ground.phase }, { on := 7, ground := Ground.phase }, { on := 8, ground := Ground.phase }, { on := 9, ground := Ground.phase }], guard := none }) rfl (fun K hK => ?_) AllReadyH.nil
        obtain ⟨a2, f2⟩ := K9.out.1
        go_simp
        have KF := Lib.hid K9.out.2
        clear K9 a2 f2
        refine hK.out _ _ trivial (fun hHeldN => ?_)
        clear hK K hHeld
        have hHeld := hHeldN
        clear hHeldN
        try simp only [Act.put, List.setIfInBounds_toArray, List.set_cons_zero, List.set_cons_succ]
        refine wpAnyH_done (by kernel_rfl) ?_ _
        clear hHeld
        go_upto_region 14 with (fail)
        generalize World.setCell _ ⟨b, 2, none⟩ _ = w5 at *
        obtain ⟨a0, a1, a2⟩ := KF.out.all
        obtain ⟨r0, r1', r2, b0, b1, b2⟩ := KF.out.rs
        have f0 := (KF.out.fr 0).2
        have f1 := (KF.out.fr 1).2
        have f2 := (KF.out.fr 2).2
        have HG := Lib.hid KF.out.give
        clear KF
        have hA := HA.out
        subst hA
        go_wp2_with (fail)
        exact bodyPost_ret (ps_result HG.out.1 rfl _ rfl) rfl ⟨_, rfl, HG.out.2.1, HG.out.2.2.1, HG.out.2.2.2⟩
      refine AllReadyH.cons (o := { dst := some 20, op := Op.call { callee := Callee.value (Operand.func 38), args := #[Operand.tmp 19, Operand.const (Value.int IntKind.i64 60)], argTypes := #[53, 3] }, type := 3, pos := "l09_pieces.go:130", after := #[{ on := 2, ground := Ground.data }], guard := none }) rfl (fun K hK => ?_) AllReadyH.nil
      go_simp
      with_reducible refine (c60 _ HX19.out.d).mono ?_
      rintro e wA23 ⟨rfl, dA, oA⟩
      have HX23 := Lib.hid (HX19.out.only oA dA)
      have hSA := hS.out.1.only oA (by have := hS.out.2; omega)
      have hSB := hS.out.2
      clear hS
      have hS := Lib.hid (And.intro hSA hSB)
      clear hSA hSB
      clear dA oA c60 HX19
      refine hK.out _ _ trivial (fun hHeldN => ?_)
      clear hK K hHeld
      have hHeld := hHeldN
      clear hHeldN
      try simp only [Act.put, List.setIfInBounds_toArray, List.set_cons_zero, List.set_cons_succ]
      refine wpAnyH_ready (rs := [1, 6]) (by kernel_rfl) (by simp) ?_
      refine AllReadyH.cons (o := { dst := some 18, op := Op.load 24 (Operand.tmp 17), type := 24, pos := "l09_pieces.go:130", after := #[{ on := 0, ground := Ground.data }], guard := none }) rfl (fun K hK => ?_) ?_
      · obtain ⟨a0, a1, a2⟩ := HX23.out.all
        go_simp
        clear a0 a1 a2
        refine hK.out _ _ trivial (fun hHeldN => ?_)
        clear hK K hHeld
        have hHeld := hHeldN
        clear hHeldN
        try simp only [Act.put, List.setIfInBounds_toArray, List.set_cons_zero, List.set_cons_succ]
        refine wpAnyH_ready (rs := [6]) (by kernel_rfl) (by simp) ?_
        refine AllReadyH.cons (o := { dst := some 23, op := Op.call { callee := Callee.value (Operand.func 60), args := #[Operand.tmp 21, Operand.tmp 22], argTypes := #[53, 74] }, type := 9, pos := "l09_pieces.go:130", after := #[{ on := 4, ground := Ground.data }, { on := 5, ground := Ground.data }, { on := 3, ground := Ground.chain }], guard := none }) rfl (fun K hK => ?_) AllReadyH.nil
        go_simp
        with_reducible refine (cT _ HX23.out.d gS 2 hS.out.1 (by have := hS.out.2; omega)).mono ?_
        rintro e wA24 ⟨rfl, dA, oA⟩
        have HX24 := Lib.hid (HX23.out.only oA dA)
        clear dA oA cT HX23 hS
        refine hK.out _ _ trivial (fun hHeldN => ?_)
        clear hK K hHeld
        have hHeld := hHeldN
        clear hHeldN
        try simp only [Act.put, List.setIfInBounds_toArray, List.set_cons_zero, List.set_cons_succ]
        refine take_yes (i := 7) (oi := { dst := some 24, op := Op.build 41 #[(0, Operand.tmp 20), (1, Operand.tmp 23)], type := 41, pos := "l09_pieces.go:130", after := #[{ on := 3, ground := Ground.data }, { on := 6, ground := Ground.data }], guard := none }) (v := .agg #[.int .i64 (z : Int), .string y]) rfl (by kernel_rfl) (by kernel_rfl) (by kernel_rfl) (fun _ _ _ h => h) (by rfl) (fun w hSw => by (try dsimp only at hSw); go_simp) (by assumption) ?_
        try simp only [Act.put, List.setIfInBounds_toArray, List.set_cons_zero, List.set_cons_succ]
        refine wpAnyH_ready (rs := [8]) (by kernel_rfl) (by simp) ?_
        refine AllReadyH.cons (o := { dst := some 25, op := Op.buildSlice 24 1 #[(0, Operand.tmp 24)], type := 24, pos := "l09_pieces.go:130", after := #[{ on := 7, ground := Ground.data }], guard := none }) rfl (fun K hK => ?_) AllReadyH.nil
        go_simp
        have hbS := below_new wA24 (.cells #[.int .i64 (z : Int), .string y] 41)
        have hP := Lib.hid (one_rd wA24 (z : Int) y)
        have HX25 := Lib.hid (HX24.out.kept hbS)
        clear hbS HX24
        generalize wA24.heap.size = gP at *
        generalize wA24.alloc (.cells #[.int .i64 (z : Int), .string y] 41) = wP at *
        refine hK.out _ _ trivial (fun hHeldN => ?_)
        clear hK K hHeld
        have hHeld := hHeldN
        clear hHeldN
        try simp only [Act.put, List.setIfInBounds_toArray, List.set_cons_zero, List.set_cons_succ]
        refine wpAnyH_ready (rs := [9]) (by kernel_rfl) (by simp) ?_
        refine AllReadyH.cons (o := { dst := some 26, op := Op.call { callee := Callee.builtin Builtin.append, args := #[Operand.tmp 18, Operand.tmp 25], argTypes := #[24, 24] }, type := 24, pos := "l09_pieces.go:130", after := #[{ on := 1, ground := Ground.data }, { on := 8, ground := Ground.data }, { on := 6, ground := Ground.chain }], guard := none }) rfl (fun K hK => ?_) AllReadyH.nil
        refine step_append_lieN pcK rfl _ _ 24 rfl uPc (.slice ua ms.length uc) (.slice (some ⟨gP, 0, none⟩) 1 1) ms [⟨(z : Int), y⟩] rfl rfl HX25.out.l (by have h1 := HX25.out.c.lt; have h2 := HX25.out.hb; omega) HX25.out.c.lt hP.out (by simp) (by simp; omega) ?_
        intro u9 w9 hl9 hB9 hb9
        generalize hm9 : ms ++ [(⟨(z : Int), y⟩ : Pc)] = m9 at *
        clear hm9
        have K9 := Lib.hid (HX25.out.app hB9 hb9 hl9)
        obtain ⟨v1, v2, rfl⟩ := hl9.form
        clear HX25 hP hB9 hb9 hl9
        refine hK.out _ _ trivial (fun hHeldN => ?_)
        clear hK K hHeld
        have hHeld := hHeldN
        clear hHeldN
        try simp only [Act.put, List.setIfInBounds_toArray, List.set_cons_zero, List.set_cons_succ]
        refine take_yes (i := 10) (oi := { dst := some 27, op := Op.fieldAddr 26 (Operand.tmp 3) 2, type := 0, pos := "l09_pieces.go:130", after := #[{ on := 0, ground := Ground.phase }, { on := 1, ground := Ground.phase }, { on := 2, ground := Ground.phase }, { on := 3, ground := Ground.phase }, { on := 4, ground := Ground.phase }, { on := 5, ground := Ground.phase }, { on := 6, ground := Ground.phase }, { on := 7, ground := Ground.phase }, { on := 8, ground := Ground.phase }, { on := 9, ground := Ground.phase }], guard := none }) (v := .pointer (some ⟨b, 2, none⟩)) rfl (by kernel_rfl) (by kernel_rfl) (by kernel_rfl) (fun _ _ _ h => h) (by rfl) (fun w hSw => by (try dsimp only at hSw); go_simp) (by assumption) ?_
        try simp only [Act.put, List.setIfInBounds_toArray, List.set_cons_zero, List.set_cons_succ]
        refine wpAnyH_ready (rs := [11]) (by kernel_rfl) (by simp) ?_
        refine AllReadyH.cons (o := { dst := none, op := Op.store 24 (Operand.tmp 27) (Operand.tmp 26), type := 0, pos := "l09_pieces.go:130", after := #[{ on := 10, ground := Ground.data }, { on := 9, ground := Ground.data }, { on := 9, ground := Ground.chain }, { on := 0, ground := Ground.phase }, { on := 1, ground := Ground.phase }, { on := 2, ground := Ground.phase }, { on := 3, ground := Ground.phase }, { on := 4, ground := Ground.phase }, { on := 5, ground := Ground.phase }, { on := 6, ground := Ground.phase }, { on := 7, ground := Ground.phase }, { on := 8, ground := Ground.phase }, { on := 9, ground := Ground.phase }], guard := none }) rfl (fun K hK => ?_) AllReadyH.nil
        obtain ⟨a2, f2⟩ := K9.out.1
        go_simp
        have KF := Lib.hid K9.out.2
        clear K9 a2 f2
        refine hK.out _ _ trivial (fun hHeldN => ?_)
        clear hK K hHeld
        have hHeld := hHeldN
        clear hHeldN
        try simp only [Act.put, List.setIfInBounds_toArray, List.set_cons_zero, List.set_cons_succ]
        refine wpAnyH_done (by kernel_rfl) ?_ _
        clear hHeld
        go_upto_region 14 with (fail)
        generalize World.setCell _ ⟨b, 2, none⟩ _ = w5 at *
        obtain ⟨a0, a1, a2⟩ := KF.out.all
        obtain ⟨r0, r1', r2, b0, b1, b2⟩ := KF.out.rs
        have f0 := (KF.out.fr 0).2
        have f1 := (KF.out.fr 1).2
        have f2 := (KF.out.fr 2).2
        have HG := Lib.hid KF.out.give
        clear KF
        have hA := HA.out
        subst hA
        go_wp2_with (fail)
        exact bodyPost_ret (ps_result HG.out.1 rfl _ rfl) rfl ⟨_, rfl, HG.out.2.1, HG.out.2.2.1, HG.out.2.2.2⟩
      refine AllReadyH.cons (o := { dst := some 23, op := Op.call { callee := Callee.value (Operand.func 60), args := #[Operand.tmp 21, Operand.tmp 22], argTypes := #[53, 74] }, type := 9, pos := "l09_pieces.go:130", after := #[{ on := 4, ground := Ground.data }, { on := 5, ground := Ground.data }, { on := 3, ground := Ground.chain }], guard := none }) rfl (fun K hK => ?_) AllReadyH.nil
      go_simp
      with_reducible refine (cT _ HX23.out.d gS 2 hS.out.1 (by have := hS.out.2; omega)).mono ?_
      rintro e wA26 ⟨rfl, dA, oA⟩
      have HX26 := Lib.hid (HX23.out.only oA dA)
      clear dA oA cT HX23 hS
      refine hK.out _ _ trivial (fun hHeldN => ?_)
      clear hK K hHeld
      have hHeld := hHeldN
      clear hHeldN
      try simp only [Act.put, List.setIfInBounds_toArray, List.set_cons_zero, List.set_cons_succ]
      refine take_yes (i := 7) (oi := { dst := some 24, op := Op.build 41 #[(0, Operand.tmp 20), (1, Operand.tmp 23)], type := 41, pos := "l09_pieces.go:130", after := #[{ on := 3, ground := Ground.data }, { on := 6, ground := Ground.data }], guard := none }) (v := .agg #[.int .i64 (z : Int), .string y]) rfl (by kernel_rfl) (by kernel_rfl) (by kernel_rfl) (fun _ _ _ h => h) (by rfl) (fun w hSw => by (try dsimp only at hSw); go_simp) (by assumption) ?_
      try simp only [Act.put, List.setIfInBounds_toArray, List.set_cons_zero, List.set_cons_succ]
      refine wpAnyH_ready (rs := [1, 8]) (by kernel_rfl) (by simp) ?_
      refine AllReadyH.cons (o := { dst := some 18, op := Op.load 24 (Operand.tmp 17), type := 24, pos := "l09_pieces.go:130", after := #[{ on := 0, ground := Ground.data }], guard := none }) rfl (fun K hK => ?_) ?_
      · obtain ⟨a0, a1, a2⟩ := HX26.out.all
        go_simp
        clear a0 a1 a2
        refine hK.out _ _ trivial (fun hHeldN => ?_)
        clear hK K hHeld
        have hHeld := hHeldN
        clear hHeldN
        try simp only [Act.put, List.setIfInBounds_toArray, List.set_cons_zero, List.set_cons_succ]
        refine wpAnyH_ready (rs := [8]) (by kernel_rfl) (by simp) ?_
        refine AllReadyH.cons (o := { dst := some 25, op := Op.buildSlice 24 1 #[(0, Operand.tmp 24)], type := 24, pos := "l09_pieces.go:130", after := #[{ on := 7, ground := Ground.data }], guard := none }) rfl (fun K hK => ?_) AllReadyH.nil
        go_simp
        have hbS := below_new wA26 (.cells #[.int .i64 (z : Int), .string y] 41)
        have hP := Lib.hid (one_rd wA26 (z : Int) y)
        have HX27 := Lib.hid (HX26.out.kept hbS)
        clear hbS HX26
        generalize wA26.heap.size = gP at *
        generalize wA26.alloc (.cells #[.int .i64 (z : Int), .string y] 41) = wP at *
        refine hK.out _ _ trivial (fun hHeldN => ?_)
        clear hK K hHeld
        have hHeld := hHeldN
        clear hHeldN
        try simp only [Act.put, List.setIfInBounds_toArray, List.set_cons_zero, List.set_cons_succ]
        refine wpAnyH_ready (rs := [9]) (by kernel_rfl) (by simp) ?_
        refine AllReadyH.cons (o := { dst := some 26, op := Op.call { callee := Callee.builtin Builtin.append, args := #[Operand.tmp 18, Operand.tmp 25], argTypes := #[24, 24] }, type := 24, pos := "l09_pieces.go:130", after := #[{ on := 1, ground := Ground.data }, { on := 8, ground := Ground.data }, { on := 6, ground := Ground.chain }], guard := none }) rfl (fun K hK => ?_) AllReadyH.nil
        refine step_append_lieN pcK rfl _ _ 24 rfl uPc (.slice ua ms.length uc) (.slice (some ⟨gP, 0, none⟩) 1 1) ms [⟨(z : Int), y⟩] rfl rfl HX27.out.l (by have h1 := HX27.out.c.lt; have h2 := HX27.out.hb; omega) HX27.out.c.lt hP.out (by simp) (by simp; omega) ?_
        intro u9 w9 hl9 hB9 hb9
        generalize hm9 : ms ++ [(⟨(z : Int), y⟩ : Pc)] = m9 at *
        clear hm9
        have K9 := Lib.hid (HX27.out.app hB9 hb9 hl9)
        obtain ⟨v1, v2, rfl⟩ := hl9.form
        clear HX27 hP hB9 hb9 hl9
        refine hK.out _ _ trivial (fun hHeldN => ?_)
        clear hK K hHeld
        have hHeld := hHeldN
        clear hHeldN
        try simp only [Act.put, List.setIfInBounds_toArray, List.set_cons_zero, List.set_cons_succ]
        refine take_yes (i := 10) (oi := { dst := some 27, op := Op.fieldAddr 26 (Operand.tmp 3) 2, type := 0, pos := "l09_pieces.go:130", after := #[{ on := 0, ground := Ground.phase }, { on := 1, ground := Ground.phase }, { on := 2, ground := Ground.phase }, { on := 3, ground := Ground.phase }, { on := 4, ground := Ground.phase }, { on := 5, ground := Ground.phase }, { on := 6, ground := Ground.phase }, { on := 7, ground := Ground.phase }, { on := 8, ground := Ground.phase }, { on := 9, ground := Ground.phase }], guard := none }) (v := .pointer (some ⟨b, 2, none⟩)) rfl (by kernel_rfl) (by kernel_rfl) (by kernel_rfl) (fun _ _ _ h => h) (by rfl) (fun w hSw => by (try dsimp only at hSw); go_simp) (by assumption) ?_
        try simp only [Act.put, List.setIfInBounds_toArray, List.set_cons_zero, List.set_cons_succ]
        refine wpAnyH_ready (rs := [11]) (by kernel_rfl) (by simp) ?_
        refine AllReadyH.cons (o := { dst := none, op := Op.store 24 (Operand.tmp 27) (Operand.tmp 26), type := 0, pos := "l09_pieces.go:130", after := #[{ on := 10, ground := Ground.data }, { on := 9, ground := Ground.data }, { on := 9, ground := Ground.chain }, { on := 0, ground := Ground.phase }, { on := 1, ground := Ground.phase }, { on := 2, ground := Ground.phase }, { on := 3, ground := Ground.phase }, { on := 4, ground := Ground.phase }, { on := 5, ground := Ground.phase }, { on := 6, ground := Ground.phase }, { on := 7, ground := Ground.phase }, { on := 8, ground := Ground.phase }, { on := 9, ground := Ground.phase }], guard := none }) rfl (fun K hK => ?_) AllReadyH.nil
        obtain ⟨a2, f2⟩ := K9.out.1
        go_simp
        have KF := Lib.hid K9.out.2
        clear K9 a2 f2
        refine hK.out _ _ trivial (fun hHeldN => ?_)
        clear hK K hHeld
        have hHeld := hHeldN
        clear hHeldN
        try simp only [Act.put, List.setIfInBounds_toArray, List.set_cons_zero, List.set_cons_succ]
        refine wpAnyH_done (by kernel_rfl) ?_ _
        clear hHeld
        go_upto_region 14 with (fail)
        generalize World.setCell _ ⟨b, 2, none⟩ _ = w5 at *
        obtain ⟨a0, a1, a2⟩ := KF.out.all
        obtain ⟨r0, r1', r2, b0, b1, b2⟩ := KF.out.rs
        have f0 := (KF.out.fr 0).2
        have f1 := (KF.out.fr 1).2
        have f2 := (KF.out.fr 2).2
        have HG := Lib.hid KF.out.give
        clear KF
        have hA := HA.out
        subst hA
        go_wp2_with (fail)
        exact bodyPost_ret (ps_result HG.out.1 rfl _ rfl) rfl ⟨_, rfl, HG.out.2.1, HG.out.2.2.1, HG.out.2.2.2⟩
      refine AllReadyH.cons (o := { dst := some 25, op := Op.buildSlice 24 1 #[(0, Operand.tmp 24)], type := 24, pos := "l09_pieces.go:130", after := #[{ on := 7, ground := Ground.data }], guard := none }) rfl (fun K hK => ?_) AllReadyH.nil
      go_simp
      have hbS := below_new wA26 (.cells #[.int .i64 (z : Int), .string y] 41)
      have hP := Lib.hid (one_rd wA26 (z : Int) y)
      have HX28 := Lib.hid (HX26.out.kept hbS)
      clear hbS HX26
      generalize wA26.heap.size = gP at *
      generalize wA26.alloc (.cells #[.int .i64 (z : Int), .string y] 41) = wP at *
      refine hK.out _ _ trivial (fun hHeldN => ?_)
      clear hK K hHeld
      have hHeld := hHeldN
      clear hHeldN
      try simp only [Act.put, List.setIfInBounds_toArray, List.set_cons_zero, List.set_cons_succ]
      refine wpAnyH_ready (rs := [1]) (by kernel_rfl) (by simp) ?_
      refine AllReadyH.cons (o := { dst := some 18, op := Op.load 24 (Operand.tmp 17), type := 24, pos := "l09_pieces.go:130", after := #[{ on := 0, ground := Ground.data }], guard := none }) rfl (fun K hK => ?_) AllReadyH.nil
      obtain ⟨a0, a1, a2⟩ := HX28.out.all
      go_simp
      clear a0 a1 a2
      refine hK.out _ _ trivial (fun hHeldN => ?_)
      clear hK K hHeld
      have hHeld := hHeldN
      clear hHeldN
      try simp only [Act.put, List.setIfInBounds_toArray, List.set_cons_zero, List.set_cons_succ]
      refine wpAnyH_ready (rs := [9]) (by kernel_rfl) (by simp) ?_
      refine AllReadyH.cons (o := { dst := some 26, op := Op.call { callee := Callee.builtin Builtin.append, args := #[Operand.tmp 18, Operand.tmp 25], argTypes := #[24, 24] }, type := 24, pos := "l09_pieces.go:130", after := #[{ on := 1, ground := Ground.data }, { on := 8, ground := Ground.data }, { on := 6, ground := Ground.chain }], guard := none }) rfl (fun K hK => ?_) AllReadyH.nil
      refine step_append_lieN pcK rfl _ _ 24 rfl uPc (.slice ua ms.length uc) (.slice (some ⟨gP, 0, none⟩) 1 1) ms [⟨(z : Int), y⟩] rfl rfl HX28.out.l (by have h1 := HX28.out.c.lt; have h2 := HX28.out.hb; omega) HX28.out.c.lt hP.out (by simp) (by simp; omega) ?_
      intro u9 w9 hl9 hB9 hb9
      generalize hm9 : ms ++ [(⟨(z : Int), y⟩ : Pc)] = m9 at *
      clear hm9
      have K9 := Lib.hid (HX28.out.app hB9 hb9 hl9)
      obtain ⟨v1, v2, rfl⟩ := hl9.form
      clear HX28 hP hB9 hb9 hl9
      refine hK.out _ _ trivial (fun hHeldN => ?_)
      clear hK K hHeld
      have hHeld := hHeldN
      clear hHeldN
      try simp only [Act.put, List.setIfInBounds_toArray, List.set_cons_zero, List.set_cons_succ]
      refine take_yes (i := 10) (oi := { dst := some 27, op := Op.fieldAddr 26 (Operand.tmp 3) 2, type := 0, pos := "l09_pieces.go:130", after := #[{ on := 0, ground := Ground.phase }, { on := 1, ground := Ground.phase }, { on := 2, ground := Ground.phase }, { on := 3, ground := Ground.phase }, { on := 4, ground := Ground.phase }, { on := 5, ground := Ground.phase }, { on := 6, ground := Ground.phase }, { on := 7, ground := Ground.phase }, { on := 8, ground := Ground.phase }, { on := 9, ground := Ground.phase }], guard := none }) (v := .pointer (some ⟨b, 2, none⟩)) rfl (by kernel_rfl) (by kernel_rfl) (by kernel_rfl) (fun _ _ _ h => h) (by rfl) (fun w hSw => by (try dsimp only at hSw); go_simp) (by assumption) ?_
      try simp only [Act.put, List.setIfInBounds_toArray, List.set_cons_zero, List.set_cons_succ]
      refine wpAnyH_ready (rs := [11]) (by kernel_rfl) (by simp) ?_
      refine AllReadyH.cons (o := { dst := none, op := Op.store 24 (Operand.tmp 27) (Operand.tmp 26), type := 0, pos := "l09_pieces.go:130", after := #[{ on := 10, ground := Ground.data }, { on := 9, ground := Ground.data }, { on := 9, ground := Ground.chain }, { on := 0, ground := Ground.phase }, { on := 1, ground := Ground.phase }, { on := 2, ground := Ground.phase }, { on := 3, ground := Ground.phase }, { on := 4, ground := Ground.phase }, { on := 5, ground := Ground.phase }, { on := 6, ground := Ground.phase }, { on := 7, ground := Ground.phase }, { on := 8, ground := Ground.phase }, { on := 9, ground := Ground.phase }], guard := none }) rfl (fun K hK => ?_) AllReadyH.nil
      obtain ⟨a2, f2⟩ := K9.out.1
      go_simp
      have KF := Lib.hid K9.out.2
      clear K9 a2 f2
      refine hK.out _ _ trivial (fun hHeldN => ?_)
      clear hK K hHeld
      have hHeld := hHeldN
      clear hHeldN
      try simp only [Act.put, List.setIfInBounds_toArray, List.set_cons_zero, List.set_cons_succ]
      refine wpAnyH_done (by kernel_rfl) ?_ _
      clear hHeld
      go_upto_region 14 with (fail)
      generalize World.setCell _ ⟨b, 2, none⟩ _ = w5 at *
      obtain ⟨a0, a1, a2⟩ := KF.out.all
      obtain ⟨r0, r1', r2, b0, b1, b2⟩ := KF.out.rs
      have f0 := (KF.out.fr 0).2
      have f1 := (KF.out.fr 1).2
      have f2 := (KF.out.fr 2).2
      have HG := Lib.hid KF.out.give
      clear KF
      have hA := HA.out
      subst hA
      go_wp2_with (fail)
      exact bodyPost_ret (ps_result HG.out.1 rfl _ rfl) rfl ⟨_, rfl, HG.out.2.1, HG.out.2.2.1, HG.out.2.2.2⟩
    · have t1 : ((q : Int) == 1) = false := by simp; omega
      have hA := (if_neg h1).symm.trans HA.out
      clear HA
      have HA := Lib.hid hA
      clear hA
      by_cases h2 : q = 2
      · have t2 : ((q : Int) == 2) = true := by simp [h2]
        have hA := (if_pos h2).symm.trans HA.out
        clear HA
        have HA := Lib.hid hA
        clear h0 h1 h2 hsm hA
        go_upto_region 8 with (fail)
        have hb3 := below_new w2 (.cells #[.int .i64 190, .int .i64 200, .int .i64 201] 3)
        have hz : g < w2.heap.size := H2.out.d.blk
        have H3 := Lib.hid (H2.out.kept hb3)
        have cp := fun h => pick_x s2 ok2 [190, 200, 201] 3 rfl (by omega) (by omega) _ g v h w2.heap.size 3 _ rfl (Cel.new w2 3 #[.int .i64 190, .int .i64 200, .int .i64 201]) (by omega)
        clear H2 hb3 hz
        have hzz : 0 ≤ ([190, 200, 201] : List Int).getD (byteR s2 % 3) 0 ∧ ([190, 200, 201] : List Int).getD (byteR s2 % 3) 0 ≤ 1000000 := by
          have : byteR s2 % 3 < 3 := Nat.mod_lt _ (by omega)
          generalize byteR s2 % 3 = j at *
          match j, this with
          | 0, _ => decide
          | 1, _ => decide
          | 2, _ => decide
        generalize hzg : ([190, 200, 201] : List Int).getD (byteR s2 % 3) 0 = z at *
        clear hzg
        go_wp2_with (fail)
        with_reducible refine (cp H3.out.d).mono ?_
        rintro e w4 ⟨rfl, d4, o4⟩
        have H4 := Lib.hid (H3.out.only o4 d4)
        clear H3 d4 o4 cp
        have cl := fun W => long_x z hzz.1 hzz.2 W
        generalize (⟨(List.replicate z.toNat (97 : UInt8)).toArray⟩ : ByteArray) = y at *
        clear hzz
        go_wp2_with (fail)
        with_reducible refine (cl _).mono ?_
        rintro e w5 ⟨rfl, hb5⟩
        have H5 := Lib.hid (H4.out.kept hb5)
        clear H4 hb5 cl
        obtain ⟨a0, a1, a2⟩ := H5.out.all
        have f1 := (H5.out.fr 1).1
        have H6 := Lib.hid (H5.out.setT y)
        clear H5
        go_upto_region 14 with (fail)
        clear a0 a1 a2 f1
        generalize w5.setCell ⟨b, 1, none⟩ (.string y) = w6 at *
        obtain ⟨a0, a1, a2⟩ := H6.out.all
        obtain ⟨r0, r1', r2, b0, b1, b2⟩ := H6.out.rs
        have f0 := (H6.out.fr 0).2
        have f1 := (H6.out.fr 1).2
        have f2 := (H6.out.fr 2).2
        have HG := Lib.hid H6.out.give
        clear H6
        have hA := HA.out
        subst hA
        go_wp2_with (fail)
        exact bodyPost_ret (ps_result HG.out.1 rfl _ rfl) rfl ⟨_, rfl, HG.out.2.1, HG.out.2.2.1, HG.out.2.2.2⟩
      · have t2 : ((q : Int) == 2) = false := by simp; omega
        have hA := (if_neg h2).symm.trans HA.out
        clear HA
        have HA := Lib.hid hA
        clear hA
        by_cases h3 : q = 3
        · have t3 : ((q : Int) == 3) = true := by simp [h3]
          have hA := (if_pos h3).symm.trans HA.out
          clear HA
          have HA := Lib.hid hA
          clear h0 h1 h2 h3 ok2 hA
          go_wp2_with (fail)
          go_loopw [4] (fun i wr => ∃ (k : Nat) (u : Value), k ≤ 20 ∧ i = .int .i64 (k : Int) ∧ Qp w wr g v s2 b r t u (ms ++ zsP k)) (fun i _ => 30 - (intOf i).toNat)
          case atStart => exact ⟨0, _, by omega, rfl, by simpa [zsP] using H2.out⟩
          case round =>
            clear H2
            obtain ⟨k, u, hk, rfl, Q⟩ := hrel
            have H3 := Lib.hid Q
            clear Q
            by_cases hlt : k < 20
            · have q1 : (k : Int) < 20 := by omega
              have e1 : IntKind.i64.wrap (2 * (k : Int)) = 2 * (k : Int) := IntWalk.i64_in _ (by omega)
              have e2 : IntKind.i64.wrap (100 + 2 * (k : Int)) = 100 + 2 * (k : Int) := IntWalk.i64_in _ (by omega)
              have e9 : IntKind.i64.wrap ((k : Int) + 1) = (k : Int) + 1 := IntWalk.i64_in _ (by omega)
              have hls := zsP_length k
              have hzs := zsP_succ k
              have HS := Lib.hid (show ms ++ zsP (k + 1) = (ms ++ zsP k) ++ [⟨100 + 2 * (k : Int), ⟨#[122]⟩⟩] by rw [hzs, List.append_assoc])
              have hlen : (ms ++ zsP k).length + 1 ≤ 1099511627776 := by rw [List.length_append, hls]; omega
              clear hls hzs
              generalize ms ++ zsP k = m1 at *
              obtain ⟨u1, u2, rfl⟩ := H3.out.l.form
              obtain ⟨a0, a1, a2⟩ := H3.out.all
              have hP := Lib.hid (one_rd wr (100 + 2 * (k : Int)) ⟨#[122]⟩)
              have H4 := Lib.hid (H3.out.kept (below_new wr (.cells #[.int .i64 (100 + 2 * (k : Int)), .string ⟨#[122]⟩] 41)))
              go_wp2_with (at_builtin; refine wpList_append_lieN pcK rfl _ _ 24 rfl uPc (.slice u1 m1.length u2) (.slice (some ⟨wr.heap.size, 0, none⟩) 1 1) m1 [⟨100 + 2 * (k : Int), ⟨#[122]⟩⟩] rfl rfl H4.out.l (by have h1 := H4.out.c.lt; have h2 := H4.out.hb; omega) H4.out.c.lt hP.out (by simp) (by simpa using hlen) ?_; intro u9 w9 hl9 hB9 hb9; generalize hm2 : m1 ++ [(⟨100 + 2 * (k : Int), ⟨#[122]⟩⟩ : Pc)] = m2 at *; clear hm2; obtain ⟨v1, v2, rfl⟩ := hl9.form; have K9 := Lib.hid (H4.out.app hB9 hb9 hl9); obtain ⟨c2, f2⟩ := K9.out.1; clear hl9 hB9 hb9 H4 hP)
              have KF := Lib.hid K9.out.2
              clear K9 H3 a0 a1 a2
              go_wp2_with (fail)
              go_roundw
              case rel => exact ⟨k + 1, _, by omega, by go_num, by rw [HS.out]; exact KF.out⟩
              case measure => simp [intOf]; omega
            · obtain rfl : k = 20 := by omega
              have q1 : ¬ ((20 : Nat) : Int) < 20 := by omega
              generalize ms ++ zsP 20 = m1 at *
              obtain ⟨u1, u2, rfl⟩ := H3.out.l.form
              obtain ⟨a0, a1, a2⟩ := H3.out.all
              obtain ⟨r0, r1', r2, b0, b1, b2⟩ := H3.out.rs
              have f0 := (H3.out.fr 0).2
              have f1 := (H3.out.fr 1).2
              have f2 := (H3.out.fr 2).2
              have HG := Lib.hid H3.out.give
              clear H3
              have hA := HA.out
              subst hA
              go_wp2_with (fail)
              exact bodyPost_ret (ps_result HG.out.1 rfl _ rfl) rfl ⟨_, rfl, HG.out.2.1, HG.out.2.2.1, HG.out.2.2.2⟩
        · have t3 : ((q : Int) == 3) = false := by simp; omega
          have hA := (if_neg h3).symm.trans HA.out
          clear HA
          have HA := Lib.hid hA
          clear h0 h1 h2 h3 ok2 hA
          obtain ⟨a0, a1, a2⟩ := H2.out.all
          obtain ⟨r0, r1', r2, b0, b1, b2⟩ := H2.out.rs
          have f0 := (H2.out.fr 0).2
          have f1 := (H2.out.fr 1).2
          have f2 := (H2.out.fr 2).2
          have HG := Lib.hid H2.out.give
          clear H2
          have hA := HA.out
          subst hA
          go_wp2_with (fail)
          exact bodyPost_ret (ps_result HG.out.1 rfl _ rfl) rfl ⟨_, rfl, HG.out.2.1, HG.out.2.2.1, HG.out.2.2.2⟩
end Go.Proofs.Ytdajfnonehianaa
