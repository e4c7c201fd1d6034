import Derived.Test.YtdajfnonehianaaPxe
import Derived.Test.YtdajfnonehianaaTyn
import Derived.Laws.ResultCell
namespace Go.Proofs.Ytdajfnonehianaa
open Go.RowKit

set_option linter.unusedSimpArgs false in
set_option maxRecDepth 100000 in
set_option maxHeartbeats 8000000 in
theorem pieces_x (s : St) (hs : StOk s) (w : World) (g : Nat) (v : Value) (hd : DrX w g v s) :
    Calls Try.prog 59 #[.pointer (some ⟨g, 0, none⟩)] w fun e w' => ∃ u, e = .returned (.agg #[.int .i64 (piecesS s).1.read, .string (piecesS s).1.ready, u]) ∧ LieE pcK w' (w.heap.size + 1) w'.heap.size u (piecesS s).1.list ∧ DrX w' g v (piecesS s).2 ∧ Grew g w w' := by
  have hg := hd.blk
  have hb0 := below_new w (.cells #[.int .i64 0, .string ⟨#[]⟩, .slice none 0 0] 26)
  have hC0 := Cel.new w 26 #[.int .i64 0, .string ⟨#[]⟩, .slice none 0 0]
  have c9 := fun W h => bel_x s hs 9 (by omega) (by omega) 9 rfl W g v h
  have hs1 := byte_ok hs
  have hbs1 := (byte_f s hs).2.2.1
  have HR := Lib.hid (show loopP 6 0 ⟨((byteR s % 9 : Nat) : Int), ⟨#[]⟩, []⟩ (byteS s) = piecesS s from rfl)
  have H0 := Lib.hid (And.intro (hd.below hb0 hg) (And.intro (Grew.of_below (g := g) hb0 (Nat.le_refl _)) hC0))
  clear hb0 hC0 hd
  generalize piecesS s = R at *
  generalize byteR s % 9 = r9 at *
  generalize byteS s = s1 at *
  go_enter Try.func59, Try.ntmps59
  go_upto_region 1 with (fail)
  generalize w.alloc (.cells #[.int .i64 0, .string ⟨#[]⟩, .slice none 0 0] 26) = w0 at *
  go_wp2_with (fail)
  with_reducible refine (c9 _ H0.out.1).mono ?_
  rintro e w1 ⟨rfl, d1, o1⟩
  have hb2 := below_new w1 (.cells #[.int .i64 (r9 : Int), .string ⟨#[]⟩, .slice none 0 0] 26)
  have hC1 := H0.out.2.2.grew o1.grew (by omega)
  have Q2 : Qp w (w1.alloc (.cells #[.int .i64 (r9 : Int), .string ⟨#[]⟩, .slice none 0 0] 26)) g v s1 w1.heap.size (r9 : Int) ⟨#[]⟩ (.slice none 0 0) [] :=
    ⟨d1.below hb2 d1.blk, (H0.out.2.1.trans o1.grew).trans (Grew.of_below (g := g) hb2 (Nat.le_refl _)), Cel.new _ _ _, LieN.nil, ⟨_, _, _, hC1.kept hb2⟩, hC1.lt, hg⟩
  have H2 := Lib.hid Q2
  clear H0 d1 o1 hb2 hC1 Q2 c9
  go_upto_region 3 with (fail)
  obtain ⟨b, hb⟩ : ∃ b, w1.heap.size = b := ⟨_, rfl⟩
  rw [hb] at H2 ⊢
  generalize w1.alloc (.cells #[.int .i64 (r9 : Int), .string ⟨#[]⟩, .slice none 0 0] 26) = w2 at *
  clear hb
  obtain ⟨p1, hp1⟩ : ∃ p1 : Ps, p1 = ⟨(r9 : Int), ⟨#[]⟩, []⟩ := ⟨_, rfl⟩
  have H3 : Hid (loopP 6 0 p1 s1 = R ∧ SmallP p1 ∧ Qp w w2 g v s1 b p1.read p1.ready (.slice none 0 0) p1.list) := by
    rw [hp1]
    exact Lib.hid ⟨HR.out, ⟨by simp [sumP, ByteArray.size], by simp⟩, H2.out⟩
  clear HR H2 hp1
  go_wp2_with (fail)
  go_loopw [4] (fun i wr => ∃ (k : Nat) (p : Ps) (s' : St) (u : Value), k ≤ 5 ∧ i = .int .i64 (k : Int) ∧ Hid (loopP (6 - k) k p s' = R) ∧ SmallP p ∧ StOk s' ∧ Qp w wr g v s' b p.read p.ready u p.list) (fun i _ => 10 - (intOf i).toNat)
  case atStart => exact ⟨0, p1, s1, _, by omega, rfl, Lib.hid H3.out.1, H3.out.2.1, hs1, H3.out.2.2⟩
  case round =>
    clear H3 hs1 hbs1
    obtain ⟨k, p, s', u, hk, rfl, hL, hsm, hok, Q⟩ := hrel
    have c6 := fun W h => bel_x s' hok 6 (by omega) (by omega) 6 rfl W g v h
    have hr6 : byteR s' % 6 < 6 := Nat.mod_lt _ (by omega)
    have hL2 : loopP (5 - k + 1) k p s' = R := by rw [show 5 - k + 1 = 6 - k by omega]; exact hL.out
    unfold loopP at hL2
    have ok1 := byte_ok hok
    obtain ⟨n1, n2, -⟩ := rnd_ok (byteS s') ok1 p hsm
    have HL := Lib.hid hL2
    have HQ := Lib.hid Q
    clear hL hL2 Q
    unfold rndP at HL n1 n2
    generalize byteR s' % 6 = r at *
    generalize byteS s' = s1 at *
    go_wp2_with (fail)
    with_reducible refine (c6 _ HQ.out.d).mono ?_
    rintro e w3 ⟨rfl, d3, o3⟩
    have H4 := Lib.hid (HQ.out.only o3 d3)
    clear HQ d3 o3 c6
    by_cases hlt : k < r
    · have q1 : (k : Int) < (r : Int) := by omega
      have e9 : IntKind.i64.wrap ((k : Int) + 1) = (k : Int) + 1 := IntWalk.i64_in _ (by omega)
      have HL1 := Lib.hid ((if_pos hlt).symm.trans HL.out)
      have ok2 := byte_ok ok1
      have ok3 := byte_ok ok2
      have c50 := fun W h => bel_x s1 ok1 50 (by omega) (by omega) 50 rfl W g v h
      have c12 := fun W h => bel_x (byteS s1) ok2 12 (by omega) (by omega) 12 rfl W g v h
      have hr12 : byteR (byteS s1) % 12 < 12 := Nat.mod_lt _ (by omega)
      have ct := fun W h => txt_x (byteS (byteS s1)) ok3 (1 + byteR (byteS s1) % 12) (by omega) (1 + ((byteR (byteS s1) % 12 : Nat) : Int)) (by omega) W g v h
      have e12 : IntKind.i64.wrap (1 + ((byteR (byteS s1) % 12 : Nat) : Int)) = 1 + ((byteR (byteS s1) % 12 : Nat) : Int) := IntWalk.i64_in _ (by omega)
      have hk1 : k + 1 ≤ 5 := by omega
      have HN := Lib.hid (And.intro n1 n2)
      clear HL n1 n2 ok1 ok2 ok3 hok hr12 hr6 hlt
      generalize textT (byteS (byteS s1)) (1 + byteR (byteS s1) % 12) = tx at *
      generalize (textL (byteS (byteS s1)) (1 + byteR (byteS s1) % 12)).2 = s4 at *
      generalize byteR (byteS s1) % 12 = r12 at *
      generalize byteS (byteS s1) = s3 at *
      generalize byteS s1 = s2 at *
      generalize byteR s1 % 50 = r50 at *
      have cP := fun uu W h => spec_putPiece p.read p.ready uu p.list (r50 : Int) tx W h (by unfold SmallP at hsm; omega) (by unfold SmallP at hsm; omega)
      have hpe : (⟨p.read, p.ready, p.list⟩ : Ps) = p := rfl
      rw [hpe] at cP
      generalize putPiece p (r50 : Int) tx = p2 at *
      clear hpe hsm
      go_upto_region 5 with (fail)
      have H4 := Lib.hid H4.out.drew
      refine wp_region_held_drew (S := fun W => True) (by kernel_rfl) trivial (fun hHeld => ?_)
      refine take_yes (i := 1) (oi := { dst := some 15, op := Op.move (Operand.tmp 0), type := 53, pos := "l09_pieces.go:119", after := #[], guard := none }) (v := .pointer (some ⟨g, 0, none⟩)) rfl (by kernel_rfl) (by kernel_rfl) (by kernel_rfl) (fun _ _ _ h => h) (by rfl) (fun w hSw => by (try dsimp only at hSw); go_simp) (by assumption) ?_
      try simp only [Act.put, List.setIfInBounds_toArray, List.set_cons_zero, List.set_cons_succ]
      refine take_yes (i := 3) (oi := { dst := some 17, op := Op.move (Operand.tmp 0), type := 53, pos := "l09_pieces.go:119", after := #[], guard := none }) (v := .pointer (some ⟨g, 0, none⟩)) rfl (by kernel_rfl) (by kernel_rfl) (by kernel_rfl) (fun _ _ _ h => h) (by rfl) (fun w hSw => by (try dsimp only at hSw); go_simp) (by assumption) ?_
      try simp only [Act.put, List.setIfInBounds_toArray, List.set_cons_zero, List.set_cons_succ]
      refine take_yes (i := 4) (oi := { dst := some 18, op := Op.move (Operand.tmp 0), type := 53, pos := "l09_pieces.go:119", after := #[], guard := none }) (v := .pointer (some ⟨g, 0, none⟩)) rfl (by kernel_rfl) (by kernel_rfl) (by kernel_rfl) (fun _ _ _ h => h) (by rfl) (fun w hSw => by (try dsimp only at hSw); go_simp) (by assumption) ?_
      try simp only [Act.put, List.setIfInBounds_toArray, List.set_cons_zero, List.set_cons_succ]
      refine wpAnyH_ready (rs := [0, 2]) (by kernel_rfl) (by simp) ?_
      refine AllReadyH.cons (o := { dst := some 14, op := Op.load 26 (Operand.tmp 3), type := 26, pos := "l09_pieces.go:119", after := #[], guard := none }) rfl (fun K hK => ?_) ?_
      · obtain ⟨a0, a1, a2⟩ := H4.out.all
        go_simp
        clear a0 a1 a2
        refine hK.out _ _ trivial (fun hHeldN => ?_)
        clear hK K hHeld
        have hHeld := hHeldN
        clear hHeldN
        try simp only [Act.put, List.setIfInBounds_toArray, List.set_cons_zero, List.set_cons_succ]
        refine wpAnyH_ready (rs := [2]) (by kernel_rfl) (by simp) ?_
        refine AllReadyH.cons (o := { dst := some 16, op := Op.call { callee := Callee.value (Operand.func 38), args := #[Operand.tmp 15, Operand.const (Value.int IntKind.i64 50)], argTypes := #[53, 3] }, type := 3, pos := "l09_pieces.go:119", after := #[{ on := 1, ground := Ground.data }], guard := none }) rfl (fun K hK => ?_) AllReadyH.nil
        go_simp
        with_reducible refine (c50 _ H4.out.d).mono ?_
        rintro e wA ⟨rfl, dA, oA⟩
        have HA := Lib.hid (H4.out.only oA dA)
        clear dA oA H4 c50
        refine hK.out _ _ trivial (fun hHeldN => ?_)
        clear hK K hHeld
        have hHeld := hHeldN
        clear hHeldN
        try simp only [Act.put, List.setIfInBounds_toArray, List.set_cons_zero, List.set_cons_succ]
        refine wpAnyH_ready (rs := [5]) (by kernel_rfl) (by simp) ?_
        refine AllReadyH.cons (o := { dst := some 19, op := Op.call { callee := Callee.value (Operand.func 38), args := #[Operand.tmp 18, Operand.const (Value.int IntKind.i64 12)], argTypes := #[53, 3] }, type := 3, pos := "l09_pieces.go:119", after := #[{ on := 4, ground := Ground.data }, { on := 2, ground := Ground.chain }], guard := none }) rfl (fun K hK => ?_) AllReadyH.nil
        go_simp
        with_reducible refine (c12 _ HA.out.d).mono ?_
        rintro e wB ⟨rfl, dA, oA⟩
        have HB := Lib.hid (HA.out.only oA dA)
        clear dA oA HA c12
        refine hK.out _ _ trivial (fun hHeldN => ?_)
        clear hK K hHeld
        have hHeld := hHeldN
        clear hHeldN
        try simp only [Act.put, List.setIfInBounds_toArray, List.set_cons_zero, List.set_cons_succ]
        refine take_yes (i := 6) (oi := { dst := some 20, op := Op.binOp BinOp.add 3 (Operand.const (Value.int IntKind.i64 1)) (Operand.tmp 19) 3, type := 3, pos := "l09_pieces.go:119", after := #[{ on := 5, ground := Ground.data }], guard := none }) (v := .int .i64 (1 + (r12 : Int))) rfl (by kernel_rfl) (by kernel_rfl) (by kernel_rfl) (fun _ _ _ h => h) (by rfl) (fun w hSw => by (try dsimp only at hSw); go_simp) (by assumption) ?_
        try simp only [Act.put, List.setIfInBounds_toArray, List.set_cons_zero, List.set_cons_succ]
        refine wpAnyH_ready (rs := [7]) (by kernel_rfl) (by simp) ?_
        refine AllReadyH.cons (o := { dst := some 21, op := Op.call { callee := Callee.value (Operand.func 39), args := #[Operand.tmp 17, Operand.tmp 20], argTypes := #[53, 3] }, type := 9, pos := "l09_pieces.go:119", after := #[{ on := 3, ground := Ground.data }, { on := 6, ground := Ground.data }, { on := 5, ground := Ground.chain }], guard := none }) rfl (fun K hK => ?_) AllReadyH.nil
        go_simp
        with_reducible refine (ct _ HB.out.d).mono ?_
        rintro e wC ⟨rfl, dA, oA⟩
        have HC := Lib.hid (HB.out.grew oA dA)
        clear dA oA HB ct
        refine hK.out _ _ trivial (fun hHeldN => ?_)
        clear hK K hHeld
        have hHeld := hHeldN
        clear hHeldN
        try simp only [Act.put, List.setIfInBounds_toArray, List.set_cons_zero, List.set_cons_succ]
        refine wpAnyH_ready (rs := [8]) (by kernel_rfl) (by simp) ?_
        refine AllReadyH.cons (o := { dst := some 22, op := Op.call { callee := Callee.value (Operand.func 15), args := #[Operand.tmp 14, Operand.tmp 16, Operand.tmp 21], argTypes := #[26, 3, 9] }, type := 26, pos := "l09_pieces.go:119", after := #[{ on := 0, ground := Ground.data }, { on := 2, ground := Ground.data }, { on := 7, ground := Ground.data }, { on := 7, ground := Ground.chain }], guard := none }) rfl (fun K hK => ?_) AllReadyH.nil
        go_simp
        with_reducible refine (cP _ _ HC.out.l.rd).mono ?_
        rintro e wD ⟨u2, rfl, hlD, hbD⟩
        have hltb : b < wC.heap.size := HC.out.c.lt
        have HD := Lib.hid (And.intro (HC.out.kept hbD) (LieN.of_lie (b := b) (lo := w.heap.size) hlD (by have := HC.out.hb; omega) (fun j hj _ => by omega)))
        clear hbD hlD HC cP hltb
        refine hK.out _ _ trivial (fun hHeldN => ?_)
        clear hK K hHeld
        have hHeld := hHeldN
        clear hHeldN
        try simp only [Act.put, List.setIfInBounds_toArray, List.set_cons_zero, List.set_cons_succ]
        refine wpAnyH_ready (rs := [9]) (by kernel_rfl) (by simp) ?_
        refine AllReadyH.cons (o := { dst := none, op := Op.store 26 (Operand.tmp 3) (Operand.tmp 22), type := 0, pos := "l09_pieces.go:119", after := #[{ on := 8, ground := Ground.data }, { on := 8, ground := Ground.chain }, { on := 0, ground := Ground.phase }, { on := 1, ground := Ground.phase }, { on := 2, ground := Ground.phase }, { on := 3, ground := Ground.phase }, { on := 4, ground := Ground.phase }, { on := 5, ground := Ground.phase }, { on := 6, ground := Ground.phase }, { on := 7, ground := Ground.phase }, { on := 8, ground := Ground.phase }], guard := none }) rfl (fun K hK => ?_) AllReadyH.nil
        obtain ⟨ua, uc, rfl⟩ := HD.out.2.form
        obtain ⟨a0, a1, a2⟩ := HD.out.1.all
        have f0 := (HD.out.1.fr 0).1
        have f1 := (HD.out.1.fr 1).1
        have f2 := (HD.out.1.fr 2).1
        go_simp
        have HE := Lib.hid (HD.out.1.put p2.read p2.ready HD.out.2)
        clear HD a0 a1 a2 f0 f1 f2
        refine hK.out _ _ trivial (fun hHeldN => ?_)
        clear hK K hHeld
        have hHeld := hHeldN
        clear hHeldN
        try simp only [Act.put, List.setIfInBounds_toArray, List.set_cons_zero, List.set_cons_succ]
        refine wpAnyH_done (by kernel_rfl) ?_ _
        clear hHeld
        go_wp2_with (fail)
        go_roundw
        case rel => exact ⟨k + 1, p2, s4, _, by omega, by go_num, Lib.hid (by rw [show 6 - (k + 1) = 5 - k by omega]; exact HL1.out), HN.out.1, HN.out.2, HE.out⟩
        case measure => simp [intOf]; omega
      refine AllReadyH.cons (o := { dst := some 16, op := Op.call { callee := Callee.value (Operand.func 38), args := #[Operand.tmp 15, Operand.const (Value.int IntKind.i64 50)], argTypes := #[53, 3] }, type := 3, pos := "l09_pieces.go:119", after := #[{ on := 1, ground := Ground.data }], guard := none }) rfl (fun K hK => ?_) AllReadyH.nil
      go_simp
      with_reducible refine (c50 _ H4.out.d).mono ?_
      rintro e wA ⟨rfl, dA, oA⟩
      have HA := Lib.hid (H4.out.only oA dA)
      clear dA oA H4 c50
      refine hK.out _ _ trivial (fun hHeldN => ?_)
      clear hK K hHeld
      have hHeld := hHeldN
      clear hHeldN
      try simp only [Act.put, List.setIfInBounds_toArray, List.set_cons_zero, List.set_cons_succ]
      refine wpAnyH_ready (rs := [0, 5]) (by kernel_rfl) (by simp) ?_
      refine AllReadyH.cons (o := { dst := some 14, op := Op.load 26 (Operand.tmp 3), type := 26, pos := "l09_pieces.go:119", after := #[], guard := none }) rfl (fun K hK => ?_) ?_
      · obtain ⟨a0, a1, a2⟩ := HA.out.all
        go_simp
        clear a0 a1 a2
        refine hK.out _ _ trivial (fun hHeldN => ?_)
        clear hK K hHeld
        have hHeld := hHeldN
        clear hHeldN
        try simp only [Act.put, List.setIfInBounds_toArray, List.set_cons_zero, List.set_cons_succ]
        refine wpAnyH_ready (rs := [5]) (by kernel_rfl) (by simp) ?_
        refine AllReadyH.cons (o := { dst := some 19, op := Op.call { callee := Callee.value (Operand.func 38), args := #[Operand.tmp 18, Operand.const (Value.int IntKind.i64 12)], argTypes := #[53, 3] }, type := 3, pos := "l09_pieces.go:119", after := #[{ on := 4, ground := Ground.data }, { on := 2, ground := Ground.chain }], guard := none }) rfl (fun K hK => ?_) AllReadyH.nil
        go_simp
        with_reducible refine (c12 _ HA.out.d).mono ?_
        rintro e wB ⟨rfl, dA, oA⟩
        have HB := Lib.hid (HA.out.only oA dA)
        clear dA oA HA c12
        refine hK.out _ _ trivial (fun hHeldN => ?_)
        clear hK K hHeld
        have hHeld := hHeldN
        clear hHeldN
        try simp only [Act.put, List.setIfInBounds_toArray, List.set_cons_zero, List.set_cons_succ]
        refine take_yes (i := 6) (oi := { dst := some 20, op := Op.binOp BinOp.add 3 (Operand.const (Value.int IntKind.i64 1)) (Operand.tmp 19) 3, type := 3, pos := "l09_pieces.go:119", after := #[{ on := 5, ground := Ground.data }], guard := none }) (v := .int .i64 (1 + (r12 : Int))) rfl (by kernel_rfl) (by kernel_rfl) (by kernel_rfl) (fun _ _ _ h => h) (by rfl) (fun w hSw => by (try dsimp only at hSw); go_simp) (by assumption) ?_
        try simp only [Act.put, List.setIfInBounds_toArray, List.set_cons_zero, List.set_cons_succ]
        refine wpAnyH_ready (rs := [7]) (by kernel_rfl) (by simp) ?_
        refine AllReadyH.cons (o := { dst := some 21, op := Op.call { callee := Callee.value (Operand.func 39), args := #[Operand.tmp 17, Operand.tmp 20], argTypes := #[53, 3] }, type := 9, pos := "l09_pieces.go:119", after := #[{ on := 3, ground := Ground.data }, { on := 6, ground := Ground.data }, { on := 5, ground := Ground.chain }], guard := none }) rfl (fun K hK => ?_) AllReadyH.nil
        go_simp
        with_reducible refine (ct _ HB.out.d).mono ?_
        rintro e wC ⟨rfl, dA, oA⟩
        have HC := Lib.hid (HB.out.grew oA dA)
        clear dA oA HB ct
        refine hK.out _ _ trivial (fun hHeldN => ?_)
        clear hK K hHeld
        have hHeld := hHeldN
        clear hHeldN
        try simp only [Act.put, List.setIfInBounds_toArray, List.set_cons_zero, List.set_cons_succ]
        refine wpAnyH_ready (rs := [8]) (by kernel_rfl) (by simp) ?_
        refine AllReadyH.cons (o := { dst := some 22, op := Op.call { callee := Callee.value (Operand.func 15), args := #[Operand.tmp 14, Operand.tmp 16, Operand.tmp 21], argTypes := #[26, 3, 9] }, type := 26, pos := "l09_pieces.go:119", after := #[{ on := 0, ground := Ground.data }, { on := 2, ground := Ground.data }, { on := 7, ground := Ground.data }, { on := 7, ground := Ground.chain }], guard := none }) rfl (fun K hK => ?_) AllReadyH.nil
        go_simp
        with_reducible refine (cP _ _ HC.out.l.rd).mono ?_
        rintro e wD ⟨u2, rfl, hlD, hbD⟩
        have hltb : b < wC.heap.size := HC.out.c.lt
        have HD := Lib.hid (And.intro (HC.out.kept hbD) (LieN.of_lie (b := b) (lo := w.heap.size) hlD (by have := HC.out.hb; omega) (fun j hj _ => by omega)))
        clear hbD hlD HC cP hltb
        refine hK.out _ _ trivial (fun hHeldN => ?_)
        clear hK K hHeld
        have hHeld := hHeldN
        clear hHeldN
        try simp only [Act.put, List.setIfInBounds_toArray, List.set_cons_zero, List.set_cons_succ]
        refine wpAnyH_ready (rs := [9]) (by kernel_rfl) (by simp) ?_
        refine AllReadyH.cons (o := { dst := none, op := Op.store 26 (Operand.tmp 3) (Operand.tmp 22), type := 0, pos := "l09_pieces.go:119", after := #[{ on := 8, ground := Ground.data }, { on := 8, ground := Ground.chain }, { on := 0, ground := Ground.phase }, { on := 1, ground := Ground.phase }, { on := 2, ground := Ground.phase }, { on := 3, ground := Ground.phase }, { on := 4, ground := Ground.phase }, { on := 5, ground := Ground.phase }, { on := 6, ground := Ground.phase }, { on := 7, ground := Ground.phase }, { on := 8, ground := Ground.phase }], guard := none }) rfl (fun K hK => ?_) AllReadyH.nil
        obtain ⟨ua, uc, rfl⟩ := HD.out.2.form
        obtain ⟨a0, a1, a2⟩ := HD.out.1.all
        have f0 := (HD.out.1.fr 0).1
        have f1 := (HD.out.1.fr 1).1
        have f2 := (HD.out.1.fr 2).1
        go_simp
        have HE := Lib.hid (HD.out.1.put p2.read p2.ready HD.out.2)
        clear HD a0 a1 a2 f0 f1 f2
        refine hK.out _ _ trivial (fun hHeldN => ?_)
        clear hK K hHeld
        have hHeld := hHeldN
        clear hHeldN
        try simp only [Act.put, List.setIfInBounds_toArray, List.set_cons_zero, List.set_cons_succ]
        refine wpAnyH_done (by kernel_rfl) ?_ _
        clear hHeld
        go_wp2_with (fail)
        go_roundw
        case rel => exact ⟨k + 1, p2, s4, _, by omega, by go_num, Lib.hid (by rw [show 6 - (k + 1) = 5 - k by omega]; exact HL1.out), HN.out.1, HN.out.2, HE.out⟩
        case measure => simp [intOf]; omega
      refine AllReadyH.cons (o := { dst := some 19, op := Op.call { callee := Callee.value (Operand.func 38), args := #[Operand.tmp 18, Operand.const (Value.int IntKind.i64 12)], argTypes := #[53, 3] }, type := 3, pos := "l09_pieces.go:119", after := #[{ on := 4, ground := Ground.data }, { on := 2, ground := Ground.chain }], guard := none }) rfl (fun K hK => ?_) AllReadyH.nil
      go_simp
      with_reducible refine (c12 _ HA.out.d).mono ?_
      rintro e wB ⟨rfl, dA, oA⟩
      have HB := Lib.hid (HA.out.only oA dA)
      clear dA oA HA c12
      refine hK.out _ _ trivial (fun hHeldN => ?_)
      clear hK K hHeld
      have hHeld := hHeldN
      clear hHeldN
      try simp only [Act.put, List.setIfInBounds_toArray, List.set_cons_zero, List.set_cons_succ]
      refine take_yes (i := 6) (oi := { dst := some 20, op := Op.binOp BinOp.add 3 (Operand.const (Value.int IntKind.i64 1)) (Operand.tmp 19) 3, type := 3, pos := "l09_pieces.go:119", after := #[{ on := 5, ground := Ground.data }], guard := none }) (v := .int .i64 (1 + (r12 : Int))) rfl (by kernel_rfl) (by kernel_rfl) (by kernel_rfl) (fun _ _ _ h => h) (by rfl) (fun w hSw => by (try dsimp only at hSw); go_simp) (by assumption) ?_
      try simp only [Act.put, List.setIfInBounds_toArray, List.set_cons_zero, List.set_cons_succ]
      refine wpAnyH_ready (rs := [0, 7]) (by kernel_rfl) (by simp) ?_
      refine AllReadyH.cons (o := { dst := some 14, op := Op.load 26 (Operand.tmp 3), type := 26, pos := "l09_pieces.go:119", after := #[], guard := none }) rfl (fun K hK => ?_) ?_
      · obtain ⟨a0, a1, a2⟩ := HB.out.all
        go_simp
        clear a0 a1 a2
        refine hK.out _ _ trivial (fun hHeldN => ?_)
        clear hK K hHeld
        have hHeld := hHeldN
        clear hHeldN
        try simp only [Act.put, List.setIfInBounds_toArray, List.set_cons_zero, List.set_cons_succ]
        refine wpAnyH_ready (rs := [7]) (by kernel_rfl) (by simp) ?_
        refine AllReadyH.cons (o := { dst := some 21, op := Op.call { callee := Callee.value (Operand.func 39), args := #[Operand.tmp 17, Operand.tmp 20], argTypes := #[53, 3] }, type := 9, pos := "l09_pieces.go:119", after := #[{ on := 3, ground := Ground.data }, { on := 6, ground := Ground.data }, { on := 5, ground := Ground.chain }], guard := none }) rfl (fun K hK => ?_) AllReadyH.nil
        go_simp
        with_reducible refine (ct _ HB.out.d).mono ?_
        rintro e wC ⟨rfl, dA, oA⟩
        have HC := Lib.hid (HB.out.grew oA dA)
        clear dA oA HB ct
        refine hK.out _ _ trivial (fun hHeldN => ?_)
        clear hK K hHeld
        have hHeld := hHeldN
        clear hHeldN
        try simp only [Act.put, List.setIfInBounds_toArray, List.set_cons_zero, List.set_cons_succ]
        refine wpAnyH_ready (rs := [8]) (by kernel_rfl) (by simp) ?_
        refine AllReadyH.cons (o := { dst := some 22, op := Op.call { callee := Callee.value (Operand.func 15), args := #[Operand.tmp 14, Operand.tmp 16, Operand.tmp 21], argTypes := #[26, 3, 9] }, type := 26, pos := "l09_pieces.go:119", after := #[{ on := 0, ground := Ground.data }, { on := 2, ground := Ground.data }, { on := 7, ground := Ground.data }, { on := 7, ground := Ground.chain }], guard := none }) rfl (fun K hK => ?_) AllReadyH.nil
        go_simp
        with_reducible refine (cP _ _ HC.out.l.rd).mono ?_
        rintro e wD ⟨u2, rfl, hlD, hbD⟩
        have hltb : b < wC.heap.size := HC.out.c.lt
        have HD := Lib.hid (And.intro (HC.out.kept hbD) (LieN.of_lie (b := b) (lo := w.heap.size) hlD (by have := HC.out.hb; omega) (fun j hj _ => by omega)))
        clear hbD hlD HC cP hltb
        refine hK.out _ _ trivial (fun hHeldN => ?_)
        clear hK K hHeld
        have hHeld := hHeldN
        clear hHeldN
        try simp only [Act.put, List.setIfInBounds_toArray, List.set_cons_zero, List.set_cons_succ]
        refine wpAnyH_ready (rs := [9]) (by kernel_rfl) (by simp) ?_
        refine AllReadyH.cons (o := { dst := none, op := Op.store 26 (Operand.tmp 3) (Operand.tmp 22), type := 0, pos := "l09_pieces.go:119", after := #[{ on := 8, ground := Ground.data }, { on := 8, ground := Ground.chain }, { on := 0, ground := Ground.phase }, { on := 1, ground := Ground.phase }, { on := 2, ground := Ground.phase }, { on := 3, ground := Ground.phase }, { on := 4, ground := Ground.phase }, { on := 5, ground := Ground.phase }, { on := 6, ground := Ground.phase }, { on := 7, ground := Ground.phase }, { on := 8, ground := Ground.phase }], guard := none }) rfl (fun K hK => ?_) AllReadyH.nil
        obtain ⟨ua, uc, rfl⟩ := HD.out.2.form
        obtain ⟨a0, a1, a2⟩ := HD.out.1.all
        have f0 := (HD.out.1.fr 0).1
        have f1 := (HD.out.1.fr 1).1
        have f2 := (HD.out.1.fr 2).1
        go_simp
        have HE := Lib.hid (HD.out.1.put p2.read p2.ready HD.out.2)
        clear HD a0 a1 a2 f0 f1 f2
        refine hK.out _ _ trivial (fun hHeldN => ?_)
        clear hK K hHeld
        have hHeld := hHeldN
        clear hHeldN
        try simp only [Act.put, List.setIfInBounds_toArray, List.set_cons_zero, List.set_cons_succ]
        refine wpAnyH_done (by kernel_rfl) ?_ _
        clear hHeld
        go_wp2_with (fail)
        go_roundw
        case rel => exact ⟨k + 1, p2, s4, _, by omega, by go_num, Lib.hid (by rw [show 6 - (k + 1) = 5 - k by omega]; exact HL1.out), HN.out.1, HN.out.2, HE.out⟩
        case measure => simp [intOf]; omega
      refine AllReadyH.cons (o := { dst := some 21, op := Op.call { callee := Callee.value (Operand.func 39), args := #[Operand.tmp 17, Operand.tmp 20], argTypes := #[53, 3] }, type := 9, pos := "l09_pieces.go:119", after := #[{ on := 3, ground := Ground.data }, { on := 6, ground := Ground.data }, { on := 5, ground := Ground.chain }], guard := none }) rfl (fun K hK => ?_) AllReadyH.nil
      go_simp
      with_reducible refine (ct _ HB.out.d).mono ?_
      rintro e wC ⟨rfl, dA, oA⟩
      have HC := Lib.hid (HB.out.grew oA dA)
      clear dA oA HB ct
      refine hK.out _ _ trivial (fun hHeldN => ?_)
      clear hK K hHeld
      have hHeld := hHeldN
      clear hHeldN
      try simp only [Act.put, List.setIfInBounds_toArray, List.set_cons_zero, List.set_cons_succ]
      refine wpAnyH_ready (rs := [0]) (by kernel_rfl) (by simp) ?_
      refine AllReadyH.cons (o := { dst := some 14, op := Op.load 26 (Operand.tmp 3), type := 26, pos := "l09_pieces.go:119", after := #[], guard := none }) rfl (fun K hK => ?_) AllReadyH.nil
      obtain ⟨a0, a1, a2⟩ := HC.out.all
      go_simp
      clear a0 a1 a2
      refine hK.out _ _ trivial (fun hHeldN => ?_)
      clear hK K hHeld
      have hHeld := hHeldN
      clear hHeldN
      try simp only [Act.put, List.setIfInBounds_toArray, List.set_cons_zero, List.set_cons_succ]
      refine wpAnyH_ready (rs := [8]) (by kernel_rfl) (by simp) ?_
      refine AllReadyH.cons (o := { dst := some 22, op := Op.call { callee := Callee.value (Operand.func 15), args := #[Operand.tmp 14, Operand.tmp 16, Operand.tmp 21], argTypes := #[26, 3, 9] }, type := 26, pos := "l09_pieces.go:119", after := #[{ on := 0, ground := Ground.data }, { on := 2, ground := Ground.data }, { on := 7, ground := Ground.data }, { on := 7, ground := Ground.chain }], guard := none }) rfl (fun K hK => ?_) AllReadyH.nil
      go_simp
      with_reducible refine (cP _ _ HC.out.l.rd).mono ?_
      rintro e wD ⟨u2, rfl, hlD, hbD⟩
      have hltb : b < wC.heap.size := HC.out.c.lt
      have HD := Lib.hid (And.intro (HC.out.kept hbD) (LieN.of_lie (b := b) (lo := w.heap.size) hlD (by have := HC.out.hb; omega) (fun j hj _ => by omega)))
      clear hbD hlD HC cP hltb
      refine hK.out _ _ trivial (fun hHeldN => ?_)
      clear hK K hHeld
      have hHeld := hHeldN
      clear hHeldN
      try simp only [Act.put, List.setIfInBounds_toArray, List.set_cons_zero, List.set_cons_succ]
      refine wpAnyH_ready (rs := [9]) (by kernel_rfl) (by simp) ?_
      refine AllReadyH.cons (o := { dst := none, op := Op.store 26 (Operand.tmp 3) (Operand.tmp 22), type := 0, pos := "l09_pieces.go:119", after := #[{ on := 8, ground := Ground.data }, { on := 8, ground := Ground.chain }, { on := 0, ground := Ground.phase }, { on := 1, ground := Ground.phase }, { on := 2, ground := Ground.phase }, { on := 3, ground := Ground.phase }, { on := 4, ground := Ground.phase }, { on := 5, ground := Ground.phase }, { on := 6, ground := Ground.phase }, { on := 7, ground := Ground.phase }, { on := 8, ground := Ground.phase }], guard := none }) rfl (fun K hK => ?_) AllReadyH.nil
      obtain ⟨ua, uc, rfl⟩ := HD.out.2.form
      obtain ⟨a0, a1, a2⟩ := HD.out.1.all
      have f0 := (HD.out.1.fr 0).1
      have f1 := (HD.out.1.fr 1).1
      have f2 := (HD.out.1.fr 2).1
      go_simp
      have HE := Lib.hid (HD.out.1.put p2.read p2.ready HD.out.2)
      clear HD a0 a1 a2 f0 f1 f2
      refine hK.out _ _ trivial (fun hHeldN => ?_)
      clear hK K hHeld
      have hHeld := hHeldN
      clear hHeldN
      try simp only [Act.put, List.setIfInBounds_toArray, List.set_cons_zero, List.set_cons_succ]
      refine wpAnyH_done (by kernel_rfl) ?_ _
      clear hHeld
      go_wp2_with (fail)
      go_roundw
      case rel => exact ⟨k + 1, p2, s4, _, by omega, by go_num, Lib.hid (by rw [show 6 - (k + 1) = 5 - k by omega]; exact HL1.out), HN.out.1, HN.out.2, HE.out⟩
      case measure => simp [intOf]; omega
    · have q1 : ¬ (k : Int) < (r : Int) := by omega
      have hR := (if_neg hlt).symm.trans HL.out
      subst hR
      obtain ⟨ua, uc, rfl⟩ := H4.out.l.form
      obtain ⟨a0, a1, a2⟩ := H4.out.all
      obtain ⟨r0, r1', r2, b0, b1, b2⟩ := H4.out.rs
      have f0 := (H4.out.fr 0).2
      have f1 := (H4.out.fr 1).2
      have f2 := (H4.out.fr 2).2
      have HG := Lib.hid H4.out.give
      clear H4 HL n1 n2 ok1 hok hsm
      go_wp2_with (fail)
      exact bodyPost_ret (ps_result HG.out.1 rfl _ rfl) rfl ⟨_, rfl, HG.out.2.1, HG.out.2.2.1, HG.out.2.2.2⟩
end Go.Proofs.Ytdajfnonehianaa
