import Derived.Test.YtdajfnonehianaaPwi
namespace Go.Proofs.Ytdajfnonehianaa
open Go.RowKit

theorem tk4_cell {w W : World} {g : Nat} {r : Int} {t : ByteArray} {v : Value} (h : Tk4 w W r t v) (hg : w.heap.size + 2 ≤ g) (i : Nat) (x : Value) : Tk4 w (W.setCell ⟨g, i, none⟩ x) r t v := by
  obtain ⟨y0, y1, y2, hy⟩ := h.res
  exact ⟨h.box.other _ _ (by simp; omega), ⟨_, _, _, hy.other _ _ (by simp; omega)⟩, h.below.setCell (p := ⟨g, i, none⟩) (by simp; omega) _⟩
theorem tk4_cells {w W : World} {g : Nat} {r : Int} {t : ByteArray} {v : Value} (h : Tk4 w W r t v) (hg : w.heap.size + 2 ≤ g) (x y z : Value) : Tk4 w (((W.setCell ⟨g, 0, none⟩ x).setCell ⟨g, 1, none⟩ y).setCell ⟨g, 2, none⟩ z) r t v :=
  tk4_cell (tk4_cell (tk4_cell h hg 0 x) hg 1 y) hg 2 z

set_option maxRecDepth 100000 in
set_option maxHeartbeats 16000000 in
theorem impl_putPiece (r : Int) (t : ByteArray) (v : Value) (ms : List Pc) (at_ : Int) (text : ByteArray) (B C : Nat) (w : World) (hv : LieE pcK w B C v ms) (hs : t.size + sumP ms ≤ 2097152) (hn : ms.length ≤ 2097152) (htx : text.size ≤ 2097152) :
    Calls Try.prog 13 #[.agg #[.int .i64 r, .string t, v], .int .i64 at_, .string text] w fun e w' => ∃ u, e = .returned (.agg #[.int .i64 (putPiece ⟨r, t, ms⟩ at_ text).read, .string (putPiece ⟨r, t, ms⟩ at_ text).ready, u]) ∧ OwnP w' w.heap.size w'.heap.size u (putPiece ⟨r, t, ms⟩ at_ text).list ∧ Below w.heap.size w w' := by
  have H0 := Lib.hid (tk_start w r t v)
  have cO := fun W h => impl_piecesOk r t v ms W h (by omega) (by omega)
  have cC := fun W h => impl_copyP r t v ms W h (by omega) (by omega)
  have cA := fun W => impl_within at_ 0 1000000000 W
  have cL := fun W => impl_within (text.size : Int) 1 200 W
  have cN := fun W => impl_nextOf r t v W
  have hpo : piecesOk ⟨r, t, ms⟩ = true → (0 ≤ r ∧ r ≤ 1000000000) ∧ ms.length ≤ 20 ∧ t.size + sumP ms ≤ 200 ∧ okP (r + (t.size : Int)) ms = true := fun h => by
    unfold piecesOk heldP nextP at h
    simp only at h
    split at h
    · rename_i h1
      exact ⟨⟨h1.1, h1.2.1⟩, h1.2.2.1, h1.2.2.2, h⟩
    · cases h
  obtain ⟨res, hres⟩ : ∃ res, putPiece ⟨r, t, ms⟩ at_ text = res := ⟨_, rfl⟩
  rw [hres]
  unfold putPiece mayPut at hres
  have hv0 := hv
  obtain ⟨a, c, rfl, -⟩ := hv.form
  clear hv
  have hv := hv0
  clear hv0
  cases hok : piecesOk ⟨r, t, ms⟩ with
  | false =>
    rw [if_neg (fun h => by have := h.1.1; rw [hok] at this; cases this)] at hres
    subst hres
    rw [hok] at cO
    clear hpo hok hs hn htx cA cL cN
    go_enter Try.func13, Try.ntmps13
    go_wp2_with (fail)
    with_reducible refine (cO _ (hv.below H0.out.below).rd).mono ?_
    rintro e w3 ⟨rfl, hb3⟩
    have h3 := Lib.hid (H0.out.kept hb3)
    obtain ⟨b0, b1, b2⟩ := cel3' h3.out.box
    clear hb3 cO H0
    go_wp2_with (fail)
    with_reducible refine (cC _ (hv.below h3.out.below).rd).mono ?_
    rintro e w9 ⟨u9, rfl, hO9, hb9⟩
    obtain ⟨ya, yc, rfl, -⟩ := hO9.form
    have k9 := h3.out.kept hb9
    obtain ⟨x0, x1, x2, hz⟩ := k9.res
    obtain ⟨d0, d1, d2⟩ := cel3' hz
    have j0 := hz.frozen 0
    have j1 := hz.frozen 1
    have j2 := hz.frozen 2
    have far9 := tk4_far h3.out
    obtain ⟨p1, p2, p3⟩ := ps_fin (r := r) (t := t) hz k9.below (Nat.le_succ _) hO9 (by omega)
    have HF := Lib.hid (And.intro p1 (And.intro p2 (p3.mono (B' := w.heap.size) (by omega) (Nat.le_refl _))))
    clear k9 hO9 hb9 hz p1 p2 p3
    go_wp2_with (fail)
    obtain ⟨p1, p2, p3⟩ := HF.out
    refine bodyPost_ret (ps_result p1 rfl _ rfl) rfl ⟨_, rfl, p3, p2⟩
  | true =>
    obtain ⟨hr0, hml, hsum, hokp⟩ := hpo hok
    rw [hok] at cO
    clear hpo hs hn
    by_cases c2 : 0 ≤ at_ ∧ at_ ≤ 1000000000
    · rw [decide_eq_true c2] at cA
      by_cases c3 : (1 : Int) ≤ (text.size : Int) ∧ (text.size : Int) ≤ 200
      · rw [decide_eq_true c3] at cL
        obtain ⟨nx, hnx0⟩ : ∃ nx, r + (t.size : Int) = nx := ⟨_, rfl⟩
        have hnx : IntKind.i64.wrap (r + (t.size : Int)) = nx := (IntWalk.i64_in _ (by omega)).trans hnx0
        rw [hnx] at cN
        obtain ⟨sk, hsk⟩ : ∃ sk, nx - at_ = sk := ⟨_, rfl⟩
        have e1 : IntKind.i64.wrap (nx - at_) = sk := (IntWalk.i64_in _ (by omega)).trans hsk
        have cB := fun W => impl_brought sk 0 (text.size : Int) W
        obtain ⟨kn, hkn⟩ : ∃ kn, max 0 (min sk (text.size : Int)) = kn := ⟨_, rfl⟩
        rw [hkn] at cB
        by_cases c4 : sk < (text.size : Int)
        · obtain ⟨P, hP0⟩ : ∃ P, longerP ⟨r, t, ms⟩ at_ text = P := ⟨_, rfl⟩
          rw [hP0] at hres
          have hres2 : (if piecesOk P = true then P else ⟨r, t, ms⟩) = res := by
            rw [← hres]
            by_cases hp : piecesOk P = true
            · rw [if_pos hp, if_pos ⟨⟨hok, c2, ⟨by omega, by omega⟩, by rw [show nextP ⟨r, t, ms⟩ = nx from hnx0]; omega⟩, hp⟩]
            · rw [if_neg hp, if_neg (fun h => hp h.2)]
          clear hres
          obtain ⟨xp, hxp⟩ : ∃ xp, at_ + kn = xp := ⟨_, rfl⟩
          have e2 : IntKind.i64.wrap (at_ + kn) = xp := (IntWalk.i64_in _ (by omega)).trans hxp
          have sl1 := fun W => cut_from text kn (by omega) (by omega) W
          obtain ⟨tx, htx0⟩ : ∃ tx, text.extract kn.toNat text.size = tx := ⟨_, rfl⟩
          have hts : tx.size = text.size - kn.toNat := by rw [← htx0, ByteArray.size_extract]; omega
          rw [htx0] at sl1
          have hnew : newP ⟨r, t, ms⟩ at_ text = ⟨xp, tx⟩ := by
            unfold newP
            rw [show nextP ⟨r, t, ms⟩ = nx from hnx0, hsk]
            by_cases hs0 : 0 < sk
            · rw [if_pos hs0, ← htx0, show kn = sk by omega]
              congr 1
              omega
            · rw [if_neg hs0, ← htx0, show kn = 0 by omega, show (0 : Int).toNat = 0 from rfl, ext_whole]
              congr 1
              omega
          unfold longerP at hP0
          rw [hnew] at hP0
          simp only at hP0
          have hxs : (⟨xp, tx⟩ : Pc).text.size ≠ 0 := by simp only; omega
          have hok0 := okP_less hokp (show (0 : Int) ≤ r + (t.size : Int) by omega)
          obtain ⟨s1, s2⟩ := putS_sum ⟨xp, tx⟩ (fin_lt hxs) ms 0 hok0
          simp only at s1
          have hPs : P.ready.size + sumP P.list ≤ 2097152 ∧ P.list.length ≤ 1000 := by
            rw [← hP0]
            unfold settle
            cases hF : putS ⟨xp, tx⟩ false ms with
            | nil => simp only [sumP]; simp; omega
            | cons f fr =>
              rw [hF] at s1 s2
              simp only [sumP, List.length_cons] at s1 s2
              simp only
              split
              · simp only [ByteArray.size_append]
                omega
              · simp only [sumP, List.length_cons]
                omega
          have cW := fun W h => impl_with r t (.slice a ms.length c) ms ⟨xp, tx⟩ B C W h hr0 (by omega) hxs (by simp only; omega) hok0 (by simp only; omega) (by omega)
          rw [hP0] at cW
          simp only at cW
          have cO2 := fun u W h => impl_piecesOk P.read P.ready u P.list W h (by omega) (by omega)
          have cC2 := fun u W h => impl_copyP P.read P.ready u P.list W h (by omega) (by omega)
          rw [show (⟨P.read, P.ready, P.list⟩ : Ps) = P from rfl] at cO2
          generalize piecesOk P = ok2 at *
          have HR := Lib.hid hres2
          have q4 : ¬ kn = (text.size : Int) := by omega
          have q5 : (kn == (text.size : Int)) = false := by rw [beq_eq_false_iff_ne]; exact q4
          clear hres2 hP0 hok hr0 hml hsum hokp hnx0 hsk hkn hxp htx0 hts hnew hxs hok0 s1 s2 hPs htx
          go_enter Try.func13, Try.ntmps13
          go_wp2_with (fail)
          with_reducible refine (cO _ (hv.below H0.out.below).rd).mono ?_
          rintro e w3 ⟨rfl, hb3⟩
          have h3 := Lib.hid (H0.out.kept hb3)
          obtain ⟨b0, b1, b2⟩ := cel3' h3.out.box
          clear hb3 cO H0
          go_wp2_with (fail)
          with_reducible refine (cA _).mono ?_
          rintro e w4 ⟨rfl, rfl⟩
          clear cA
          go_wp2_with (fail)
          with_reducible refine (cL _).mono ?_
          rintro e w4 ⟨rfl, rfl⟩
          clear cL
          go_wp2_with (fail)
          with_reducible refine (cN _).mono ?_
          rintro e w5 ⟨rfl, hb5⟩
          have h5 := Lib.hid (h3.out.kept hb5)
          clear b0 b1 b2 hb5 cN h3
          obtain ⟨b0, b1, b2⟩ := cel3' h5.out.box
          go_wp2_with (fail)
          with_reducible refine (cB _).mono ?_
          rintro e w6 ⟨rfl, rfl⟩
          clear cB
          have K5 := tk4_all h5.out.drew
          go_wp2_with (fail)
          refine wp_region_held_drew (S := fun W => W.cell? ⟨w.heap.size, 0, none⟩ = some (.int .i64 r) ∧ W.cell? ⟨w.heap.size, 1, none⟩ = some (.string t) ∧ W.cell? ⟨w.heap.size, 2, none⟩ = some (.slice a ms.length c) ∧ Tk4 w W r t (.slice a ms.length c)) (by kernel_rfl) K5 (fun hHeld => ?_)
          refine take_yes (i := 0) (oi := { dst := some 38, op := Op.load 26 (Operand.tmp 3), type := 26, pos := "l09_pieces.go:50", after := #[], guard := none }) (v := .agg #[.int .i64 r, .string t, .slice a ms.length c]) rfl (by kernel_rfl) (by kernel_rfl) (by kernel_rfl) (fun _ _ _ h => h) (by rfl) (fun w hSw => by (try dsimp only at hSw); go_simp) (by assumption) ?_
          try simp only [Act.put, List.setIfInBounds_toArray, List.set_cons_zero, List.set_cons_succ]
          refine take_yes (i := 1) (oi := { dst := some 39, op := Op.move (Operand.tmp 1), type := 3, pos := "l09_pieces.go:50", after := #[], guard := none }) (v := .int .i64 at_) rfl (by kernel_rfl) (by kernel_rfl) (by kernel_rfl) (fun _ _ _ h => h) (by rfl) (fun w hSw => by (try dsimp only at hSw); go_simp) (by assumption) ?_
          try simp only [Act.put, List.setIfInBounds_toArray, List.set_cons_zero, List.set_cons_succ]
          refine take_yes (i := 2) (oi := { dst := some 40, op := Op.move (Operand.tmp 7), type := 3, pos := "l09_pieces.go:50", after := #[], guard := none }) (v := .int .i64 kn) rfl (by kernel_rfl) (by kernel_rfl) (by kernel_rfl) (fun _ _ _ h => h) (by rfl) (fun w hSw => by (try dsimp only at hSw); go_simp) (by assumption) ?_
          try simp only [Act.put, List.setIfInBounds_toArray, List.set_cons_zero, List.set_cons_succ]
          refine take_yes (i := 3) (oi := { dst := some 41, op := Op.binOp BinOp.add 3 (Operand.tmp 39) (Operand.tmp 40) 3, type := 3, pos := "l09_pieces.go:50", after := #[{ on := 1, ground := Ground.data }, { on := 2, ground := Ground.data }], guard := none }) (v := .int .i64 xp) rfl (by kernel_rfl) (by kernel_rfl) (by kernel_rfl) (fun _ _ _ h => h) (by rfl) (fun w hSw => by (try dsimp only at hSw); go_simp) (by assumption) ?_
          try simp only [Act.put, List.setIfInBounds_toArray, List.set_cons_zero, List.set_cons_succ]
          refine take_yes (i := 4) (oi := { dst := some 42, op := Op.move (Operand.tmp 2), type := 9, pos := "l09_pieces.go:50", after := #[], guard := none }) (v := .string text) rfl (by kernel_rfl) (by kernel_rfl) (by kernel_rfl) (fun _ _ _ h => h) (by rfl) (fun w hSw => by (try dsimp only at hSw); go_simp) (by assumption) ?_
          try simp only [Act.put, List.setIfInBounds_toArray, List.set_cons_zero, List.set_cons_succ]
          refine take_yes (i := 5) (oi := { dst := some 43, op := Op.move (Operand.tmp 7), type := 3, pos := "l09_pieces.go:50", after := #[], guard := none }) (v := .int .i64 kn) rfl (by kernel_rfl) (by kernel_rfl) (by kernel_rfl) (fun _ _ _ h => h) (by rfl) (fun w hSw => by (try dsimp only at hSw); go_simp) (by assumption) ?_
          try simp only [Act.put, List.setIfInBounds_toArray, List.set_cons_zero, List.set_cons_succ]
          refine take_yes (i := 6) (oi := { dst := some 44, op := Op.slice 9 (Operand.tmp 42) (some (Operand.tmp 43)) none none, type := 9, pos := "l09_pieces.go:50", after := #[{ on := 4, ground := Ground.data }, { on := 5, ground := Ground.data }], guard := none }) (v := .string tx) rfl (by kernel_rfl) (by kernel_rfl) (by kernel_rfl) (fun _ _ _ h => h) (by rfl) (fun w hSw => by (try dsimp only at hSw); go_simp) (by assumption) ?_
          try simp only [Act.put, List.setIfInBounds_toArray, List.set_cons_zero, List.set_cons_succ]
          refine take_yes (i := 7) (oi := { dst := some 45, op := Op.build 41 #[(0, Operand.tmp 41), (1, Operand.tmp 44)], type := 41, pos := "l09_pieces.go:50", after := #[{ on := 3, ground := Ground.data }, { on := 6, ground := Ground.data }], guard := none }) (v := .agg #[.int .i64 xp, .string tx]) rfl (by kernel_rfl) (by kernel_rfl) (by kernel_rfl) (fun _ _ _ h => h) (by rfl) (fun w hSw => by (try dsimp only at hSw); go_simp) (by assumption) ?_
          try simp only [Act.put, List.setIfInBounds_toArray, List.set_cons_zero, List.set_cons_succ]
          refine wpAnyH_ready (rs := [8, 9]) (by kernel_rfl) (by simp) ?_
          refine AllReadyH.cons (o := { dst := some 46, op := Op.call { callee := Callee.value (Operand.func 44), args := #[Operand.tmp 38, Operand.tmp 45], argTypes := #[26, 41] }, type := 26, pos := "l09_pieces.go:50", after := #[{ on := 0, ground := Ground.data }, { on := 7, ground := Ground.data }], guard := none }) rfl (fun K hK => ?_) ?_
          · go_simp
            with_reducible refine (cW _ (hv.below hHeld.2.2.2.below)).mono ?_
            rintro e w7 ⟨u7, rfl, hL7, hb7⟩
            obtain ⟨ua, uc, rfl, -⟩ := hL7.form
            have K7 := tk4_all (hHeld.2.2.2.kept hb7)
            refine hK.out _ _ K7 (fun hHeldN => ?_)
            clear hK K hHeld
            have hHeld := hHeldN
            clear hHeldN
            try simp only [Act.put, List.setIfInBounds_toArray, List.set_cons_zero, List.set_cons_succ]
            refine wpAnyH_ready (rs := [9]) (by kernel_rfl) (by simp) ?_
            refine AllReadyH.cons (o := { dst := some 8, op := Op.alloc 26, type := 0, pos := "l09_pieces.go:50", after := #[], guard := none }) rfl (fun K hK => ?_) AllReadyH.nil
            go_simp
            have K8 := tk4_all (hHeld.2.2.2.kept (below_new w7 (.cells #[.int .i64 0, .string ⟨#[]⟩, .slice none 0 0] 26)))
            have hz8 := Cel.new w7 26 #[.int .i64 0, .string ⟨#[]⟩, .slice none 0 0]
            refine hK.out _ _ K8 (fun hHeldN => ?_)
            clear hK K hHeld
            have hHeld := hHeldN
            clear hHeldN
            try simp only [Act.put, List.setIfInBounds_toArray, List.set_cons_zero, List.set_cons_succ]
            refine wpAnyH_ready (rs := [10]) (by kernel_rfl) (by simp) ?_
            refine AllReadyH.cons (o := { dst := none, op := Op.store 26 (Operand.tmp 8) (Operand.tmp 46), type := 0, pos := "l09_pieces.go:50", after := #[{ on := 9, ground := Ground.data }, { on := 8, ground := Ground.data }, { on := 8, ground := Ground.chain }, { on := 0, ground := Ground.phase }, { on := 1, ground := Ground.phase }, { on := 2, ground := Ground.phase }, { on := 3, ground := Ground.phase }, { on := 4, ground := Ground.phase }, { on := 5, ground := Ground.phase }, { on := 6, ground := Ground.phase }, { on := 7, ground := Ground.phase }, { on := 8, ground := Ground.phase }, { on := 9, ground := Ground.phase }], guard := none }) rfl (fun K hK => ?_) AllReadyH.nil
            obtain ⟨d0, d1, d2⟩ := cel3' hz8
            have j0 := hz8.frozen 0
            have j1 := hz8.frozen 1
            have j2 := hz8.frozen 2
            go_simp
            have hbn := below_new w7 (.cells #[.int .i64 P.read, .string P.ready, .slice ua P.list.length uc] 26)
            have K10 := tk4_all (K7.2.2.2.kept hbn)
            have hT := Lib.hid (show Tk4 w (w7.alloc (.cells #[.int .i64 P.read, .string P.ready, .slice ua P.list.length uc] 26)) r t (.slice a ms.length c) ∧ Cel (w7.alloc (.cells #[.int .i64 P.read, .string P.ready, .slice ua P.list.length uc] 26)) w7.heap.size 26 #[.int .i64 P.read, .string P.ready, .slice ua P.list.length uc] ∧ LieE pcK (w7.alloc (.cells #[.int .i64 P.read, .string P.ready, .slice ua P.list.length uc] 26)) 0 (w7.alloc (.cells #[.int .i64 P.read, .string P.ready, .slice ua P.list.length uc] 26)).heap.size (.slice ua P.list.length uc) P.list from ⟨K10.2.2.2, Cel.new _ _ _, (hL7.keep hbn (Nat.le_refl _)).mono (Nat.zero_le _) (by simp)⟩)
            clear hz8 d0 d1 d2 j0 j1 j2 hbn
            refine hK.out _ _ K10 (fun hHeldN => ?_)
            clear hK K hHeld
            have hHeld := hHeldN
            clear hHeldN
            try simp only [Act.put, List.setIfInBounds_toArray, List.set_cons_zero, List.set_cons_succ]
            refine wpAnyH_done (by kernel_rfl) ?_ _
            clear hHeld
            clear K5 K7 K8 K10 hb7 hL7 b0 b1 b2 cW
            generalize w7.alloc (.cells #[.int .i64 P.read, .string P.ready, .slice ua P.list.length uc] 26) = wf at *
            generalize w7.heap.size = g8 at *
            obtain ⟨o0, o1, o2⟩ := cel3' hT.out.2.1
            have x7 := hT.out.2.2.rd
            go_wp2_with (fail)
            with_reducible refine (cO2 _ _ x7).mono ?_
            rintro e w11 ⟨rfl, hb11⟩
            have h8 := Lib.hid (hT.out.1.kept hb11)
            obtain ⟨b0, b1, b2⟩ := cel3' h8.out.box
            have o11 := hT.out.2.1.kept hb11
            have l11 := (hT.out.2.2.below hb11).rd
            clear o0 o1 o2 x7 hb11 hT cO2
            obtain ⟨o0, o1, o2⟩ := cel3' o11
            have L11 := Lib.hid l11
            clear o11 l11
            cases ok2 with
            | false =>
              have hres := HR.out
              rw [if_neg Bool.false_ne_true] at hres
              subst hres
              go_wp2_with (fail)
              with_reducible refine (cC _ (hv.below h8.out.below).rd).mono ?_
              rintro e w9 ⟨u9, rfl, hO9, hb9⟩
              obtain ⟨ya, yc, rfl, -⟩ := hO9.form
              have k9 := h8.out.kept hb9
              obtain ⟨x0, x1, x2, hz⟩ := k9.res
              obtain ⟨d0, d1, d2⟩ := cel3' hz
              have j0 := hz.frozen 0
              have j1 := hz.frozen 1
              have j2 := hz.frozen 2
              have far9 := tk4_far h8.out
              obtain ⟨p1, p2, p3⟩ := ps_fin (r := r) (t := t) hz k9.below (Nat.le_succ _) hO9 (by omega)
              have HF := Lib.hid (And.intro p1 (And.intro p2 (p3.mono (B' := w.heap.size) (by omega) (Nat.le_refl _))))
              clear k9 hO9 hb9 hz p1 p2 p3
              go_wp2_with (fail)
              obtain ⟨p1, p2, p3⟩ := HF.out
              refine bodyPost_ret (ps_result p1 rfl _ rfl) rfl ⟨_, rfl, p3, p2⟩
            | true =>
              have hres := HR.out
              rw [if_pos rfl] at hres
              subst hres
              go_wp2_with (fail)
              with_reducible refine (cC2 _ _ L11.out).mono ?_
              rintro e w9 ⟨u9, rfl, hO9, hb9⟩
              obtain ⟨ya, yc, rfl, -⟩ := hO9.form
              have k9 := h8.out.kept hb9
              obtain ⟨x0, x1, x2, hz⟩ := k9.res
              obtain ⟨d0, d1, d2⟩ := cel3' hz
              have j0 := hz.frozen 0
              have j1 := hz.frozen 1
              have j2 := hz.frozen 2
              have far9 := tk4_far h8.out
              obtain ⟨p1, p2, p3⟩ := ps_fin (r := P.read) (t := P.ready) hz k9.below (Nat.le_succ _) hO9 (by omega)
              have HF := Lib.hid (And.intro p1 (And.intro p2 (p3.mono (B' := w.heap.size) (by omega) (Nat.le_refl _))))
              clear k9 hO9 hb9 hz p1 p2 p3
              go_wp2_with (fail)
              obtain ⟨p1, p2, p3⟩ := HF.out
              refine bodyPost_ret (ps_result p1 rfl _ rfl) rfl ⟨_, rfl, p3, p2⟩
          · refine AllReadyH.cons (o := { dst := some 8, op := Op.alloc 26, type := 0, pos := "l09_pieces.go:50", after := #[], guard := none }) rfl (fun K hK => ?_) AllReadyH.nil
            go_simp
            have K8 := tk4_all (hHeld.2.2.2.kept (below_new w5.drew (.cells #[.int .i64 0, .string ⟨#[]⟩, .slice none 0 0] 26)))
            have hz8 : Cel (w5.drew.alloc (.cells #[.int .i64 0, .string ⟨#[]⟩, .slice none 0 0] 26)) w5.heap.size 26 #[.int .i64 0, .string ⟨#[]⟩, .slice none 0 0] := Cel.new w5.drew 26 #[.int .i64 0, .string ⟨#[]⟩, .slice none 0 0]
            have far6 : w.heap.size + 2 ≤ w5.heap.size := tk4_far h5.out
            refine hK.out _ _ K8 (fun hHeldN => ?_)
            clear hK K hHeld
            have hHeld := hHeldN
            clear hHeldN
            try simp only [Act.put, List.setIfInBounds_toArray, List.set_cons_zero, List.set_cons_succ]
            refine wpAnyH_ready (rs := [8]) (by kernel_rfl) (by simp) ?_
            refine AllReadyH.cons (o := { dst := some 46, op := Op.call { callee := Callee.value (Operand.func 44), args := #[Operand.tmp 38, Operand.tmp 45], argTypes := #[26, 41] }, type := 26, pos := "l09_pieces.go:50", after := #[{ on := 0, ground := Ground.data }, { on := 7, ground := Ground.data }], guard := none }) rfl (fun K hK => ?_) AllReadyH.nil
            go_simp
            with_reducible refine (cW _ (hv.below hHeld.2.2.2.below)).mono ?_
            rintro e w7 ⟨u7, rfl, hL7, hb7⟩
            obtain ⟨ua, uc, rfl, -⟩ := hL7.form
            have K7 := tk4_all (hHeld.2.2.2.kept hb7)
            have hz7 : Cel w7 w5.heap.size 26 #[.int .i64 0, .string ⟨#[]⟩, .slice none 0 0] := Cel.below hz8 hb7 hz8.lt
            have hg7 := hz8.lt
            refine hK.out _ _ K7 (fun hHeldN => ?_)
            clear hK K hHeld
            have hHeld := hHeldN
            clear hHeldN
            try simp only [Act.put, List.setIfInBounds_toArray, List.set_cons_zero, List.set_cons_succ]
            refine wpAnyH_ready (rs := [10]) (by kernel_rfl) (by simp) ?_
            refine AllReadyH.cons (o := { dst := none, op := Op.store 26 (Operand.tmp 8) (Operand.tmp 46), type := 0, pos := "l09_pieces.go:50", after := #[{ on := 9, ground := Ground.data }, { on := 8, ground := Ground.data }, { on := 8, ground := Ground.chain }, { on := 0, ground := Ground.phase }, { on := 1, ground := Ground.phase }, { on := 2, ground := Ground.phase }, { on := 3, ground := Ground.phase }, { on := 4, ground := Ground.phase }, { on := 5, ground := Ground.phase }, { on := 6, ground := Ground.phase }, { on := 7, ground := Ground.phase }, { on := 8, ground := Ground.phase }, { on := 9, ground := Ground.phase }], guard := none }) rfl (fun K hK => ?_) AllReadyH.nil
            obtain ⟨d0, d1, d2⟩ := cel3' hz7
            have j0 := hz7.frozen 0
            have j1 := hz7.frozen 1
            have j2 := hz7.frozen 2
            go_simp
            have q1 := tk4_cells (g := w5.heap.size) K7.2.2.2 far6 (.int .i64 P.read) (.string P.ready) (.slice ua P.list.length uc)
            obtain ⟨q2, -, q3⟩ := pl_fin (r := P.read) (t := P.ready) hz7 K7.2.2.2.below (by omega) hL7 (Nat.le_refl _) hg7
            have K10 := tk4_all q1
            have hT := Lib.hid (And.intro q1 (And.intro q2 (q3.mono (Nat.zero_le _) (Nat.le_refl _))))
            clear q1 q2 q3 d0 d1 d2 j0 j1 j2
            refine hK.out _ _ K10 (fun hHeldN => ?_)
            clear hK K hHeld
            have hHeld := hHeldN
            clear hHeldN
            try simp only [Act.put, List.setIfInBounds_toArray, List.set_cons_zero, List.set_cons_succ]
            refine wpAnyH_done (by kernel_rfl) ?_ _
            clear hHeld
            clear K5 K7 K8 K10 hb7 hL7 b0 b1 b2 cW hz7 hz8 hg7 far6
            generalize (((w7.setCell ⟨w5.heap.size, 0, none⟩ (.int .i64 P.read)).setCell ⟨w5.heap.size, 1, none⟩ (.string P.ready)).setCell ⟨w5.heap.size, 2, none⟩ (.slice ua P.list.length uc)) = wf at *
            generalize w5.heap.size = g8 at *
            obtain ⟨o0, o1, o2⟩ := cel3' hT.out.2.1
            have x7 := hT.out.2.2.rd
            go_wp2_with (fail)
            with_reducible refine (cO2 _ _ x7).mono ?_
            rintro e w11 ⟨rfl, hb11⟩
            have h8 := Lib.hid (hT.out.1.kept hb11)
            obtain ⟨b0, b1, b2⟩ := cel3' h8.out.box
            have o11 := hT.out.2.1.kept hb11
            have l11 := (hT.out.2.2.below hb11).rd
            clear o0 o1 o2 x7 hb11 hT cO2
            obtain ⟨o0, o1, o2⟩ := cel3' o11
            have L11 := Lib.hid l11
            clear o11 l11
            cases ok2 with
            | false =>
              have hres := HR.out
              rw [if_neg Bool.false_ne_true] at hres
              subst hres
              go_wp2_with (fail)
              with_reducible refine (cC _ (hv.below h8.out.below).rd).mono ?_
              rintro e w9 ⟨u9, rfl, hO9, hb9⟩
              obtain ⟨ya, yc, rfl, -⟩ := hO9.form
              have k9 := h8.out.kept hb9
              obtain ⟨x0, x1, x2, hz⟩ := k9.res
              obtain ⟨d0, d1, d2⟩ := cel3' hz
              have j0 := hz.frozen 0
              have j1 := hz.frozen 1
              have j2 := hz.frozen 2
              have far9 := tk4_far h8.out
              obtain ⟨p1, p2, p3⟩ := ps_fin (r := r) (t := t) hz k9.below (Nat.le_succ _) hO9 (by omega)
              have HF := Lib.hid (And.intro p1 (And.intro p2 (p3.mono (B' := w.heap.size) (by omega) (Nat.le_refl _))))
              clear k9 hO9 hb9 hz p1 p2 p3
              go_wp2_with (fail)
              obtain ⟨p1, p2, p3⟩ := HF.out
              refine bodyPost_ret (ps_result p1 rfl _ rfl) rfl ⟨_, rfl, p3, p2⟩
            | true =>
              have hres := HR.out
              rw [if_pos rfl] at hres
              subst hres
              go_wp2_with (fail)
              with_reducible refine (cC2 _ _ L11.out).mono ?_
              rintro e w9 ⟨u9, rfl, hO9, hb9⟩
              obtain ⟨ya, yc, rfl, -⟩ := hO9.form
              have k9 := h8.out.kept hb9
              obtain ⟨x0, x1, x2, hz⟩ := k9.res
              obtain ⟨d0, d1, d2⟩ := cel3' hz
              have j0 := hz.frozen 0
              have j1 := hz.frozen 1
              have j2 := hz.frozen 2
              have far9 := tk4_far h8.out
              obtain ⟨p1, p2, p3⟩ := ps_fin (r := P.read) (t := P.ready) hz k9.below (Nat.le_succ _) hO9 (by omega)
              have HF := Lib.hid (And.intro p1 (And.intro p2 (p3.mono (B' := w.heap.size) (by omega) (Nat.le_refl _))))
              clear k9 hO9 hb9 hz p1 p2 p3
              go_wp2_with (fail)
              obtain ⟨p1, p2, p3⟩ := HF.out
              refine bodyPost_ret (ps_result p1 rfl _ rfl) rfl ⟨_, rfl, p3, p2⟩
        · rw [if_neg (fun h => by have := h.1.2.2.2; rw [show nextP ⟨r, t, ms⟩ = nx from hnx0] at this; omega)] at hres
          subst hres
          obtain rfl : kn = (text.size : Int) := by omega
          clear hok hr0 hml hsum hokp hnx0 hsk htx hkn
          go_enter Try.func13, Try.ntmps13
          go_wp2_with (fail)
          with_reducible refine (cO _ (hv.below H0.out.below).rd).mono ?_
          rintro e w3 ⟨rfl, hb3⟩
          have h3 := Lib.hid (H0.out.kept hb3)
          obtain ⟨b0, b1, b2⟩ := cel3' h3.out.box
          clear hb3 cO H0
          go_wp2_with (fail)
          with_reducible refine (cA _).mono ?_
          rintro e w4 ⟨rfl, rfl⟩
          clear cA
          go_wp2_with (fail)
          with_reducible refine (cL _).mono ?_
          rintro e w4 ⟨rfl, rfl⟩
          clear cL
          go_wp2_with (fail)
          with_reducible refine (cN _).mono ?_
          rintro e w5 ⟨rfl, hb5⟩
          have h5 := Lib.hid (h3.out.kept hb5)
          clear b0 b1 b2 hb5 cN h3
          obtain ⟨b0, b1, b2⟩ := cel3' h5.out.box
          go_wp2_with (fail)
          with_reducible refine (cB _).mono ?_
          rintro e w6 ⟨rfl, rfl⟩
          clear cB
          go_wp2_with (fail)
          with_reducible refine (cC _ (hv.below h5.out.below).rd).mono ?_
          rintro e w9 ⟨u9, rfl, hO9, hb9⟩
          obtain ⟨ya, yc, rfl, -⟩ := hO9.form
          have k9 := h5.out.kept hb9
          obtain ⟨x0, x1, x2, hz⟩ := k9.res
          obtain ⟨d0, d1, d2⟩ := cel3' hz
          have j0 := hz.frozen 0
          have j1 := hz.frozen 1
          have j2 := hz.frozen 2
          have far9 := tk4_far h5.out
          obtain ⟨p1, p2, p3⟩ := ps_fin (r := r) (t := t) hz k9.below (Nat.le_succ _) hO9 (by omega)
          have HF := Lib.hid (And.intro p1 (And.intro p2 (p3.mono (B' := w.heap.size) (by omega) (Nat.le_refl _))))
          clear k9 hO9 hb9 hz p1 p2 p3
          go_wp2_with (fail)
          obtain ⟨p1, p2, p3⟩ := HF.out
          refine bodyPost_ret (ps_result p1 rfl _ rfl) rfl ⟨_, rfl, p3, p2⟩
      · rw [decide_eq_false c3] at cL
        rw [if_neg (fun h => by have := h.1.2.2.1; omega)] at hres
        subst hres
        clear hok hr0 hml hsum hokp cN htx
        go_enter Try.func13, Try.ntmps13
        go_wp2_with (fail)
        with_reducible refine (cO _ (hv.below H0.out.below).rd).mono ?_
        rintro e w3 ⟨rfl, hb3⟩
        have h3 := Lib.hid (H0.out.kept hb3)
        obtain ⟨b0, b1, b2⟩ := cel3' h3.out.box
        clear hb3 cO H0
        go_wp2_with (fail)
        with_reducible refine (cA _).mono ?_
        rintro e w4 ⟨rfl, rfl⟩
        clear cA
        go_wp2_with (fail)
        with_reducible refine (cL _).mono ?_
        rintro e w4 ⟨rfl, rfl⟩
        clear cL
        go_wp2_with (fail)
        with_reducible refine (cC _ (hv.below h3.out.below).rd).mono ?_
        rintro e w9 ⟨u9, rfl, hO9, hb9⟩
        obtain ⟨ya, yc, rfl, -⟩ := hO9.form
        have k9 := h3.out.kept hb9
        obtain ⟨x0, x1, x2, hz⟩ := k9.res
        obtain ⟨d0, d1, d2⟩ := cel3' hz
        have j0 := hz.frozen 0
        have j1 := hz.frozen 1
        have j2 := hz.frozen 2
        have far9 := tk4_far h3.out
        obtain ⟨p1, p2, p3⟩ := ps_fin (r := r) (t := t) hz k9.below (Nat.le_succ _) hO9 (by omega)
        have HF := Lib.hid (And.intro p1 (And.intro p2 (p3.mono (B' := w.heap.size) (by omega) (Nat.le_refl _))))
        clear k9 hO9 hb9 hz p1 p2 p3
        go_wp2_with (fail)
        obtain ⟨p1, p2, p3⟩ := HF.out
        refine bodyPost_ret (ps_result p1 rfl _ rfl) rfl ⟨_, rfl, p3, p2⟩
    · rw [decide_eq_false c2] at cA
      rw [if_neg (fun h => by have := h.1.2.1; omega)] at hres
      subst hres
      clear hok hr0 hml hsum hokp cL cN htx
      go_enter Try.func13, Try.ntmps13
      go_wp2_with (fail)
      with_reducible refine (cO _ (hv.below H0.out.below).rd).mono ?_
      rintro e w3 ⟨rfl, hb3⟩
      have h3 := Lib.hid (H0.out.kept hb3)
      obtain ⟨b0, b1, b2⟩ := cel3' h3.out.box
      clear hb3 cO H0
      go_wp2_with (fail)
      with_reducible refine (cA _).mono ?_
      rintro e w4 ⟨rfl, rfl⟩
      clear cA
      go_wp2_with (fail)
      with_reducible refine (cC _ (hv.below h3.out.below).rd).mono ?_
      rintro e w9 ⟨u9, rfl, hO9, hb9⟩
      obtain ⟨ya, yc, rfl, -⟩ := hO9.form
      have k9 := h3.out.kept hb9
      obtain ⟨x0, x1, x2, hz⟩ := k9.res
      obtain ⟨d0, d1, d2⟩ := cel3' hz
      have j0 := hz.frozen 0
      have j1 := hz.frozen 1
      have j2 := hz.frozen 2
      have far9 := tk4_far h3.out
      obtain ⟨p1, p2, p3⟩ := ps_fin (r := r) (t := t) hz k9.below (Nat.le_succ _) hO9 (by omega)
      have HF := Lib.hid (And.intro p1 (And.intro p2 (p3.mono (B' := w.heap.size) (by omega) (Nat.le_refl _))))
      clear k9 hO9 hb9 hz p1 p2 p3
      go_wp2_with (fail)
      obtain ⟨p1, p2, p3⟩ := HF.out
      refine bodyPost_ret (ps_result p1 rfl _ rfl) rfl ⟨_, rfl, p3, p2⟩
end Go.Proofs.Ytdajfnonehianaa
