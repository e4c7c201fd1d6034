import Derived.Test.YtihogaabojnbpaaGtb
import Derived.Test.YtihogaabojnbpaaGti
import Derived.Test.YtihogaabojnbpaaGts
namespace Go.Proofs.Ytihogaabojnbpaa
open Go.RowKit

/-- While RunBucket runs: the box of the bucket, the answers so far. -/
structure RW (w W : World) (g : Nat) (b : Bt) (u : Value) (L : List Bool) : Prop where
  box : Cel W g 25 #[.int .i64 b.rate, .int .i64 b.burst, .int .i64 b.hav]
  own : OwnE boolK W (g + 1) W.heap.size u L
  below : Below g w W
theorem RW.kept {w W W' : World} {g : Nat} {b : Bt} {u : Value} {L : List Bool} (h : RW w W g b u L) (hb : Below W.heap.size W W') : RW w W' g b u L :=
  ⟨h.box.kept hb, h.own.full hb, h.below.trans (hb.mono (Nat.le_of_lt h.box.lt))⟩
theorem RW.all {w W : World} {g : Nat} {b : Bt} {u : Value} {L : List Bool} (h : RW w W g b u L) : W.cell? ⟨g, 0, none⟩ = some (.int .i64 b.rate) ∧ W.cell? ⟨g, 1, none⟩ = some (.int .i64 b.burst) ∧ W.cell? ⟨g, 2, none⟩ = some (.int .i64 b.hav) := cel3b h.box
theorem RW.fr {w W : World} {g : Nat} {b : Bt} {u : Value} {L : List Bool} (h : RW w W g b u L) : W.frozen? ⟨g, 0, none⟩ = false ∧ W.frozen? ⟨g, 1, none⟩ = false ∧ W.frozen? ⟨g, 2, none⟩ = false := ⟨h.box.frozen 0, h.box.frozen 1, h.box.frozen 2⟩
theorem RW.put {w W : World} {g : Nat} {b : Bt} {u : Value} {L : List Bool} (h : RW w W g b u L) (c : Bt) :
    RW w (((W.setCell ⟨g, 0, none⟩ (.int .i64 c.rate)).setCell ⟨g, 1, none⟩ (.int .i64 c.burst)).setCell ⟨g, 2, none⟩ (.int .i64 c.hav)) g c u L := by
  refine ⟨?_, ?_, ((h.below.setCell (p := ⟨g, 0, none⟩) (Nat.le_refl _) _).setCell (p := ⟨g, 1, none⟩) (Nat.le_refl _) _).setCell (p := ⟨g, 2, none⟩) (Nat.le_refl _) _⟩
  · have := ((h.box.set 0 (.int .i64 c.rate)).set 1 (.int .i64 c.burst)).set 2 (.int .i64 c.hav)
    simpa using this
  · have := own_other (i := 2) (own_other (i := 1) (own_other (i := 0) h.own (Nat.lt_succ_self g) (.int .i64 c.rate)) (Nat.lt_succ_self g) (.int .i64 c.burst)) (Nat.lt_succ_self g) (.int .i64 c.hav)
    simpa using this
theorem RW.app {w W W' : World} {g : Nat} {b : Bt} {u u' : Value} {L L' : List Bool} (h : RW w W g b u L) (ho : OwnE boolK W' (g + 1) W'.heap.size u' L') (hg : W.grownBy W' u.ownBlock) : RW w W' g b u' L' :=
  ⟨h.box.grown hg (fun e => by have := (h.own.block g e.symm).1; omega), ho, h.below.grown hg (Nat.le_of_lt h.box.lt) (fun k hk => by have := (h.own.block k hk).1; omega)⟩

set_option maxRecDepth 100000 in
set_option maxHeartbeats 4000000 in
theorem impl_run (b : Bt) (v : Value) (asks : List Int) (w : World) (hv : RdE intK w v asks) (hn : asks.length ≤ 9223372036854775807) :
    Calls Try.prog 13 #[.agg #[.int .i64 b.rate, .int .i64 b.burst, .int .i64 b.hav], v] w fun e w' => ∃ u, e = .returned u ∧ OwnE boolK w' w.heap.size w'.heap.size u (runB b asks) ∧ Below w.heap.size w w' := by
  obtain ⟨a, c, rfl⟩ := hv.form
  have cO := fun W => impl_bucketOk b W
  have hb0 := below_bt w b
  have hx0 := Cel.new w 25 #[.int .i64 b.rate, .int .i64 b.burst, .int .i64 b.hav]
  have H0 := Lib.hid (show RW w (w.alloc (.cells #[.int .i64 b.rate, .int .i64 b.burst, .int .i64 b.hav] 25)) w.heap.size b (.slice none 0 0) [] from ⟨hx0, OwnE.nil, hb0⟩)
  have HV := Lib.hid (fun W (h : Below w.heap.size w W) => hv.below h)
  unfold runB
  generalize hr : (if b.Ok ∧ asks.length ≤ 200 then (asks.foldl tickB (b, [])).2 else []) = R
  have HR := Lib.hid hr
  clear hr hb0 hx0 hv
  obtain ⟨r, bu, ha⟩ := b
  simp only at cO H0 ⊢
  by_cases hok : Bt.Ok ⟨r, bu, ha⟩
  · rw [decide_eq_true hok] at cO
    by_cases hl : asks.length ≤ 200
    · have hR0 := HR.out
      rw [if_pos ⟨hok, hl⟩] at hR0
      have HR1 := Lib.hid hR0
      have q0 : ¬ (200 : Int) < (asks.length : Int) := by omega
      clear HR hR0
      go_enter Try.func13, Try.ntmps13
      go_upto_region 1 with (fail)
      generalize w.alloc _ = w0 at *
      obtain ⟨a0, a1, a2⟩ := H0.out.all
      go_wp2_with (fail)
      with_reducible refine (cO _).mono ?_
      rintro e w1 ⟨rfl, hb1⟩
      have H1 := Lib.hid (H0.out.kept hb1)
      clear hb1 H0 a0 a1 a2 cO
      go_wp2_with (fail)
      go_loopw [5, 7, 8, 19] (fun u ak o i wr => ∃ k : Nat, k ≤ asks.length ∧ i = .int .i64 k ∧ RW w wr w.heap.size ((asks.take k).foldl tickB (⟨r, bu, ha⟩, [])).1 u ((asks.take k).foldl tickB (⟨r, bu, ha⟩, [])).2) (fun _ _ _ i _ => asks.length - (intOf i).toNat)
      case atStart => exact ⟨0, by omega, rfl, H1.out⟩
      case round =>
        clear H1
        obtain ⟨k, hk, rfl, hW⟩ := hrel
        by_cases hlt : k < asks.length
        · have q : (0 : Int) ≤ (k : Int) ∧ (k : Int) < (asks.length : Int) := by omega
          obtain ⟨b, off, haa, -, k0⟩ := int_at (HV.out _ hW.below) k hlt
          subst haa
          have hst := Lib.hid (fold_snoc asks k hlt (⟨r, bu, ha⟩, []))
          have hol := fold_ok (asks.take k) (⟨r, bu, ha⟩, []) hok
          have hle := fold_len (asks.take k) (⟨r, bu, ha⟩, [])
          rw [List.length_take, List.length_nil] at hle
          generalize (asks.take k).foldl tickB (⟨r, bu, ha⟩, []) = p at *
          have hask := Lib.hid (show ∀ W, Below w.heap.size w W → W.cell? ⟨b, off + k, none⟩ = some (.int .i64 asks[k]) from fun W h => by
            obtain ⟨b', off', e, -, h2⟩ := int_at (HV.out _ h) k hlt
            injection e with e
            injection e with e1 e2
            subst e1 e2
            exact h2)
          generalize asks[k] = ask at *
          have cF := fun W => impl_fill p.1 1 W
          obtain ⟨p1, pl⟩ := p
          simp only at cF hW hol hle
          have HF := Lib.hid (show tickB (p1, pl) ask = tksB (min ask 20).toNat (fillB p1 1, pl) from rfl)
          have hfo := fill_ok p1 hol
          generalize fillB p1 1 = p2 at *
          obtain ⟨x1, y1, z1⟩ := p1
          obtain ⟨x2, y2, z2⟩ := p2
          simp only at cF
          obtain ⟨ua, uc, rfl, -⟩ := hW.own.form
          obtain ⟨a0, a1, a2⟩ := hW.all
          have H2 := Lib.hid hW
          clear hW hol
          simp only at a0 a1 a2
          go_wp2_with (fail)
          with_reducible refine (cF _).mono ?_
          rintro e w2 ⟨rfl, hb2⟩
          have h3 := H2.out.kept hb2
          obtain ⟨a0, a1, a2⟩ := h3.all
          obtain ⟨f0, f1, f2⟩ := h3.fr
          have h4 := h3.put ⟨x2, y2, z2⟩
          simp only at a0 a1 a2 h4
          have H4 := Lib.hid h4
          clear h3 h4 hb2 H2 cF k0
          go_upto_region 8 with (fail)
          clear a0 a1 a2 f0 f1 f2
          generalize ((w2.setCell _ _).setCell _ _).setCell _ _ = w4 at *
          have hN : ((min ask 20).toNat : Int) ≤ 20 := by omega
          go_wp2_with (fail)
          generalize hbx : w.heap.size = bx at *
          go_loopw [5, 8, 27] (fun u o i wr => ∃ j : Nat, j ≤ (min ask 20).toNat ∧ i = .int .i64 j ∧ RW w wr bx (tksB j (⟨x2, y2, z2⟩, pl)).1 u (tksB j (⟨x2, y2, z2⟩, pl)).2) (fun _ _ i _ => (min ask 20).toNat - (intOf i).toNat)
          case atStart => exact ⟨0, by omega, rfl, H4.out⟩
          case round =>
            clear H4
            obtain ⟨j, hj, rfl, hW⟩ := hrel
            by_cases hlj : j < (min ask 20).toNat
            · have q3 : (j : Int) < min ask 20 := by omega
              have hnx := Lib.hid (show tksB (j + 1) (⟨x2, y2, z2⟩, pl) = ((takeB (tksB j (⟨x2, y2, z2⟩, pl)).1).1, (tksB j (⟨x2, y2, z2⟩, pl)).2 ++ [(takeB (tksB j (⟨x2, y2, z2⟩, pl)).1).2]) from rfl)
              have hle2 := Nat.le_of_eq (tks_len j (⟨x2, y2, z2⟩, pl))
              simp only at hle2
              generalize tksB j (⟨x2, y2, z2⟩, pl) = P at *
              obtain ⟨P1, PL⟩ := P
              have cT := fun W => impl_take P1 W
              simp only at hW hle2 cT
              obtain ⟨L', hL'⟩ : ∃ L', PL ++ [(takeB P1).2] = L' := ⟨_, rfl⟩
              have HN := Lib.hid (show tksB (j + 1) (⟨x2, y2, z2⟩, pl) = ((takeB P1).1, L') from hnx.out.trans (by rw [hL']))
              have HL' := Lib.hid hL'
              clear hnx hL'
              generalize takeB P1 = t at *
              obtain ⟨⟨x4, y4, z4⟩, ok⟩ := t
              obtain ⟨x3, y3, z3⟩ := P1
              obtain ⟨ua, uc, rfl, -⟩ := hW.own.form
              obtain ⟨a0, a1, a2⟩ := hW.all
              have H5 := Lib.hid hW
              clear hW
              simp only at a0 a1 a2 cT
              go_wp2_with (fail)
              with_reducible refine (cT _).mono ?_
              rintro e w5 ⟨rfl, hb5⟩
              have h6 := H5.out.kept hb5
              obtain ⟨a0, a1, a2⟩ := h6.all
              obtain ⟨f0, f1, f2⟩ := h6.fr
              have h7 := h6.put ⟨x4, y4, z4⟩
              simp only at a0 a1 a2 h7
              have H7 := Lib.hid h7
              clear h6 h7 hb5 H5 cT 
              go_upto_region 12 with (fail)
              clear a0 a1 a2 f0 f1 f2
              generalize ((w5.setCell _ _).setCell _ _).setCell _ _ = w7 at *
              have h8 := H7.out.kept (below_new w7 (.cells #[.bool ok] 4))
              have HX := Lib.hid (And.intro h8 (And.intro (rd_bbox w7 ok) (And.intro (show bx + 1 ≤ (w7.alloc (.cells #[.bool ok] 4)).heap.size from h8.box.lt) (show PL.length + 1 ≤ 1099511627776 by omega))))
              clear h8 H7
              go_wp2_with (at_builtin; go_loud (refine wpList_append_els boolK rfl _ _ 29 29 rfl uBs uBs (bx + 1) _ (.slice (some ⟨w7.heap.size, 0, none⟩) 1 1) PL [ok] rfl rfl HX.out.1.own HX.out.2.2.1 HX.out.2.1 HX.out.2.2.2 ?_; intro u' w8 hown hgrow hloc; rw [HL'.out] at hown; have HZ := Lib.hid (HX.out.1.app hown hgrow); clear hown hgrow hloc; obtain ⟨ua2, uc2, rfl, -⟩ := HZ.out.own.form))
              go_roundw
              case rel => exact ⟨j + 1, by omega, by go_num, by rw [HN.out]; exact HZ.out⟩
              case measure => simp [intOf]; omega
            · obtain rfl : j = (min ask 20).toNat := by omega
              have H5 := Lib.hid (show RW w wr bx (tickB (⟨x1, y1, z1⟩, pl) ask).1 _ (tickB (⟨x1, y1, z1⟩, pl) ask).2 by rw [HF.out]; exact hW)
              obtain ⟨ua, uc, rfl, -⟩ := hW.own.form
              clear hW HF
              have q3 : ¬ (((min ask 20).toNat : Nat) : Int) < min ask 20 := by omega
              go_wp2_with (fail)
              go_roundw
              case rel => exact ⟨_, _, _, _, ⟨k + 1, by omega, by go_num, by rw [hst.out]; exact H5.out⟩, rfl, rfl, rfl, rfl⟩
              case measure => simp [intOf]; omega
        · obtain rfl : k = asks.length := by omega
          have q : ¬ (asks.length : Int) < (asks.length : Int) := by omega
          rw [List.take_length, HR1.out] at hW
          have HX := Lib.hid hW
          obtain ⟨ua, uc, rfl, -⟩ := hW.own.form
          clear hW
          go_wp2_with (fail)
          go_ret
          exact ⟨_, rfl, HX.out.own.mono (Nat.le_succ _) (Nat.le_refl _), HX.out.below⟩
    · have hR0 := HR.out
      rw [if_neg (fun h => hl h.2)] at hR0
      subst hR0
      have q0 : (200 : Int) < (asks.length : Int) := by omega
      clear HR hok hl
      go_enter Try.func13, Try.ntmps13
      go_upto_region 1 with (fail)
      generalize w.alloc _ = w0 at *
      obtain ⟨a0, a1, a2⟩ := H0.out.all
      go_wp2_with (fail)
      with_reducible refine (cO _).mono ?_
      rintro e w1 ⟨rfl, hb1⟩
      have H1 := Lib.hid (H0.out.kept hb1)
      clear hb1 H0 a0 a1 a2 cO
      go_wp2_with (fail)
      go_ret
      exact ⟨_, rfl, OwnE.nil, H1.out.below⟩
  · rw [decide_eq_false hok] at cO
    have hR0 := HR.out
    rw [if_neg (fun h => hok h.1)] at hR0
    subst hR0
    clear HR hok
    go_enter Try.func13, Try.ntmps13
    go_upto_region 1 with (fail)
    generalize w.alloc _ = w0 at *
    obtain ⟨a0, a1, a2⟩ := H0.out.all
    go_wp2_with (fail)
    with_reducible refine (cO _).mono ?_
    rintro e w1 ⟨rfl, hb1⟩
    have H1 := Lib.hid (H0.out.kept hb1)
    clear hb1 H0 a0 a1 a2 cO
    go_wp2_with (fail)
    go_ret
    exact ⟨_, rfl, OwnE.nil, H1.out.below⟩

set_option maxRecDepth 100000 in
set_option maxHeartbeats 4000000 in
theorem spec_run (b : Bt) (v : Value) (asks : List Int) (w : World) (hv : RdE intK w v asks) (hn : asks.length ≤ 9223372036854775807) :
    Calls Try.prog 14 #[.agg #[.int .i64 b.rate, .int .i64 b.burst, .int .i64 b.hav], v] w fun e w' => ∃ u, e = .returned u ∧ OwnE boolK w' w.heap.size w'.heap.size u (runB b asks) ∧ Below w.heap.size w w' := by
  obtain ⟨a, c, rfl⟩ := hv.form
  have cO := fun W => spec_bucketOk b W
  have hb0 := below_bt w b
  have hx0 := Cel.new w 25 #[.int .i64 b.rate, .int .i64 b.burst, .int .i64 b.hav]
  have hb1 := below_new (w.alloc (.cells #[.int .i64 b.rate, .int .i64 b.burst, .int .i64 b.hav] 25)) (.cells #[] 4)
  have ho1 := eown_empty boolK (w.alloc (.cells #[.int .i64 b.rate, .int .i64 b.burst, .int .i64 b.hav] 25))
  have H0 := Lib.hid (show RW w ((w.alloc (.cells #[.int .i64 b.rate, .int .i64 b.burst, .int .i64 b.hav] 25)).alloc (.cells #[] 4)) w.heap.size b (.slice (some ⟨w.heap.size + 1, 0, none⟩) 0 0) [] from ⟨hx0.kept hb1, by rw [World.size_alloc] at ho1; exact ho1, Below.then_ hb0 hb1⟩)
  have HV := Lib.hid (fun W (h : Below w.heap.size w W) => hv.below h)
  unfold runB
  generalize hr : (if b.Ok ∧ asks.length ≤ 200 then (asks.foldl tickB (b, [])).2 else []) = R
  have HR := Lib.hid hr
  clear hr hb0 hx0 hb1 ho1 hv
  obtain ⟨r, bu, ha⟩ := b
  simp only at cO H0 ⊢
  by_cases hok : Bt.Ok ⟨r, bu, ha⟩
  · rw [decide_eq_true hok] at cO
    by_cases hl : asks.length ≤ 200
    · have hR0 := HR.out
      rw [if_pos ⟨hok, hl⟩] at hR0
      have HR1 := Lib.hid hR0
      have q0 : ¬ (200 : Int) < (asks.length : Int) := by omega
      clear HR hR0
      go_enter Try.func14, Try.ntmps14
      go_upto_region 2 with (fail)
      generalize (w.alloc _).alloc _ = w0 at *
      obtain ⟨a0, a1, a2⟩ := H0.out.all
      go_wp2_with (fail)
      with_reducible refine (cO _).mono ?_
      rintro e w1 ⟨rfl, hb1⟩
      have H1 := Lib.hid (H0.out.kept hb1)
      clear hb1 H0 a0 a1 a2 cO
      go_wp2_with (fail)
      go_loopw [5, 6, 7, 8] (fun u i kk o wr => ∃ k : Nat, k ≤ asks.length ∧ i = .int .i64 k ∧ RW w wr w.heap.size ((asks.take k).foldl tickB (⟨r, bu, ha⟩, [])).1 u ((asks.take k).foldl tickB (⟨r, bu, ha⟩, [])).2) (fun _ i _ _ _ => asks.length - (intOf i).toNat)
      case atStart => exact ⟨0, by omega, rfl, H1.out⟩
      case round =>
        clear H1
        obtain ⟨k, hk, rfl, hW⟩ := hrel
        by_cases hlt : k < asks.length
        · have q : (0 : Int) ≤ (k : Int) ∧ (k : Int) < (asks.length : Int) := by omega
          obtain ⟨b, off, haa, -, k0⟩ := int_at (HV.out _ hW.below) k hlt
          subst haa
          have hst := Lib.hid (fold_snoc asks k hlt (⟨r, bu, ha⟩, []))
          have hol := fold_ok (asks.take k) (⟨r, bu, ha⟩, []) hok
          have hle := fold_len (asks.take k) (⟨r, bu, ha⟩, [])
          rw [List.length_take, List.length_nil] at hle
          generalize (asks.take k).foldl tickB (⟨r, bu, ha⟩, []) = p at *
          have hask := Lib.hid (show ∀ W, Below w.heap.size w W → W.cell? ⟨b, off + k, none⟩ = some (.int .i64 asks[k]) from fun W h => by
            obtain ⟨b', off', e, -, h2⟩ := int_at (HV.out _ h) k hlt
            injection e with e
            injection e with e1 e2
            subst e1 e2
            exact h2)
          generalize asks[k] = ask at *
          have cF := fun W => spec_fill p.1 1 W
          obtain ⟨p1, pl⟩ := p
          simp only at cF hW hol hle
          have HF := Lib.hid (show tickB (p1, pl) ask = tksB (min ask 20).toNat (fillB p1 1, pl) from rfl)
          have hfo := fill_ok p1 hol
          generalize fillB p1 1 = p2 at *
          obtain ⟨x1, y1, z1⟩ := p1
          obtain ⟨x2, y2, z2⟩ := p2
          simp only at cF
          obtain ⟨ua, uc, rfl, -⟩ := hW.own.form
          obtain ⟨a0, a1, a2⟩ := hW.all
          have H2 := Lib.hid hW
          clear hW hol
          simp only at a0 a1 a2
          go_wp2_with (fail)
          with_reducible refine (cF _).mono ?_
          rintro e w2 ⟨rfl, hb2⟩
          have h3 := H2.out.kept hb2
          obtain ⟨a0, a1, a2⟩ := h3.all
          obtain ⟨f0, f1, f2⟩ := h3.fr
          have h4 := h3.put ⟨x2, y2, z2⟩
          simp only at a0 a1 a2 h4
          have H4 := Lib.hid h4
          clear h3 h4 hb2 H2 cF k0
          go_upto_region 8 with (fail)
          clear a0 a1 a2 f0 f1 f2
          generalize ((w2.setCell _ _).setCell _ _).setCell _ _ = w4 at *
          have hN : ((min ask 20).toNat : Int) ≤ 20 := by omega
          go_wp2_with (fail)
          generalize hbx : w.heap.size = bx at *
          go_loopw [5, 7, 8] (fun u i o wr => ∃ j : Nat, j ≤ (min ask 20).toNat ∧ i = .int .i64 j ∧ RW w wr bx (tksB j (⟨x2, y2, z2⟩, pl)).1 u (tksB j (⟨x2, y2, z2⟩, pl)).2) (fun _ i _ _ => (min ask 20).toNat - (intOf i).toNat)
          case atStart => exact ⟨0, by omega, rfl, H4.out⟩
          case round =>
            clear H4
            obtain ⟨j, hj, rfl, hW⟩ := hrel
            have k0 := hask.out _ hW.below
            by_cases hlj : j < (min ask 20).toNat
            · have q3 : (j : Int) < ask ∧ (j : Int) < 20 := by omega
              have hnx := Lib.hid (show tksB (j + 1) (⟨x2, y2, z2⟩, pl) = ((takeB (tksB j (⟨x2, y2, z2⟩, pl)).1).1, (tksB j (⟨x2, y2, z2⟩, pl)).2 ++ [(takeB (tksB j (⟨x2, y2, z2⟩, pl)).1).2]) from rfl)
              have hle2 := Nat.le_of_eq (tks_len j (⟨x2, y2, z2⟩, pl))
              simp only at hle2
              generalize tksB j (⟨x2, y2, z2⟩, pl) = P at *
              obtain ⟨P1, PL⟩ := P
              have cT := fun W => spec_take P1 W
              simp only at hW hle2 cT
              obtain ⟨L', hL'⟩ : ∃ L', PL ++ [(takeB P1).2] = L' := ⟨_, rfl⟩
              have HN := Lib.hid (show tksB (j + 1) (⟨x2, y2, z2⟩, pl) = ((takeB P1).1, L') from hnx.out.trans (by rw [hL']))
              have HL' := Lib.hid hL'
              clear hnx hL'
              generalize takeB P1 = t at *
              obtain ⟨⟨x4, y4, z4⟩, ok⟩ := t
              obtain ⟨x3, y3, z3⟩ := P1
              obtain ⟨ua, uc, rfl, -⟩ := hW.own.form
              obtain ⟨a0, a1, a2⟩ := hW.all
              have H5 := Lib.hid hW
              clear hW
              simp only at a0 a1 a2 cT
              go_wp2_with (fail)
              with_reducible refine (cT _).mono ?_
              rintro e w5 ⟨rfl, hb5⟩
              have h6 := H5.out.kept hb5
              obtain ⟨a0, a1, a2⟩ := h6.all
              obtain ⟨f0, f1, f2⟩ := h6.fr
              have h7 := h6.put ⟨x4, y4, z4⟩
              simp only at a0 a1 a2 h7
              have H7 := Lib.hid h7
              clear h6 h7 hb5 H5 cT k0 
              go_upto_region 13 with (fail)
              clear a0 a1 a2 f0 f1 f2
              generalize ((w5.setCell _ _).setCell _ _).setCell _ _ = w7 at *
              have h8 := H7.out.kept (below_new w7 (.cells #[.bool ok] 4))
              have HX := Lib.hid (And.intro h8 (And.intro (rd_bbox w7 ok) (And.intro (show bx + 1 ≤ (w7.alloc (.cells #[.bool ok] 4)).heap.size from h8.box.lt) (show PL.length + 1 ≤ 1099511627776 by omega))))
              clear h8 H7
              go_wp2_with (at_builtin; go_loud (refine wpList_append_els boolK rfl _ _ 29 29 rfl uBs uBs (bx + 1) _ (.slice (some ⟨w7.heap.size, 0, none⟩) 1 1) PL [ok] rfl rfl HX.out.1.own HX.out.2.2.1 HX.out.2.1 HX.out.2.2.2 ?_; intro u' w8 hown hgrow hloc; rw [HL'.out] at hown; have HZ := Lib.hid (HX.out.1.app hown hgrow); clear hown hgrow hloc; obtain ⟨ua2, uc2, rfl, -⟩ := HZ.out.own.form))
              go_roundw
              case rel => exact ⟨j + 1, by omega, by go_num, by rw [HN.out]; exact HZ.out⟩
              case measure => simp [intOf]; omega
            · obtain rfl : j = (min ask 20).toNat := by omega
              have H5 := Lib.hid (show RW w wr bx (tickB (⟨x1, y1, z1⟩, pl) ask).1 _ (tickB (⟨x1, y1, z1⟩, pl) ask).2 by rw [HF.out]; exact hW)
              obtain ⟨ua, uc, rfl, -⟩ := hW.own.form
              clear hW HF
              by_cases hm : (((min ask 20).toNat : Nat) : Int) < ask
              · have q3 : ¬ (((min ask 20).toNat : Nat) : Int) < 20 := by omega
                go_wp2_with (fail)
                go_roundw
                case rel => exact ⟨k + 1, by omega, by go_num, by rw [hst.out]; exact H5.out⟩
                case measure => simp [intOf]; omega
              · go_wp2_with (fail)
                go_roundw
                case rel => exact ⟨k + 1, by omega, by go_num, by rw [hst.out]; exact H5.out⟩
                case measure => simp [intOf]; omega
        · obtain rfl : k = asks.length := by omega
          have q : ¬ (asks.length : Int) < (asks.length : Int) := by omega
          rw [List.take_length, HR1.out] at hW
          have HX := Lib.hid hW
          obtain ⟨ua, uc, rfl, -⟩ := hW.own.form
          clear hW
          go_wp2_with (fail)
          go_ret
          exact ⟨_, rfl, HX.out.own.mono (Nat.le_succ _) (Nat.le_refl _), HX.out.below⟩
    · have hR0 := HR.out
      rw [if_neg (fun h => hl h.2)] at hR0
      subst hR0
      have q0 : (200 : Int) < (asks.length : Int) := by omega
      clear HR hok hl
      go_enter Try.func14, Try.ntmps14
      go_upto_region 2 with (fail)
      generalize (w.alloc _).alloc _ = w0 at *
      obtain ⟨a0, a1, a2⟩ := H0.out.all
      go_wp2_with (fail)
      with_reducible refine (cO _).mono ?_
      rintro e w1 ⟨rfl, hb1⟩
      have H1 := Lib.hid (H0.out.kept hb1)
      clear hb1 H0 a0 a1 a2 cO
      go_wp2_with (fail)
      go_ret
      exact ⟨_, rfl, H1.out.own.mono (Nat.le_succ _) (Nat.le_refl _), H1.out.below⟩
  · rw [decide_eq_false hok] at cO
    have hR0 := HR.out
    rw [if_neg (fun h => hok h.1)] at hR0
    subst hR0
    clear HR hok
    go_enter Try.func14, Try.ntmps14
    go_upto_region 2 with (fail)
    generalize (w.alloc _).alloc _ = w0 at *
    obtain ⟨a0, a1, a2⟩ := H0.out.all
    go_wp2_with (fail)
    with_reducible refine (cO _).mono ?_
    rintro e w1 ⟨rfl, hb1⟩
    have H1 := Lib.hid (H0.out.kept hb1)
    clear hb1 H0 a0 a1 a2 cO
    go_wp2_with (fail)
    go_ret
    exact ⟨_, rfl, H1.out.own.mono (Nat.le_succ _) (Nat.le_refl _), H1.out.below⟩
end Go.Proofs.Ytihogaabojnbpaa
