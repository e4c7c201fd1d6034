import Derived.Test.YtdajfnonehianaaPsp0
import Derived.StillTailTactics
namespace Go.Proofs.Ytdajfnonehianaa
open Go.RowKit

set_option maxRecDepth 100000 in
set_option maxHeartbeats 16000000 in
theorem spec_putPiece (r : Int) (t : ByteArray) (v : Value) (ms : List Pc) (at_ : Int) (text : ByteArray) (w : World) (hv : RdP w v ms) (hs : t.size + sumP ms ≤ 2097152) (hn : ms.length ≤ 2097152) :
    Calls Try.prog 15 #[.agg #[.int .i64 r, .string t, v], .int .i64 at_, .string text] w fun e w' => ∃ u, e = .returned (.agg #[.int .i64 (putPiece ⟨r, t, ms⟩ at_ text).read, .string (putPiece ⟨r, t, ms⟩ at_ text).ready, u]) ∧ LieE pcK w' w.heap.size w'.heap.size u (putPiece ⟨r, t, ms⟩ at_ text).list ∧ Below w.heap.size w w' := by
  have H0 := Lib.hid (tk_start w r t v)
  have cO := fun W h => spec_piecesOk r t v ms W h (by omega) (by omega)
  have cC := fun W h => spec_copyP r t v ms W h (by omega)
  have cA := fun W => spec_in at_ 0 1000000000 W
  have cL := fun W => spec_in (text.size : Int) 1 200 W
  have cN := fun W => spec_nextOf r t v W
  have hpo : piecesOk ⟨r, t, ms⟩ = true → (0 ≤ r ∧ r ≤ 1000000000) ∧ ms.length ≤ 20 ∧ t.size + sumP ms ≤ 200 ∧ okP (r + (t.size : Int)) ms = true := fun h => by
    unfold piecesOk heldP nextP at h
    simp only at h
    split at h
    · rename_i h1
      exact ⟨⟨h1.1, h1.2.1⟩, h1.2.2.1, h1.2.2.2, h⟩
    · cases h
  obtain ⟨res, hres⟩ : ∃ res, putPiece ⟨r, t, ms⟩ at_ text = res := ⟨_, rfl⟩
  rw [hres]
  unfold putPiece mayPut at hres
  have hv0 := hv
  obtain ⟨a, c, rfl⟩ := hv.form
  clear hv
  have hv := hv0
  clear hv0
  cases hok : piecesOk ⟨r, t, ms⟩ with
  | false =>
    rw [if_neg (fun h => by have := h.1.1; rw [hok] at this; cases this)] at hres
    subst hres
    rw [hok] at cO
    clear hpo hok hs hn cA cL cN
    go_enter Try.func15, Try.ntmps15
    go_wp2_with (fail)
    with_reducible refine (cC _ (hv.below H0.out.below)).mono ?_
    rintro e w1 ⟨u, rfl, hO, hb1⟩
    obtain ⟨ua, uc, rfl, -⟩ := hO.form
    have k2 := tk6_start (H0.out.kept hb1) hO (tk4_far H0.out)
    obtain ⟨b0, b1, b2⟩ := cel3' k2.box
    have h2 := Lib.hid k2
    clear hb1 cC H0 hO k2
    go_wp2_with (fail)
    with_reducible refine (cO _ (hv.below h2.out.below)).mono ?_
    rintro e w3 ⟨rfl, hb3⟩
    have k3 := h2.out.kept hb3
    generalize w1.heap.size = g7 at *
    clear b0 b1 b2
    obtain ⟨b0, b1, b2⟩ := cel3' k3.box
    obtain ⟨e0, e1, e2⟩ := cel3' k3.new
    obtain ⟨x0, x1, x2, hz⟩ := k3.res
    obtain ⟨d0, d1, d2⟩ := cel3' hz
    have j0 := hz.frozen 0
    have j1 := hz.frozen 1
    have j2 := hz.frozen 2
    clear hz
    have h3 := Lib.hid k3
    clear hb3 cO h2 k3
    have HF := Lib.hid h3.out.done
    clear h3
    go_wp2_with (fail)
    obtain ⟨-, p1, p2, p3⟩ := HF.out
    refine bodyPost_ret (ps_result p1 rfl _ rfl) rfl ⟨_, rfl, p3.lie, p2⟩
  | true =>
    obtain ⟨hr0, hml, hsum, hokp⟩ := hpo hok
    rw [hok] at cO
    clear hpo hs hn
    by_cases c2 : 0 ≤ at_ ∧ at_ ≤ 1000000000
    · rw [decide_eq_true c2] at cA
      by_cases c3 : (1 : Int) ≤ (text.size : Int) ∧ (text.size : Int) ≤ 200
      · rw [decide_eq_true c3] at cL
        obtain ⟨nx, hnx0⟩ : ∃ nx, r + (t.size : Int) = nx := ⟨_, rfl⟩
        have hnx : IntKind.i64.wrap (r + (t.size : Int)) = nx := (IntWalk.i64_in _ (by omega)).trans hnx0
        have HNx := Lib.hid (show nextP ⟨r, t, ms⟩ = nx from hnx0)
        rw [hnx] at cN
        obtain ⟨sk, hsk⟩ : ∃ sk, nx - at_ = sk := ⟨_, rfl⟩
        have e1 : IntKind.i64.wrap (nx - at_) = sk := (IntWalk.i64_in _ (by omega)).trans hsk
        by_cases c4 : sk < (text.size : Int)
        · obtain ⟨P, hP0⟩ : ∃ P, longerP ⟨r, t, ms⟩ at_ text = P := ⟨_, rfl⟩
          rw [hP0] at hres
          have hres2 : (if piecesOk P = true then P else ⟨r, t, ms⟩) = res := by
            rw [← hres]
            by_cases hp : piecesOk P = true
            · rw [if_pos hp, if_pos ⟨⟨hok, c2, ⟨by omega, by omega⟩, by rw [show nextP ⟨r, t, ms⟩ = nx from hnx0]; omega⟩, hp⟩]
            · rw [if_neg hp, if_neg (fun h => hp h.2)]
          clear hres
          have Hres := Lib.hid hres2
          obtain ⟨xn, hxn⟩ : ∃ xn, newP ⟨r, t, ms⟩ at_ text = xn := ⟨_, rfl⟩
          obtain ⟨F, hFe⟩ : ∃ F, putS xn false ms = F := ⟨_, rfl⟩
          unfold longerP at hP0
          rw [hxn] at hP0
          simp only at hP0
          rw [hFe] at hP0
          have HPe := Lib.hid hP0
          clear hP0 hres2
          have q4 : ¬ (text.size : Int) ≤ sk := by omega
          unfold newP at hxn
          rw [show nextP ⟨r, t, ms⟩ = nx from hnx0, hsk] at hxn
          have hnx1 : 0 ≤ nx ∧ nx ≤ 1000000200 := by omega
          rw [hnx0] at hokp
          have HV := Lib.hid (okP_all hokp)
          have hxb : (0 ≤ xn.pos ∧ xn.pos ≤ 1000000200) ∧ xn.text.size ≤ 200 ∧ xn.text.size ≠ 0 := by
            by_cases hs0 : 0 < sk
            · rw [if_pos hs0] at hxn
              rw [← hxn]
              simp only [ByteArray.size_extract]
              omega
            · rw [if_neg hs0] at hxn
              rw [← hxn]
              simp only
              omega
          obtain ⟨s1, s2⟩ := putS_sum xn (fin_lt hxb.2.2) ms nx hokp
          rw [hFe] at s1 s2
          have HFn := Lib.hid (show F ≠ [] ∧ sumP F ≤ 400 ∧ F.length ≤ 21 from ⟨by rw [← hFe]; exact putS_ne _ _, by omega, by omega⟩)
          have HF9 := Lib.hid (show putS xn false ms = F ∧ (0 ≤ xn.pos ∧ xn.pos ≤ 1000000200) ∧ xn.text.size + sumP ms ≤ 400 from ⟨hFe, hxb.1, by omega⟩)
          have hts : t.size ≤ 200 := by omega
          clear s1 s2 hFe hokp hok hxb
          by_cases hs0 : 0 < sk
          · rw [if_pos hs0] at hxn
            have sl1 := fun W => cut_from text sk (by omega) (by omega) W
            obtain ⟨tx, htx0⟩ : ∃ tx, text.extract sk.toNat text.size = tx := ⟨_, rfl⟩
            rw [htx0] at hxn sl1
            have e2 : IntKind.i64.wrap (at_ + sk) = nx := (IntWalk.i64_in _ (by omega)).trans (by omega)
            clear htx0 hsk hnx0
            go_enter Try.func15, Try.ntmps15
            go_wp2_with (fail)
            with_reducible refine (cC _ (hv.below H0.out.below)).mono ?_
            rintro e w1 ⟨u, rfl, hO, hb1⟩
            obtain ⟨ua, uc, rfl, -⟩ := hO.form
            have k2 := tk6_start (H0.out.kept hb1) hO (tk4_far H0.out)
            obtain ⟨b0, b1, b2⟩ := cel3' k2.box
            have h2 := Lib.hid k2
            clear hb1 cC H0 hO k2
            go_wp2_with (fail)
            with_reducible refine (cO _ (hv.below h2.out.below)).mono ?_
            rintro e w3 ⟨rfl, hb3⟩
            have k3 := h2.out.kept hb3
            generalize w1.heap.size = g7 at *
            clear b0 b1 b2
            obtain ⟨b0, b1, b2⟩ := cel3' k3.box
            obtain ⟨e0, e1, e2⟩ := cel3' k3.new
            obtain ⟨x0, x1, x2, hz⟩ := k3.res
            obtain ⟨d0, d1, d2⟩ := cel3' hz
            have j0 := hz.frozen 0
            have j1 := hz.frozen 1
            have j2 := hz.frozen 2
            clear hz
            have h3 := Lib.hid k3
            clear hb3 cO h2 k3
            go_wp2_with (fail)
            with_reducible refine (cA _).mono ?_
            rintro e w4 ⟨rfl, rfl⟩
            clear cA
            go_wp2_with (fail)
            with_reducible refine (cL _).mono ?_
            rintro e w4 ⟨rfl, rfl⟩
            clear cL
            have hbx := below_new w3 (.cells #[.int .i64 at_, .string text] 41)
            have hx3 := Cel.new w3 41 #[.int .i64 at_, .string text]
            have H4 := Lib.hid (And.intro (h3.out.kept hbx) (And.intro hx3 h3.out.new.lt))
            clear h3 hbx hx3 e0 e1 e2 d0 d1 d2 j0 j1 j2
            go_upto_region 5 with (fail)
            clear b0 b1 b2
            generalize hw4 : w3.alloc (.cells #[.int .i64 at_, .string text] 41) = w4 at *
            clear hw4
            generalize w3.heap.size = g8 at *
            obtain ⟨b0, b1, b2⟩ := cel3' H4.out.1.box
            go_wp2_with (fail)
            with_reducible refine (cN _).mono ?_
            rintro e w5 ⟨rfl, hb5⟩
            have k5 := H4.out.1.kept hb5
            have hx5 := H4.out.2.1.kept hb5
            have n8 := H4.out.2.2
            clear b0 b1 b2 hb5 H4 cN
            obtain ⟨b0, b1, b2⟩ := cel3' k5.box
            obtain ⟨e0, e1, e2⟩ := cel3' k5.new
            obtain ⟨x0, x1, x2, hz⟩ := k5.res
            obtain ⟨d0, d1, d2⟩ := cel3' hz
            have j0 := hz.frozen 0
            have j1 := hz.frozen 1
            have j2 := hz.frozen 2
            clear hz
            obtain ⟨c0, c1⟩ := cel2 hx5
            have f0 := hx5.frozen 0
            have f1 := hx5.frozen 1
            have hx6 : Cel ((w5.setCell ⟨g8, 0, none⟩ (.int .i64 nx)).setCell ⟨g8, 1, none⟩ (.string tx)) g8 41 #[.int .i64 xn.pos, .string xn.text] := by
              rw [← hxn]
              have := (hx5.set 0 (.int .i64 nx)).set 1 (.string tx)
              simpa using this
            have H6 := Lib.hid (And.intro ((k5.far n8 0 (.int .i64 nx)).far n8 1 (.string tx)) hx6)
            clear k5 hx5 hx6 hxn
            go_upto_region 10 with (fail)
            clear b0 b1 b2 e0 e1 e2 d0 d1 d2 j0 j1 j2 c0 c1 f0 f1 sl1
            generalize (w5.setCell ⟨g8, 0, none⟩ (.int .i64 nx)).setCell ⟨g8, 1, none⟩ (.string tx) = w6 at *
            have k6 := H6.out.1
            have hx6 := H6.out.2
            clear H6
            have hP0 := Lib.hid (Pp.start (x := xn) k6 hx6 n8)
            obtain ⟨b0, b1, b2⟩ := cel3' k6.box
            obtain ⟨g9, hg9⟩ : ∃ g9, w6.heap.size = g9 := ⟨_, rfl⟩
            clear k6 hx6
            rw [hg9] at hP0
            go_wp2_with (fail)
            clear hg9
            go_loopw [11, 12] (fun l i wr => ∃ (L : Bool) (k : Nat) (xx : Pc) (oa : Option Addr) (oc : Nat) (ol : List Pc), k ≤ ms.length ∧ l = .bool L ∧ i = .int .i64 k ∧ ol ++ putS xx L (ms.drop k) = F ∧ (0 ≤ xx.pos ∧ xx.pos ≤ 1000000200) ∧ xx.text.size + sumP (ms.drop k) ≤ 400 ∧ ol.length ≤ 21 ∧ Pp w wr g7 g8 (g9 + 1) r t t (.slice a ms.length c) (.slice ua ms.length uc) ms xx (.slice oa ol.length oc) ol) (fun _ i _ => ms.length - (intOf i).toNat)
            case atStart => exact ⟨false, 0, xn, _, 0, [], by omega, rfl, rfl, by rw [List.drop_zero]; exact HF9.out.1, HF9.out.2.1, by rw [List.drop_zero]; exact HF9.out.2.2, by simp, hP0.out⟩
            case round =>
              clear hP0 b0 b1 b2
              obtain ⟨L, k, xx, oa, oc, ol, hk, rfl, rfl, hput, hxp, hxs, hol, hPp⟩ := hrel
              generalize g9 + 1 = g10 at *
              obtain ⟨b0, b1, b2⟩ := cel3' hPp.h6.box
              by_cases hlt : k < ms.length
              · have q : (k : Int) < (ms.length : Int) := by omega
                have q2 : (0 : Int) ≤ (k : Int) := by omega
                obtain ⟨b, off, ha, hb, k0, k1, -⟩ := pc_at (P := Try.prog) (hv.below hPp.h6.below) k hlt
                subst ha
                have hyok := HV.out _ (List.getElem_mem hlt)
                have hsy := sumP_mem (List.getElem_mem hlt)
                rw [List.drop_eq_getElem_cons hlt] at hput hxs
                simp only [sumP] at hxs
                generalize ms[k] = y at *
                have hP1 := hPp.kept (below_pc wr y)
                have hy1 := Cel.new wr 41 #[.int .i64 y.pos, .string y.text]
                have HP1 := Lib.hid (And.intro hP1 hy1)
                have HGY := Lib.hid (show (Value.slice oa ol.length oc).ownBlock ≠ some wr.heap.size ∧ wr.heap.size ≠ g10 from ⟨fun e => by have := (OwnE.block hPp.ol _ e).2; omega, by have := hPp.out.lt; omega⟩)
                clear hPp hP1 hy1
                go_upto_region 17 with (fail)
                have hP1 := HP1.out.1
                have hy1 := HP1.out.2
                clear HP1 b0 b1 b2 k0 k1
                generalize wr.alloc (.cells #[.int .i64 y.pos, .string y.text] 41) = W1 at *
                generalize wr.heap.size = gy at *
                obtain ⟨c0, c1⟩ := cel2 hP1.x
                obtain ⟨y0, y1⟩ := cel2 hy1
                obtain ⟨o0, o1, o2⟩ := cel3' hP1.out
                have of2 := hP1.out.frozen 2
                have e1 : IntKind.i64.wrap (y.pos + (y.text.size : Int)) = y.pos + (y.text.size : Int) := IntWalk.i64_in _ (by omega)
                have e2 : IntKind.i64.wrap (xx.pos + (xx.text.size : Int)) = xx.pos + (xx.text.size : Int) := IntWalk.i64_in _ (by omega)
                have hP := Lib.hid hP1
                have HY := Lib.hid hy1
                clear hP1 hy1
                unfold putS at hput
                unfold Pc.fin at hput
                by_cases s1 : y.pos + (y.text.size : Int) < xx.pos
                · rw [if_pos s1] at hput
                  have hput2 : (ol ++ [y]) ++ putS xx L (ms.drop (k + 1)) = F := by rw [List.append_assoc]; exact hput
                  have hol2 : (ol ++ [y]).length ≤ 21 := by have := HFn.out.2.2; rw [← hput2] at this; simp only [List.length_append] at this ⊢; omega
                  obtain ⟨ol2, hol2⟩ : ∃ ol2, ol ++ [y] = ol2 := ⟨_, rfl⟩
                  have hP9 := hP.out.kept (below_pc W1 y)
                  have hz9 := hP9.ol
                  have hlt9 : g8 + 1 ≤ (W1.alloc (.cells #[.int .i64 y.pos, .string y.text] 41)).heap.size := by have := hP9.x.lt; omega
                  have ho9 := rd_onePc W1 y
                  have HP9 := Lib.hid hP9
                  have HO2 := Lib.hid hol2
                  clear hP9 hol2 hP
                  rw [HO2.out] at hput2 hol2
                  have HQ := Lib.hid (And.intro hput2 hol2)
                  clear hput hput2 hol2
                  go_wp2_with (at_builtin; refine wpList_append_els pcK rfl _ _ 24 24 rfl uPc uPc (g8 + 1) (.slice oa ol.length oc) _ ol [y] rfl rfl hz9 hlt9 ho9 (by simp; omega) ?_; intro v9 w9 hown hgrow hc9; rw [HO2.out] at hown; obtain ⟨ya, yc, hfe, -⟩ := OwnE.form hown; subst hfe; have hcg := HP9.out.out.grown hgrow (fun e => HP9.out.nb e.symm); obtain ⟨-, -, q2c⟩ := cel3' hcg; have q2f := hcg.frozen 2; have HN := Lib.hid (HP9.out.appended hown hgrow hc9); clear hown hgrow hc9 hcg hz9 hlt9 ho9 HP9)
                  go_roundw
                  case rel => exact ⟨L, k + 1, xx, ya, yc, ol2, by omega, rfl, by go_num, HQ.out.1, hxp, by omega, HQ.out.2, HN.out⟩
                  case measure => simp [intOf]; omega
                · rw [if_neg s1] at hput
                  by_cases s2 : xx.pos + (xx.text.size : Int) < y.pos
                  · rw [if_pos s2] at hput
                    cases L with
                    | true =>
                      have hput2 : (ol ++ [y]) ++ putS xx true (ms.drop (k + 1)) = F := by rw [List.append_assoc]; simpa using hput
                      have hol2 : (ol ++ [y]).length ≤ 21 := by have := HFn.out.2.2; rw [← hput2] at this; simp only [List.length_append] at this ⊢; omega
                      obtain ⟨ol2, hol2⟩ : ∃ ol2, ol ++ [y] = ol2 := ⟨_, rfl⟩
                      have hP9 := hP.out.kept (below_pc W1 y)
                      have hz9 := hP9.ol
                      have hlt9 : g8 + 1 ≤ (W1.alloc (.cells #[.int .i64 y.pos, .string y.text] 41)).heap.size := by have := hP9.x.lt; omega
                      have ho9 := rd_onePc W1 y
                      have HP9 := Lib.hid hP9
                      have HO2 := Lib.hid hol2
                      clear hP9 hol2 hP
                      rw [HO2.out] at hput2 hol2
                      have HQ := Lib.hid (And.intro hput2 hol2)
                      clear hput hput2 hol2
                      go_wp2_with (at_builtin; refine wpList_append_els pcK rfl _ _ 24 24 rfl uPc uPc (g8 + 1) (.slice oa ol.length oc) _ ol [y] rfl rfl hz9 hlt9 ho9 (by simp; omega) ?_; intro v9 w9 hown hgrow hc9; rw [HO2.out] at hown; obtain ⟨ya, yc, hfe, -⟩ := OwnE.form hown; subst hfe; have hcg := HP9.out.out.grown hgrow (fun e => HP9.out.nb e.symm); obtain ⟨-, -, q2c⟩ := cel3' hcg; have q2f := hcg.frozen 2; have HN := Lib.hid (HP9.out.appended hown hgrow hc9); clear hown hgrow hc9 hcg hz9 hlt9 ho9 HP9)
                      go_roundw
                      case rel => exact ⟨true, k + 1, xx, ya, yc, ol2, by omega, rfl, by go_num, HQ.out.1, hxp, by omega, HQ.out.2, HN.out⟩
                      case measure => simp [intOf]; omega
                    | false =>
                      have hput2 : ((ol ++ [xx]) ++ [y]) ++ putS xx true (ms.drop (k + 1)) = F := by rw [List.append_assoc, List.append_assoc]; simpa using hput
                      have hol2 : ((ol ++ [xx]) ++ [y]).length ≤ 21 := by have := HFn.out.2.2; rw [← hput2] at this; simp only [List.length_append] at this ⊢; omega
                      obtain ⟨ol1, hol1⟩ : ∃ ol1, ol ++ [xx] = ol1 := ⟨_, rfl⟩
                      have hP9 := hP.out.kept (below_pc W1 xx)
                      have hz9 := hP9.ol
                      have hlt9 : g8 + 1 ≤ (W1.alloc (.cells #[.int .i64 xx.pos, .string xx.text] 41)).heap.size := by have := hP9.x.lt; omega
                      have ho9 := rd_onePc W1 xx
                      have HP9 := Lib.hid hP9
                      have HO1 := Lib.hid hol1
                      clear hP9 hol1 hP
                      rw [HO1.out] at hput2 hol2
                      have hol1 : ol1.length ≤ 21 := by simp only [List.length_append] at hol2; omega
                      obtain ⟨ol2, hol3⟩ : ∃ ol2, ol1 ++ [y] = ol2 := ⟨_, rfl⟩
                      rw [hol3] at hput2 hol2
                      have HO2 := Lib.hid hol3
                      have HQ := Lib.hid (And.intro hput2 hol2)
                      clear hput hput2 hol2 hol3
                      go_upto_region 22 with (at_builtin; refine wpList_append_els pcK rfl _ _ 24 24 rfl uPc uPc (g8 + 1) (.slice oa ol.length oc) _ ol [xx] rfl rfl hz9 hlt9 ho9 (by simp; omega) ?_; intro v9 w9 hown hgrow hc9; rw [HO1.out] at hown; obtain ⟨ya, yc, hfe, -⟩ := OwnE.form hown; subst hfe; have hcg := HP9.out.out.grown hgrow (fun e => HP9.out.nb e.symm); obtain ⟨-, -, q2c⟩ := cel3' hcg; have q2f := hcg.frozen 2; have HN := Lib.hid (HP9.out.appended hown hgrow hc9); have HYg := Lib.hid (((HY.out.kept (below_pc W1 xx)).grown hgrow (fun e => HGY.out.1 e.symm)).other ⟨g10, 2, none⟩ (.slice ya ol1.length yc) HGY.out.2); clear hown hgrow hc9 hcg hz9 hlt9 ho9 HP9)
                      clear q2c q2f c0 c1 y0 y1 o0 o1 o2 of2
                      generalize w9.setCell ⟨g10, 2, none⟩ (.slice ya ol1.length yc) = W2 at *
                      obtain ⟨c0, c1⟩ := cel2 HN.out.x
                      obtain ⟨y0, y1⟩ := cel2 HYg.out
                      obtain ⟨o0, o1, o2⟩ := cel3' HN.out.out
                      have of2 := HN.out.out.frozen 2
                      have hP9 := HN.out.kept (below_pc W2 y)
                      have hz9 := hP9.ol
                      have hlt9 : g8 + 1 ≤ (W2.alloc (.cells #[.int .i64 y.pos, .string y.text] 41)).heap.size := by have := hP9.x.lt; omega
                      have ho9 := rd_onePc W2 y
                      have HP9 := Lib.hid hP9
                      clear hP9 HN HYg HY
                      go_wp2_with (at_builtin; refine wpList_append_els pcK rfl _ _ 24 24 rfl uPc uPc (g8 + 1) (.slice ya ol1.length yc) _ ol1 [y] rfl rfl hz9 hlt9 ho9 (by simp; omega) ?_; intro v9 w9 hown hgrow hc9; rw [HO2.out] at hown; obtain ⟨za, zc, hfe, -⟩ := OwnE.form hown; subst hfe; have hcg := HP9.out.out.grown hgrow (fun e => HP9.out.nb e.symm); obtain ⟨-, -, q2c⟩ := cel3' hcg; have q2f := hcg.frozen 2; have HN := Lib.hid (HP9.out.appended hown hgrow hc9); clear hown hgrow hc9 hcg hz9 hlt9 ho9 HP9)
                      go_roundw
                      case rel => exact ⟨true, k + 1, xx, za, zc, ol2, by omega, rfl, by go_num, HQ.out.1, hxp, by omega, HQ.out.2, HN.out⟩
                      case measure => simp [intOf]; omega
                  · rw [if_neg s2] at hput
                    have hmt : meets y xx := by unfold meets Pc.fin; omega
                    have cJ := fun W => spec_join y xx W (by omega) (by omega) (by omega) (by omega) (by unfold Pc.fin; omega)
                    have jp := join_pos y xx
                    have js := join_size y xx hmt
                    have hxp2 : 0 ≤ (joinP y xx).pos ∧ (joinP y xx).pos ≤ 1000000200 := by omega
                    have hxs2 : (joinP y xx).text.size + sumP (ms.drop (k + 1)) ≤ 400 := by omega
                    generalize joinP y xx = z at *
                    have HQ := Lib.hid (And.intro hput (And.intro hxp2 hxs2))
                    clear hput jp js hxp2 hxs2 hmt hxs hxp
                    go_wp2_with (fail)
                    with_reducible refine (cJ _).mono ?_
                    rintro e w9 ⟨rfl, hb9⟩
                    have hP2 := hP.out.kept hb9
                    obtain ⟨c0, c1⟩ := cel2 hP2.x
                    have f0 := hP2.x.frozen 0
                    have f1 := hP2.x.frozen 1
                    have HN := Lib.hid (hP2.setX z)
                    clear cJ hb9 hP2 hP y0 y1 o0 o1 o2 of2
                    go_wp2_with (fail)
                    go_roundw
                    case rel => exact ⟨L, k + 1, z, oa, oc, ol, by omega, rfl, by go_num, HQ.out.1, HQ.out.2.1, HQ.out.2.2, hol, HN.out⟩
                    case measure => simp [intOf]; omega
              · obtain rfl : k = ms.length := by omega
                have q : ¬ (ms.length : Int) < (ms.length : Int) := by omega
                rw [List.drop_length] at hput
                cases L with
                | true =>
                  have hFe : ol = F := by simpa [putS] using hput
                  have hT := Lib.hid hPp
                  clear hput hPp hol hxs hxp
                  rw [hFe] at hT
                  clear hFe
                  generalize oa = ta at *
                  generalize oc = tc at *
                  obtain ⟨f, fr, hF⟩ : ∃ f fr, F = f :: fr := by
                    cases F with
                    | nil => exact absurd rfl HFn.out.1
                    | cons f fr => exact ⟨f, fr, rfl⟩
                  have hlF : 0 < F.length := by rw [hF]; simp
                  have hlF2 : (0 : Int) < (F.length : Int) := by omega
                  have hsumF := HFn.out.2
                  obtain ⟨gl, hta⟩ : ∃ gl, ta = some ⟨gl, 0, none⟩ := by
                    obtain ⟨a9, c9, he, h9⟩ := hT.out.ol.form
                    injection he with e1 e2 e3
                    obtain ⟨g9, h91, -⟩ := h9 hlF
                    exact ⟨g9, by rw [e1, h91]⟩
                  subst hta
                  have HF0 := Lib.hid (And.intro hF (And.intro hlF hsumF))
                  have K26 := pp_all hT.out.drew hF
                  have cN2 := fun W => spec_nextOf r t (.slice (some ⟨gl, 0, none⟩) F.length tc) W
                  rw [hnx] at cN2
                  obtain ⟨o0, o1, o2, -, -, -⟩ := pp_all hT.out hF
                  have hPe := HPe.out
                  unfold settle at hPe
                  simp only at hPe
                  rw [hF] at hPe
                  simp only at hPe
                  have hFne : ¬ F = [] := HFn.out.1
                  clear hT hF hsumF
                  go_wp2_with (fail)
                  by_cases hfx : f.pos = nextP ⟨r, t, ms⟩
                  · have q1 : (f.pos == nx) = true := by rw [beq_iff_eq, hfx]; exact HNx.out
                    have q2 : f.pos = nx := by rw [hfx]; exact HNx.out
                    have hPT : P = ⟨r, t ++ f.text, fr⟩ := by rw [← hPe, if_pos (by rw [hfx]; rfl)]
                    have hres := Hres.out
                    rw [hPT] at hres
                    have hszF := HF0.out.2.2
                    rw [HF0.out.1] at hszF
                    simp only [sumP, List.length_cons] at hszF
                    have cK := fun sv W h => spec_piecesOk r (t ++ f.text) sv fr W h (by rw [ByteArray.size_append]; omega) (by omega)
                    have y1 : t.size + f.text.size ≤ 9223372036854775807 := by omega
                    generalize piecesOk ⟨r, t ++ f.text, fr⟩ = ok2 at *
                    have HR := Lib.hid hres
                    clear hres hPT hPe hszF hfx
                    refine wp_region_held_drew (S := fun W => W.cell? ⟨g10, 0, none⟩ = some (.int .i64 r) ∧ W.cell? ⟨g10, 1, none⟩ = some (.string t) ∧ W.cell? ⟨g10, 2, none⟩ = some (.slice (some ⟨gl, 0, none⟩) F.length tc) ∧ W.cell? ⟨gl, 0, none⟩ = some (.int .i64 f.pos) ∧ W.cell? ⟨gl, 1, none⟩ = some (.string f.text) ∧ Pp w W g7 g8 g10 r t t (.slice a ms.length c) (.slice ua ms.length uc) ms xx (.slice (some ⟨gl, 0, none⟩) F.length tc) F) (by kernel_rfl) K26 (fun hHeld => ?_)
                    refine take_yes (i := 0) (oi := { dst := some 121, op := Op.fieldAddr 26 (Operand.tmp 10) 2, type := 0, pos := "l09_pieces.go:93", after := #[], guard := none }) (v := .pointer (some ⟨g10, 2, none⟩)) rfl (by kernel_rfl) (by kernel_rfl) (by kernel_rfl) (fun _ _ _ h => h) (by rfl) (fun w hSw => by (try dsimp only at hSw); go_simp) (by assumption) ?_
                    try simp only [Act.put, List.setIfInBounds_toArray, List.set_cons_zero, List.set_cons_succ]
                    refine take_yes (i := 1) (oi := { dst := some 122, op := Op.load 24 (Operand.tmp 121), type := 24, pos := "l09_pieces.go:93", after := #[{ on := 0, ground := Ground.data }], guard := none }) (v := .slice (some ⟨gl, 0, none⟩) F.length tc) rfl (by kernel_rfl) (by kernel_rfl) (by kernel_rfl) (fun _ _ _ h => h) (by rfl) (fun w hSw => by (try dsimp only at hSw); go_simp) (by assumption) ?_
                    try simp only [Act.put, List.setIfInBounds_toArray, List.set_cons_zero, List.set_cons_succ]
                    refine take_yes (i := 2) (oi := { dst := some 123, op := Op.indexAddr 24 (Operand.tmp 122) (Operand.const (Value.int IntKind.i64 0)), type := 0, pos := "l09_pieces.go:93", after := #[{ on := 1, ground := Ground.data }], guard := none }) (v := .pointer (some ⟨gl, 0, none⟩)) rfl (by kernel_rfl) (by kernel_rfl) (by kernel_rfl) (fun _ _ _ h => h) (by rfl) (fun w hSw => by (try dsimp only at hSw); go_simp) (by assumption) ?_
                    try simp only [Act.put, List.setIfInBounds_toArray, List.set_cons_zero, List.set_cons_succ]
                    refine take_yes (i := 3) (oi := { dst := some 124, op := Op.fieldAddr 41 (Operand.tmp 123) 0, type := 0, pos := "l09_pieces.go:93", after := #[{ on := 2, ground := Ground.data }], guard := none }) (v := .pointer (some ⟨gl, 0, none⟩)) rfl (by kernel_rfl) (by kernel_rfl) (by kernel_rfl) (fun _ _ _ h => h) (by rfl) (fun w hSw => by (try dsimp only at hSw); go_simp) (by assumption) ?_
                    try simp only [Act.put, List.setIfInBounds_toArray, List.set_cons_zero, List.set_cons_succ]
                    refine take_yes (i := 4) (oi := { dst := some 125, op := Op.load 3 (Operand.tmp 124), type := 3, pos := "l09_pieces.go:93", after := #[{ on := 3, ground := Ground.data }], guard := none }) (v := .int .i64 f.pos) rfl (by kernel_rfl) (by kernel_rfl) (by kernel_rfl) (fun _ _ _ h => h) (by rfl) (fun w hSw => by (try dsimp only at hSw); go_simp) (by assumption) ?_
                    try simp only [Act.put, List.setIfInBounds_toArray, List.set_cons_zero, List.set_cons_succ]
                    refine take_yes (i := 5) (oi := { dst := some 126, op := Op.load 26 (Operand.tmp 10), type := 26, pos := "l09_pieces.go:93", after := #[], guard := none }) (v := .agg #[.int .i64 r, .string t, .slice (some ⟨gl, 0, none⟩) F.length tc]) rfl (by kernel_rfl) (by kernel_rfl) (by kernel_rfl) (fun _ _ _ h => h) (by rfl) (fun w hSw => by (try dsimp only at hSw); go_simp) (by assumption) ?_
                    try simp only [Act.put, List.setIfInBounds_toArray, List.set_cons_zero, List.set_cons_succ]
                    refine wpAnyH_ready (rs := [6]) (by kernel_rfl) (by simp) ?_
                    refine AllReadyH.cons (o := { dst := some 127, op := Op.call { callee := Callee.value (Operand.func 48), args := #[Operand.tmp 126], argTypes := #[26] }, type := 3, pos := "l09_pieces.go:93", after := #[{ on := 5, ground := Ground.data }], guard := none }) rfl (fun K hK => ?_) AllReadyH.nil
                    go_simp
                    with_reducible refine (cN2 _).mono ?_
                    rintro e w8 ⟨rfl, hb8⟩
                    have K8 := pp_all (hHeld.2.2.2.2.2.kept hb8) HF0.out.1
                    refine hK.out _ _ K8 (fun hHeldN => ?_)
                    clear hK K hHeld
                    have hHeld := hHeldN
                    clear hHeldN
                    try simp only [Act.put, List.setIfInBounds_toArray, List.set_cons_zero, List.set_cons_succ]
                    refine take_yes (i := 7) (oi := { dst := some 128, op := Op.binOp BinOp.eql 3 (Operand.tmp 125) (Operand.tmp 127) 3, type := 4, pos := "l09_pieces.go:93", after := #[{ on := 4, ground := Ground.data }, { on := 6, ground := Ground.data }], guard := none }) (v := .bool true) rfl (by kernel_rfl) (by kernel_rfl) (by kernel_rfl) (fun _ _ _ h => h) (by rfl) (fun w hSw => by (try dsimp only at hSw); go_simp) (by assumption) ?_
                    try simp only [Act.put, List.setIfInBounds_toArray, List.set_cons_zero, List.set_cons_succ]
                    refine wpAnyH_done (by kernel_rfl) ?_ _
                    clear hHeld
                    have K8p := Lib.hid K8.2.2.2.2.2.drew
                    clear K8 K26 hb8 o0 o1 o2
                    go_wp2_with (fail)
                    refine wp_region_still_tail 9 (by kernel_rfl) (by kernel_rfl) ?_
                    change wpStill _ _ w8.drew (fun a' => wpList _ _ _ _ a' w8.drew) _ _
                    generalize w8.drew = w9 at *
                    obtain ⟨o0, o1, o2, l0, l1, -⟩ := pp_all K8p.out HF0.out.1
                    have of1 := K8p.out.out.frozen 1
                    have of2 := K8p.out.out.frozen 2
                    have K10 := K8p.out.setT (t ++ f.text)
                    obtain ⟨sa, sc, hsl, -, hsv⟩ := LieE.cut_from uPc (OwnE.lie1 K10.ol) 1 HF0.out.2.1
                    have hdr : F.drop 1 = fr := by rw [HF0.out.1]; rfl
                    rw [hdr] at hsl hsv
                    have hsl2 : ∀ W', (Instr.slice 24 (.slice (some ⟨gl, 0, none⟩) F.length tc) (some (.int .i64 1)) none none).run Try.prog W' = .ok (.slice sa fr.length sc) W' := hsl
                    have h10 := Lib.hid (K10.setL (hsv _ (OwnE.lie1 K10.ol)))
                    have yy : t.size + f.text.size ≤ 9223372036854775807 := by
                      have h9 := HF0.out.2.2
                      rw [HF0.out.1] at h9
                      simp only [sumP] at h9
                      omega
                    have yz : ¬ 9223372036854775807 < t.size + f.text.size := by omega
                    clear K8p K10 hsl hsv hdr
                    simp only [List.take_succ_cons, List.take_zero, List.drop_succ_cons, List.drop_zero]
                    iterate 9 still_step
                    refine wpStill_nil ?_
                    go_upto_region 29 with (fail)
                    clear o0 o1 o2 l0 l1 of1 of2 hsl2
                    generalize (w9.setCell ⟨g10, 1, none⟩ (.string (t ++ f.text))).setCell ⟨g10, 2, none⟩ (.slice sa fr.length sc) = w10 at *
                    obtain ⟨o0, o1, o2⟩ := cel3' h10.out.2.1
                    have x10 := h10.out.2.2.rd
                    go_wp2_with (fail)
                    with_reducible refine (cK _ _ x10).mono ?_
                    rintro e w11 ⟨rfl, hb11⟩
                    have k11 := h10.out.1.kept hb11
                    have o11 := h10.out.2.1.kept hb11
                    have l11 := h10.out.2.2.below hb11
                    have s11 := hb11.size
                    have hl11 : LieE pcK w11 (g8 + 1) w11.heap.size (.slice sa fr.length sc) (fr) := l11.mono (Nat.le_refl _) s11
                    obtain ⟨e0, e1, e2⟩ := cel3' k11.new
                    obtain ⟨x0, x1, x2, hz⟩ := k11.res
                    obtain ⟨d0, d1, d2⟩ := cel3' hz
                    have j0 := hz.frozen 0
                    have j1 := hz.frozen 1
                    have j2 := hz.frozen 2
                    clear hz
                    clear o0 o1 o2 x10 cK hb11 l11 h10
                    obtain ⟨o0, o1, o2⟩ := cel3' o11
                    cases ok2 with
                    | false =>
                      have hres := HR.out
                      rw [if_neg Bool.false_ne_true] at hres
                      subst hres
                      have HF := Lib.hid k11.done
                      clear k11 o11 hl11
                      go_wp2_with (fail)
                      obtain ⟨-, p1, p2, p3⟩ := HF.out
                      refine bodyPost_ret (ps_result p1 rfl _ rfl) rfl ⟨_, rfl, p3.lie, p2⟩
                    | true =>
                      have hres := HR.out
                      rw [if_pos rfl] at hres
                      subst hres
                      have HF := Lib.hid (tk6_fin (r1 := r) (t1 := t ++ f.text) k11 hl11 (by have := k11.ne; omega))
                      clear k11 o11 hl11
                      go_wp2_with (fail)
                      obtain ⟨p1, p2, p3⟩ := HF.out
                      refine bodyPost_ret (ps_result p1 rfl _ rfl) rfl ⟨_, rfl, p3, p2⟩
                  · have q1 : (f.pos == nx) = false := by rw [beq_eq_false_iff_ne]; intro e; exact hfx (by rw [e]; exact HNx.out.symm)
                    have q2 : ¬ f.pos = nx := fun e => hfx (by rw [e]; exact HNx.out.symm)
                    have hPT : P = ⟨r, t, F⟩ := by rw [← hPe, if_neg (fun e => hfx (by rw [e]; rfl)), HF0.out.1]
                    have hres := Hres.out
                    rw [hPT] at hres
                    have hszF := HF0.out.2.2
                    have cK := fun sv W h => spec_piecesOk r t sv F W h (by omega) (by omega)
                    generalize piecesOk ⟨r, t, F⟩ = ok2 at *
                    have HR := Lib.hid hres
                    clear hres hPT hPe hszF hfx
                    refine wp_region_held_drew (S := fun W => W.cell? ⟨g10, 0, none⟩ = some (.int .i64 r) ∧ W.cell? ⟨g10, 1, none⟩ = some (.string t) ∧ W.cell? ⟨g10, 2, none⟩ = some (.slice (some ⟨gl, 0, none⟩) F.length tc) ∧ W.cell? ⟨gl, 0, none⟩ = some (.int .i64 f.pos) ∧ W.cell? ⟨gl, 1, none⟩ = some (.string f.text) ∧ Pp w W g7 g8 g10 r t t (.slice a ms.length c) (.slice ua ms.length uc) ms xx (.slice (some ⟨gl, 0, none⟩) F.length tc) F) (by kernel_rfl) K26 (fun hHeld => ?_)
                    refine take_yes (i := 0) (oi := { dst := some 121, op := Op.fieldAddr 26 (Operand.tmp 10) 2, type := 0, pos := "l09_pieces.go:93", after := #[], guard := none }) (v := .pointer (some ⟨g10, 2, none⟩)) rfl (by kernel_rfl) (by kernel_rfl) (by kernel_rfl) (fun _ _ _ h => h) (by rfl) (fun w hSw => by (try dsimp only at hSw); go_simp) (by assumption) ?_
                    try simp only [Act.put, List.setIfInBounds_toArray, List.set_cons_zero, List.set_cons_succ]
                    refine take_yes (i := 1) (oi := { dst := some 122, op := Op.load 24 (Operand.tmp 121), type := 24, pos := "l09_pieces.go:93", after := #[{ on := 0, ground := Ground.data }], guard := none }) (v := .slice (some ⟨gl, 0, none⟩) F.length tc) rfl (by kernel_rfl) (by kernel_rfl) (by kernel_rfl) (fun _ _ _ h => h) (by rfl) (fun w hSw => by (try dsimp only at hSw); go_simp) (by assumption) ?_
                    try simp only [Act.put, List.setIfInBounds_toArray, List.set_cons_zero, List.set_cons_succ]
                    refine take_yes (i := 2) (oi := { dst := some 123, op := Op.indexAddr 24 (Operand.tmp 122) (Operand.const (Value.int IntKind.i64 0)), type := 0, pos := "l09_pieces.go:93", after := #[{ on := 1, ground := Ground.data }], guard := none }) (v := .pointer (some ⟨gl, 0, none⟩)) rfl (by kernel_rfl) (by kernel_rfl) (by kernel_rfl) (fun _ _ _ h => h) (by rfl) (fun w hSw => by (try dsimp only at hSw); go_simp) (by assumption) ?_
                    try simp only [Act.put, List.setIfInBounds_toArray, List.set_cons_zero, List.set_cons_succ]
                    refine take_yes (i := 3) (oi := { dst := some 124, op := Op.fieldAddr 41 (Operand.tmp 123) 0, type := 0, pos := "l09_pieces.go:93", after := #[{ on := 2, ground := Ground.data }], guard := none }) (v := .pointer (some ⟨gl, 0, none⟩)) rfl (by kernel_rfl) (by kernel_rfl) (by kernel_rfl) (fun _ _ _ h => h) (by rfl) (fun w hSw => by (try dsimp only at hSw); go_simp) (by assumption) ?_
                    try simp only [Act.put, List.setIfInBounds_toArray, List.set_cons_zero, List.set_cons_succ]
                    refine take_yes (i := 4) (oi := { dst := some 125, op := Op.load 3 (Operand.tmp 124), type := 3, pos := "l09_pieces.go:93", after := #[{ on := 3, ground := Ground.data }], guard := none }) (v := .int .i64 f.pos) rfl (by kernel_rfl) (by kernel_rfl) (by kernel_rfl) (fun _ _ _ h => h) (by rfl) (fun w hSw => by (try dsimp only at hSw); go_simp) (by assumption) ?_
                    try simp only [Act.put, List.setIfInBounds_toArray, List.set_cons_zero, List.set_cons_succ]
                    refine take_yes (i := 5) (oi := { dst := some 126, op := Op.load 26 (Operand.tmp 10), type := 26, pos := "l09_pieces.go:93", after := #[], guard := none }) (v := .agg #[.int .i64 r, .string t, .slice (some ⟨gl, 0, none⟩) F.length tc]) rfl (by kernel_rfl) (by kernel_rfl) (by kernel_rfl) (fun _ _ _ h => h) (by rfl) (fun w hSw => by (try dsimp only at hSw); go_simp) (by assumption) ?_
                    try simp only [Act.put, List.setIfInBounds_toArray, List.set_cons_zero, List.set_cons_succ]
                    refine wpAnyH_ready (rs := [6]) (by kernel_rfl) (by simp) ?_
                    refine AllReadyH.cons (o := { dst := some 127, op := Op.call { callee := Callee.value (Operand.func 48), args := #[Operand.tmp 126], argTypes := #[26] }, type := 3, pos := "l09_pieces.go:93", after := #[{ on := 5, ground := Ground.data }], guard := none }) rfl (fun K hK => ?_) AllReadyH.nil
                    go_simp
                    with_reducible refine (cN2 _).mono ?_
                    rintro e w8 ⟨rfl, hb8⟩
                    have K8 := pp_all (hHeld.2.2.2.2.2.kept hb8) HF0.out.1
                    refine hK.out _ _ K8 (fun hHeldN => ?_)
                    clear hK K hHeld
                    have hHeld := hHeldN
                    clear hHeldN
                    try simp only [Act.put, List.setIfInBounds_toArray, List.set_cons_zero, List.set_cons_succ]
                    refine take_yes (i := 7) (oi := { dst := some 128, op := Op.binOp BinOp.eql 3 (Operand.tmp 125) (Operand.tmp 127) 3, type := 4, pos := "l09_pieces.go:93", after := #[{ on := 4, ground := Ground.data }, { on := 6, ground := Ground.data }], guard := none }) (v := .bool false) rfl (by kernel_rfl) (by kernel_rfl) (by kernel_rfl) (fun _ _ _ h => h) (by rfl) (fun w hSw => by (try dsimp only at hSw); go_simp) (by assumption) ?_
                    try simp only [Act.put, List.setIfInBounds_toArray, List.set_cons_zero, List.set_cons_succ]
                    refine wpAnyH_done (by kernel_rfl) ?_ _
                    clear hHeld
                    have h10 := Lib.hid (And.intro K8.2.2.2.2.2.h6 (And.intro K8.2.2.2.2.2.out K8.2.2.2.2.2.ol.lie))
                    clear K8 K26 hb8 o0 o1 o2
                    obtain ⟨o0, o1, o2⟩ := cel3' h10.out.2.1
                    have x10 := h10.out.2.2.rd
                    go_wp2_with (fail)
                    with_reducible refine (cK _ _ x10).mono ?_
                    rintro e w11 ⟨rfl, hb11⟩
                    have k11 := h10.out.1.kept hb11
                    have o11 := h10.out.2.1.kept hb11
                    have l11 := h10.out.2.2.below hb11
                    have s11 := hb11.size
                    have hl11 : LieE pcK w11 (g8 + 1) w11.heap.size (.slice (some ⟨gl, 0, none⟩) F.length tc) (F) := l11.mono (Nat.le_refl _) s11
                    obtain ⟨e0, e1, e2⟩ := cel3' k11.new
                    obtain ⟨x0, x1, x2, hz⟩ := k11.res
                    obtain ⟨d0, d1, d2⟩ := cel3' hz
                    have j0 := hz.frozen 0
                    have j1 := hz.frozen 1
                    have j2 := hz.frozen 2
                    clear hz
                    clear o0 o1 o2 x10 cK hb11 l11 h10
                    obtain ⟨o0, o1, o2⟩ := cel3' o11
                    cases ok2 with
                    | false =>
                      have hres := HR.out
                      rw [if_neg Bool.false_ne_true] at hres
                      subst hres
                      have HF := Lib.hid k11.done
                      clear k11 o11 hl11
                      go_wp2_with (fail)
                      obtain ⟨-, p1, p2, p3⟩ := HF.out
                      refine bodyPost_ret (ps_result p1 rfl _ rfl) rfl ⟨_, rfl, p3.lie, p2⟩
                    | true =>
                      have hres := HR.out
                      rw [if_pos rfl] at hres
                      subst hres
                      have HF := Lib.hid (tk6_fin (r1 := r) (t1 := t) k11 hl11 (by have := k11.ne; omega))
                      clear k11 o11 hl11
                      go_wp2_with (fail)
                      obtain ⟨p1, p2, p3⟩ := HF.out
                      refine bodyPost_ret (ps_result p1 rfl _ rfl) rfl ⟨_, rfl, p3, p2⟩
                | false =>
                  have hFe : ol ++ [xx] = F := by simpa [putS] using hput
                  obtain ⟨c0, c1⟩ := cel2 hPp.x
                  obtain ⟨o0, o1, o2⟩ := cel3' hPp.out
                  have of2 := hPp.out.frozen 2
                  have hP := Lib.hid hPp
                  clear hput hPp hxs hxp
                  have hol2 := hFe
                  have hP9 := hP.out.kept (below_pc wr xx)
                  have hz9 := hP9.ol
                  have hlt9 : g8 + 1 ≤ (wr.alloc (.cells #[.int .i64 xx.pos, .string xx.text] 41)).heap.size := by have := hP9.x.lt; omega
                  have ho9 := rd_onePc wr xx
                  have HP9 := Lib.hid hP9
                  have HO2 := Lib.hid hol2
                  clear hP9 hol2 hP
                  clear hFe
                  go_upto_region 26 with (at_builtin; refine wpList_append_els pcK rfl _ _ 24 24 rfl uPc uPc (g8 + 1) (.slice oa ol.length oc) _ ol [xx] rfl rfl hz9 hlt9 ho9 (by simp; omega) ?_; intro v9 w9 hown hgrow hc9; rw [HO2.out] at hown; obtain ⟨ta, tc, hfe, -⟩ := OwnE.form hown; subst hfe; have hcg := HP9.out.out.grown hgrow (fun e => HP9.out.nb e.symm); obtain ⟨-, -, q2c⟩ := cel3' hcg; have q2f := hcg.frozen 2; have hT := Lib.hid (HP9.out.appended hown hgrow hc9); clear hown hgrow hc9 hcg hz9 hlt9 ho9 HP9)
                  clear q2c q2f c0 c1 o0 o1 o2 of2 b0 b1 b2
                  generalize w9.setCell ⟨g10, 2, none⟩ (.slice ta F.length tc) = wt at *
                  obtain ⟨f, fr, hF⟩ : ∃ f fr, F = f :: fr := by
                    cases F with
                    | nil => exact absurd rfl HFn.out.1
                    | cons f fr => exact ⟨f, fr, rfl⟩
                  have hlF : 0 < F.length := by rw [hF]; simp
                  have hlF2 : (0 : Int) < (F.length : Int) := by omega
                  have hsumF := HFn.out.2
                  obtain ⟨gl, hta⟩ : ∃ gl, ta = some ⟨gl, 0, none⟩ := by
                    obtain ⟨a9, c9, he, h9⟩ := hT.out.ol.form
                    injection he with e1 e2 e3
                    obtain ⟨g9, h91, -⟩ := h9 hlF
                    exact ⟨g9, by rw [e1, h91]⟩
                  subst hta
                  have HF0 := Lib.hid (And.intro hF (And.intro hlF hsumF))
                  have K26 := pp_all hT.out.drew hF
                  have cN2 := fun W => spec_nextOf r t (.slice (some ⟨gl, 0, none⟩) F.length tc) W
                  rw [hnx] at cN2
                  obtain ⟨o0, o1, o2, -, -, -⟩ := pp_all hT.out hF
                  have hPe := HPe.out
                  unfold settle at hPe
                  simp only at hPe
                  rw [hF] at hPe
                  simp only at hPe
                  have hFne : ¬ F = [] := HFn.out.1
                  clear hT hF hsumF
                  go_wp2_with (fail)
                  by_cases hfx : f.pos = nextP ⟨r, t, ms⟩
                  · have q1 : (f.pos == nx) = true := by rw [beq_iff_eq, hfx]; exact HNx.out
                    have q2 : f.pos = nx := by rw [hfx]; exact HNx.out
                    have hPT : P = ⟨r, t ++ f.text, fr⟩ := by rw [← hPe, if_pos (by rw [hfx]; rfl)]
                    have hres := Hres.out
                    rw [hPT] at hres
                    have hszF := HF0.out.2.2
                    rw [HF0.out.1] at hszF
                    simp only [sumP, List.length_cons] at hszF
                    have cK := fun sv W h => spec_piecesOk r (t ++ f.text) sv fr W h (by rw [ByteArray.size_append]; omega) (by omega)
                    have y1 : t.size + f.text.size ≤ 9223372036854775807 := by omega
                    generalize piecesOk ⟨r, t ++ f.text, fr⟩ = ok2 at *
                    have HR := Lib.hid hres
                    clear hres hPT hPe hszF hfx
                    refine wp_region_held_drew (S := fun W => W.cell? ⟨g10, 0, none⟩ = some (.int .i64 r) ∧ W.cell? ⟨g10, 1, none⟩ = some (.string t) ∧ W.cell? ⟨g10, 2, none⟩ = some (.slice (some ⟨gl, 0, none⟩) F.length tc) ∧ W.cell? ⟨gl, 0, none⟩ = some (.int .i64 f.pos) ∧ W.cell? ⟨gl, 1, none⟩ = some (.string f.text) ∧ Pp w W g7 g8 g10 r t t (.slice a ms.length c) (.slice ua ms.length uc) ms xx (.slice (some ⟨gl, 0, none⟩) F.length tc) F) (by kernel_rfl) K26 (fun hHeld => ?_)
                    refine take_yes (i := 0) (oi := { dst := some 121, op := Op.fieldAddr 26 (Operand.tmp 10) 2, type := 0, pos := "l09_pieces.go:93", after := #[], guard := none }) (v := .pointer (some ⟨g10, 2, none⟩)) rfl (by kernel_rfl) (by kernel_rfl) (by kernel_rfl) (fun _ _ _ h => h) (by rfl) (fun w hSw => by (try dsimp only at hSw); go_simp) (by assumption) ?_
                    try simp only [Act.put, List.setIfInBounds_toArray, List.set_cons_zero, List.set_cons_succ]
                    refine take_yes (i := 1) (oi := { dst := some 122, op := Op.load 24 (Operand.tmp 121), type := 24, pos := "l09_pieces.go:93", after := #[{ on := 0, ground := Ground.data }], guard := none }) (v := .slice (some ⟨gl, 0, none⟩) F.length tc) rfl (by kernel_rfl) (by kernel_rfl) (by kernel_rfl) (fun _ _ _ h => h) (by rfl) (fun w hSw => by (try dsimp only at hSw); go_simp) (by assumption) ?_
                    try simp only [Act.put, List.setIfInBounds_toArray, List.set_cons_zero, List.set_cons_succ]
                    refine take_yes (i := 2) (oi := { dst := some 123, op := Op.indexAddr 24 (Operand.tmp 122) (Operand.const (Value.int IntKind.i64 0)), type := 0, pos := "l09_pieces.go:93", after := #[{ on := 1, ground := Ground.data }], guard := none }) (v := .pointer (some ⟨gl, 0, none⟩)) rfl (by kernel_rfl) (by kernel_rfl) (by kernel_rfl) (fun _ _ _ h => h) (by rfl) (fun w hSw => by (try dsimp only at hSw); go_simp) (by assumption) ?_
                    try simp only [Act.put, List.setIfInBounds_toArray, List.set_cons_zero, List.set_cons_succ]
                    refine take_yes (i := 3) (oi := { dst := some 124, op := Op.fieldAddr 41 (Operand.tmp 123) 0, type := 0, pos := "l09_pieces.go:93", after := #[{ on := 2, ground := Ground.data }], guard := none }) (v := .pointer (some ⟨gl, 0, none⟩)) rfl (by kernel_rfl) (by kernel_rfl) (by kernel_rfl) (fun _ _ _ h => h) (by rfl) (fun w hSw => by (try dsimp only at hSw); go_simp) (by assumption) ?_
                    try simp only [Act.put, List.setIfInBounds_toArray, List.set_cons_zero, List.set_cons_succ]
                    refine take_yes (i := 4) (oi := { dst := some 125, op := Op.load 3 (Operand.tmp 124), type := 3, pos := "l09_pieces.go:93", after := #[{ on := 3, ground := Ground.data }], guard := none }) (v := .int .i64 f.pos) rfl (by kernel_rfl) (by kernel_rfl) (by kernel_rfl) (fun _ _ _ h => h) (by rfl) (fun w hSw => by (try dsimp only at hSw); go_simp) (by assumption) ?_
                    try simp only [Act.put, List.setIfInBounds_toArray, List.set_cons_zero, List.set_cons_succ]
                    refine take_yes (i := 5) (oi := { dst := some 126, op := Op.load 26 (Operand.tmp 10), type := 26, pos := "l09_pieces.go:93", after := #[], guard := none }) (v := .agg #[.int .i64 r, .string t, .slice (some ⟨gl, 0, none⟩) F.length tc]) rfl (by kernel_rfl) (by kernel_rfl) (by kernel_rfl) (fun _ _ _ h => h) (by rfl) (fun w hSw => by (try dsimp only at hSw); go_simp) (by assumption) ?_
                    try simp only [Act.put, List.setIfInBounds_toArray, List.set_cons_zero, List.set_cons_succ]
                    refine wpAnyH_ready (rs := [6]) (by kernel_rfl) (by simp) ?_
                    refine AllReadyH.cons (o := { dst := some 127, op := Op.call { callee := Callee.value (Operand.func 48), args := #[Operand.tmp 126], argTypes := #[26] }, type := 3, pos := "l09_pieces.go:93", after := #[{ on := 5, ground := Ground.data }], guard := none }) rfl (fun K hK => ?_) AllReadyH.nil
                    go_simp
                    with_reducible refine (cN2 _).mono ?_
                    rintro e w8 ⟨rfl, hb8⟩
                    have K8 := pp_all (hHeld.2.2.2.2.2.kept hb8) HF0.out.1
                    refine hK.out _ _ K8 (fun hHeldN => ?_)
                    clear hK K hHeld
                    have hHeld := hHeldN
                    clear hHeldN
                    try simp only [Act.put, List.setIfInBounds_toArray, List.set_cons_zero, List.set_cons_succ]
                    refine take_yes (i := 7) (oi := { dst := some 128, op := Op.binOp BinOp.eql 3 (Operand.tmp 125) (Operand.tmp 127) 3, type := 4, pos := "l09_pieces.go:93", after := #[{ on := 4, ground := Ground.data }, { on := 6, ground := Ground.data }], guard := none }) (v := .bool true) rfl (by kernel_rfl) (by kernel_rfl) (by kernel_rfl) (fun _ _ _ h => h) (by rfl) (fun w hSw => by (try dsimp only at hSw); go_simp) (by assumption) ?_
                    try simp only [Act.put, List.setIfInBounds_toArray, List.set_cons_zero, List.set_cons_succ]
                    refine wpAnyH_done (by kernel_rfl) ?_ _
                    clear hHeld
                    have K8p := Lib.hid K8.2.2.2.2.2.drew
                    clear K8 K26 hb8 o0 o1 o2
                    go_wp2_with (fail)
                    refine wp_region_still_tail 9 (by kernel_rfl) (by kernel_rfl) ?_
                    change wpStill _ _ w8.drew (fun a' => wpList _ _ _ _ a' w8.drew) _ _
                    generalize w8.drew = w9 at *
                    obtain ⟨o0, o1, o2, l0, l1, -⟩ := pp_all K8p.out HF0.out.1
                    have of1 := K8p.out.out.frozen 1
                    have of2 := K8p.out.out.frozen 2
                    have K10 := K8p.out.setT (t ++ f.text)
                    obtain ⟨sa, sc, hsl, -, hsv⟩ := LieE.cut_from uPc (OwnE.lie1 K10.ol) 1 HF0.out.2.1
                    have hdr : F.drop 1 = fr := by rw [HF0.out.1]; rfl
                    rw [hdr] at hsl hsv
                    have hsl2 : ∀ W', (Instr.slice 24 (.slice (some ⟨gl, 0, none⟩) F.length tc) (some (.int .i64 1)) none none).run Try.prog W' = .ok (.slice sa fr.length sc) W' := hsl
                    have h10 := Lib.hid (K10.setL (hsv _ (OwnE.lie1 K10.ol)))
                    have yy : t.size + f.text.size ≤ 9223372036854775807 := by
                      have h9 := HF0.out.2.2
                      rw [HF0.out.1] at h9
                      simp only [sumP] at h9
                      omega
                    have yz : ¬ 9223372036854775807 < t.size + f.text.size := by omega
                    clear K8p K10 hsl hsv hdr
                    simp only [List.take_succ_cons, List.take_zero, List.drop_succ_cons, List.drop_zero]
                    iterate 9 still_step
                    refine wpStill_nil ?_
                    go_upto_region 29 with (fail)
                    clear o0 o1 o2 l0 l1 of1 of2 hsl2
                    generalize (w9.setCell ⟨g10, 1, none⟩ (.string (t ++ f.text))).setCell ⟨g10, 2, none⟩ (.slice sa fr.length sc) = w10 at *
                    obtain ⟨o0, o1, o2⟩ := cel3' h10.out.2.1
                    have x10 := h10.out.2.2.rd
                    go_wp2_with (fail)
                    with_reducible refine (cK _ _ x10).mono ?_
                    rintro e w11 ⟨rfl, hb11⟩
                    have k11 := h10.out.1.kept hb11
                    have o11 := h10.out.2.1.kept hb11
                    have l11 := h10.out.2.2.below hb11
                    have s11 := hb11.size
                    have hl11 : LieE pcK w11 (g8 + 1) w11.heap.size (.slice sa fr.length sc) (fr) := l11.mono (Nat.le_refl _) s11
                    obtain ⟨e0, e1, e2⟩ := cel3' k11.new
                    obtain ⟨x0, x1, x2, hz⟩ := k11.res
                    obtain ⟨d0, d1, d2⟩ := cel3' hz
                    have j0 := hz.frozen 0
                    have j1 := hz.frozen 1
                    have j2 := hz.frozen 2
                    clear hz
                    clear o0 o1 o2 x10 cK hb11 l11 h10
                    obtain ⟨o0, o1, o2⟩ := cel3' o11
                    cases ok2 with
                    | false =>
                      have hres := HR.out
                      rw [if_neg Bool.false_ne_true] at hres
                      subst hres
                      have HF := Lib.hid k11.done
                      clear k11 o11 hl11
                      go_wp2_with (fail)
                      obtain ⟨-, p1, p2, p3⟩ := HF.out
                      refine bodyPost_ret (ps_result p1 rfl _ rfl) rfl ⟨_, rfl, p3.lie, p2⟩
                    | true =>
                      have hres := HR.out
                      rw [if_pos rfl] at hres
                      subst hres
                      have HF := Lib.hid (tk6_fin (r1 := r) (t1 := t ++ f.text) k11 hl11 (by have := k11.ne; omega))
                      clear k11 o11 hl11
                      go_wp2_with (fail)
                      obtain ⟨p1, p2, p3⟩ := HF.out
                      refine bodyPost_ret (ps_result p1 rfl _ rfl) rfl ⟨_, rfl, p3, p2⟩
                  · have q1 : (f.pos == nx) = false := by rw [beq_eq_false_iff_ne]; intro e; exact hfx (by rw [e]; exact HNx.out.symm)
                    have q2 : ¬ f.pos = nx := fun e => hfx (by rw [e]; exact HNx.out.symm)
                    have hPT : P = ⟨r, t, F⟩ := by rw [← hPe, if_neg (fun e => hfx (by rw [e]; rfl)), HF0.out.1]
                    have hres := Hres.out
                    rw [hPT] at hres
                    have hszF := HF0.out.2.2
                    have cK := fun sv W h => spec_piecesOk r t sv F W h (by omega) (by omega)
                    generalize piecesOk ⟨r, t, F⟩ = ok2 at *
                    have HR := Lib.hid hres
                    clear hres hPT hPe hszF hfx
                    refine wp_region_held_drew (S := fun W => W.cell? ⟨g10, 0, none⟩ = some (.int .i64 r) ∧ W.cell? ⟨g10, 1, none⟩ = some (.string t) ∧ W.cell? ⟨g10, 2, none⟩ = some (.slice (some ⟨gl, 0, none⟩) F.length tc) ∧ W.cell? ⟨gl, 0, none⟩ = some (.int .i64 f.pos) ∧ W.cell? ⟨gl, 1, none⟩ = some (.string f.text) ∧ Pp w W g7 g8 g10 r t t (.slice a ms.length c) (.slice ua ms.length uc) ms xx (.slice (some ⟨gl, 0, none⟩) F.length tc) F) (by kernel_rfl) K26 (fun hHeld => ?_)
                    refine take_yes (i := 0) (oi := { dst := some 121, op := Op.fieldAddr 26 (Operand.tmp 10) 2, type := 0, pos := "l09_pieces.go:93", after := #[], guard := none }) (v := .pointer (some ⟨g10, 2, none⟩)) rfl (by kernel_rfl) (by kernel_rfl) (by kernel_rfl) (fun _ _ _ h => h) (by rfl) (fun w hSw => by (try dsimp only at hSw); go_simp) (by assumption) ?_
                    try simp only [Act.put, List.setIfInBounds_toArray, List.set_cons_zero, List.set_cons_succ]
                    refine take_yes (i := 1) (oi := { dst := some 122, op := Op.load 24 (Operand.tmp 121), type := 24, pos := "l09_pieces.go:93", after := #[{ on := 0, ground := Ground.data }], guard := none }) (v := .slice (some ⟨gl, 0, none⟩) F.length tc) rfl (by kernel_rfl) (by kernel_rfl) (by kernel_rfl) (fun _ _ _ h => h) (by rfl) (fun w hSw => by (try dsimp only at hSw); go_simp) (by assumption) ?_
                    try simp only [Act.put, List.setIfInBounds_toArray, List.set_cons_zero, List.set_cons_succ]
                    refine take_yes (i := 2) (oi := { dst := some 123, op := Op.indexAddr 24 (Operand.tmp 122) (Operand.const (Value.int IntKind.i64 0)), type := 0, pos := "l09_pieces.go:93", after := #[{ on := 1, ground := Ground.data }], guard := none }) (v := .pointer (some ⟨gl, 0, none⟩)) rfl (by kernel_rfl) (by kernel_rfl) (by kernel_rfl) (fun _ _ _ h => h) (by rfl) (fun w hSw => by (try dsimp only at hSw); go_simp) (by assumption) ?_
                    try simp only [Act.put, List.setIfInBounds_toArray, List.set_cons_zero, List.set_cons_succ]
                    refine take_yes (i := 3) (oi := { dst := some 124, op := Op.fieldAddr 41 (Operand.tmp 123) 0, type := 0, pos := "l09_pieces.go:93", after := #[{ on := 2, ground := Ground.data }], guard := none }) (v := .pointer (some ⟨gl, 0, none⟩)) rfl (by kernel_rfl) (by kernel_rfl) (by kernel_rfl) (fun _ _ _ h => h) (by rfl) (fun w hSw => by (try dsimp only at hSw); go_simp) (by assumption) ?_
                    try simp only [Act.put, List.setIfInBounds_toArray, List.set_cons_zero, List.set_cons_succ]
                    refine take_yes (i := 4) (oi := { dst := some 125, op := Op.load 3 (Operand.tmp 124), type := 3, pos := "l09_pieces.go:93", after := #[{ on := 3, ground := Ground.data }], guard := none }) (v := .int .i64 f.pos) rfl (by kernel_rfl) (by kernel_rfl) (by kernel_rfl) (fun _ _ _ h => h) (by rfl) (fun w hSw => by (try dsimp only at hSw); go_simp) (by assumption) ?_
                    try simp only [Act.put, List.setIfInBounds_toArray, List.set_cons_zero, List.set_cons_succ]
                    refine take_yes (i := 5) (oi := { dst := some 126, op := Op.load 26 (Operand.tmp 10), type := 26, pos := "l09_pieces.go:93", after := #[], guard := none }) (v := .agg #[.int .i64 r, .string t, .slice (some ⟨gl, 0, none⟩) F.length tc]) rfl (by kernel_rfl) (by kernel_rfl) (by kernel_rfl) (fun _ _ _ h => h) (by rfl) (fun w hSw => by (try dsimp only at hSw); go_simp) (by assumption) ?_
                    try simp only [Act.put, List.setIfInBounds_toArray, List.set_cons_zero, List.set_cons_succ]
                    refine wpAnyH_ready (rs := [6]) (by kernel_rfl) (by simp) ?_
                    refine AllReadyH.cons (o := { dst := some 127, op := Op.call { callee := Callee.value (Operand.func 48), args := #[Operand.tmp 126], argTypes := #[26] }, type := 3, pos := "l09_pieces.go:93", after := #[{ on := 5, ground := Ground.data }], guard := none }) rfl (fun K hK => ?_) AllReadyH.nil
                    go_simp
                    with_reducible refine (cN2 _).mono ?_
                    rintro e w8 ⟨rfl, hb8⟩
                    have K8 := pp_all (hHeld.2.2.2.2.2.kept hb8) HF0.out.1
                    refine hK.out _ _ K8 (fun hHeldN => ?_)
                    clear hK K hHeld
                    have hHeld := hHeldN
                    clear hHeldN
                    try simp only [Act.put, List.setIfInBounds_toArray, List.set_cons_zero, List.set_cons_succ]
                    refine take_yes (i := 7) (oi := { dst := some 128, op := Op.binOp BinOp.eql 3 (Operand.tmp 125) (Operand.tmp 127) 3, type := 4, pos := "l09_pieces.go:93", after := #[{ on := 4, ground := Ground.data }, { on := 6, ground := Ground.data }], guard := none }) (v := .bool false) rfl (by kernel_rfl) (by kernel_rfl) (by kernel_rfl) (fun _ _ _ h => h) (by rfl) (fun w hSw => by (try dsimp only at hSw); go_simp) (by assumption) ?_
                    try simp only [Act.put, List.setIfInBounds_toArray, List.set_cons_zero, List.set_cons_succ]
                    refine wpAnyH_done (by kernel_rfl) ?_ _
                    clear hHeld
                    have h10 := Lib.hid (And.intro K8.2.2.2.2.2.h6 (And.intro K8.2.2.2.2.2.out K8.2.2.2.2.2.ol.lie))
                    clear K8 K26 hb8 o0 o1 o2
                    obtain ⟨o0, o1, o2⟩ := cel3' h10.out.2.1
                    have x10 := h10.out.2.2.rd
                    go_wp2_with (fail)
                    with_reducible refine (cK _ _ x10).mono ?_
                    rintro e w11 ⟨rfl, hb11⟩
                    have k11 := h10.out.1.kept hb11
                    have o11 := h10.out.2.1.kept hb11
                    have l11 := h10.out.2.2.below hb11
                    have s11 := hb11.size
                    have hl11 : LieE pcK w11 (g8 + 1) w11.heap.size (.slice (some ⟨gl, 0, none⟩) F.length tc) (F) := l11.mono (Nat.le_refl _) s11
                    obtain ⟨e0, e1, e2⟩ := cel3' k11.new
                    obtain ⟨x0, x1, x2, hz⟩ := k11.res
                    obtain ⟨d0, d1, d2⟩ := cel3' hz
                    have j0 := hz.frozen 0
                    have j1 := hz.frozen 1
                    have j2 := hz.frozen 2
                    clear hz
                    clear o0 o1 o2 x10 cK hb11 l11 h10
                    obtain ⟨o0, o1, o2⟩ := cel3' o11
                    cases ok2 with
                    | false =>
                      have hres := HR.out
                      rw [if_neg Bool.false_ne_true] at hres
                      subst hres
                      have HF := Lib.hid k11.done
                      clear k11 o11 hl11
                      go_wp2_with (fail)
                      obtain ⟨-, p1, p2, p3⟩ := HF.out
                      refine bodyPost_ret (ps_result p1 rfl _ rfl) rfl ⟨_, rfl, p3.lie, p2⟩
                    | true =>
                      have hres := HR.out
                      rw [if_pos rfl] at hres
                      subst hres
                      have HF := Lib.hid (tk6_fin (r1 := r) (t1 := t) k11 hl11 (by have := k11.ne; omega))
                      clear k11 o11 hl11
                      go_wp2_with (fail)
                      obtain ⟨p1, p2, p3⟩ := HF.out
                      refine bodyPost_ret (ps_result p1 rfl _ rfl) rfl ⟨_, rfl, p3, p2⟩
          · rw [if_neg hs0] at hxn
            clear hsk hnx0
            go_enter Try.func15, Try.ntmps15
            go_wp2_with (fail)
            with_reducible refine (cC _ (hv.below H0.out.below)).mono ?_
            rintro e w1 ⟨u, rfl, hO, hb1⟩
            obtain ⟨ua, uc, rfl, -⟩ := hO.form
            have k2 := tk6_start (H0.out.kept hb1) hO (tk4_far H0.out)
            obtain ⟨b0, b1, b2⟩ := cel3' k2.box
            have h2 := Lib.hid k2
            clear hb1 cC H0 hO k2
            go_wp2_with (fail)
            with_reducible refine (cO _ (hv.below h2.out.below)).mono ?_
            rintro e w3 ⟨rfl, hb3⟩
            have k3 := h2.out.kept hb3
            generalize w1.heap.size = g7 at *
            clear b0 b1 b2
            obtain ⟨b0, b1, b2⟩ := cel3' k3.box
            obtain ⟨e0, e1, e2⟩ := cel3' k3.new
            obtain ⟨x0, x1, x2, hz⟩ := k3.res
            obtain ⟨d0, d1, d2⟩ := cel3' hz
            have j0 := hz.frozen 0
            have j1 := hz.frozen 1
            have j2 := hz.frozen 2
            clear hz
            have h3 := Lib.hid k3
            clear hb3 cO h2 k3
            go_wp2_with (fail)
            with_reducible refine (cA _).mono ?_
            rintro e w4 ⟨rfl, rfl⟩
            clear cA
            go_wp2_with (fail)
            with_reducible refine (cL _).mono ?_
            rintro e w4 ⟨rfl, rfl⟩
            clear cL
            have hbx := below_new w3 (.cells #[.int .i64 at_, .string text] 41)
            have hx3 := Cel.new w3 41 #[.int .i64 at_, .string text]
            have H4 := Lib.hid (And.intro (h3.out.kept hbx) (And.intro hx3 h3.out.new.lt))
            clear h3 hbx hx3 e0 e1 e2 d0 d1 d2 j0 j1 j2
            go_upto_region 5 with (fail)
            clear b0 b1 b2
            generalize hw4 : w3.alloc (.cells #[.int .i64 at_, .string text] 41) = w4 at *
            clear hw4
            generalize w3.heap.size = g8 at *
            obtain ⟨b0, b1, b2⟩ := cel3' H4.out.1.box
            go_wp2_with (fail)
            with_reducible refine (cN _).mono ?_
            rintro e w5 ⟨rfl, hb5⟩
            have k5 := H4.out.1.kept hb5
            have hx5 := H4.out.2.1.kept hb5
            have n8 := H4.out.2.2
            clear b0 b1 b2 hb5 H4 cN
            obtain ⟨b0, b1, b2⟩ := cel3' k5.box
            obtain ⟨e0, e1, e2⟩ := cel3' k5.new
            obtain ⟨x0, x1, x2, hz⟩ := k5.res
            obtain ⟨d0, d1, d2⟩ := cel3' hz
            have j0 := hz.frozen 0
            have j1 := hz.frozen 1
            have j2 := hz.frozen 2
            clear hz
            have k6 := k5
            have hx6 : Cel w5 g8 41 #[.int .i64 xn.pos, .string xn.text] := by
              rw [← hxn]
              exact hx5
            clear k5 hx5 hxn
            have H6 := Lib.hid (And.intro k6 hx6)
            clear k6 hx6
            go_upto_region 10 with (fail)
            clear b0 b1 b2 e0 e1 e2 d0 d1 d2 j0 j1 j2
            generalize w5 = w6 at *
            have k6 := H6.out.1
            have hx6 := H6.out.2
            clear H6
            have hP0 := Lib.hid (Pp.start (x := xn) k6 hx6 n8)
            obtain ⟨b0, b1, b2⟩ := cel3' k6.box
            obtain ⟨g9, hg9⟩ : ∃ g9, w6.heap.size = g9 := ⟨_, rfl⟩
            clear k6 hx6
            rw [hg9] at hP0
            go_wp2_with (fail)
            clear hg9
            go_loopw [11, 12] (fun l i wr => ∃ (L : Bool) (k : Nat) (xx : Pc) (oa : Option Addr) (oc : Nat) (ol : List Pc), k ≤ ms.length ∧ l = .bool L ∧ i = .int .i64 k ∧ ol ++ putS xx L (ms.drop k) = F ∧ (0 ≤ xx.pos ∧ xx.pos ≤ 1000000200) ∧ xx.text.size + sumP (ms.drop k) ≤ 400 ∧ ol.length ≤ 21 ∧ Pp w wr g7 g8 (g9 + 1) r t t (.slice a ms.length c) (.slice ua ms.length uc) ms xx (.slice oa ol.length oc) ol) (fun _ i _ => ms.length - (intOf i).toNat)
            case atStart => exact ⟨false, 0, xn, _, 0, [], by omega, rfl, rfl, by rw [List.drop_zero]; exact HF9.out.1, HF9.out.2.1, by rw [List.drop_zero]; exact HF9.out.2.2, by simp, hP0.out⟩
            case round =>
              clear hP0 b0 b1 b2
              obtain ⟨L, k, xx, oa, oc, ol, hk, rfl, rfl, hput, hxp, hxs, hol, hPp⟩ := hrel
              generalize g9 + 1 = g10 at *
              obtain ⟨b0, b1, b2⟩ := cel3' hPp.h6.box
              by_cases hlt : k < ms.length
              · have q : (k : Int) < (ms.length : Int) := by omega
                have q2 : (0 : Int) ≤ (k : Int) := by omega
                obtain ⟨b, off, ha, hb, k0, k1, -⟩ := pc_at (P := Try.prog) (hv.below hPp.h6.below) k hlt
                subst ha
                have hyok := HV.out _ (List.getElem_mem hlt)
                have hsy := sumP_mem (List.getElem_mem hlt)
                rw [List.drop_eq_getElem_cons hlt] at hput hxs
                simp only [sumP] at hxs
                generalize ms[k] = y at *
                have hP1 := hPp.kept (below_pc wr y)
                have hy1 := Cel.new wr 41 #[.int .i64 y.pos, .string y.text]
                have HP1 := Lib.hid (And.intro hP1 hy1)
                have HGY := Lib.hid (show (Value.slice oa ol.length oc).ownBlock ≠ some wr.heap.size ∧ wr.heap.size ≠ g10 from ⟨fun e => by have := (OwnE.block hPp.ol _ e).2; omega, by have := hPp.out.lt; omega⟩)
                clear hPp hP1 hy1
                go_upto_region 17 with (fail)
                have hP1 := HP1.out.1
                have hy1 := HP1.out.2
                clear HP1 b0 b1 b2 k0 k1
                generalize wr.alloc (.cells #[.int .i64 y.pos, .string y.text] 41) = W1 at *
                generalize wr.heap.size = gy at *
                obtain ⟨c0, c1⟩ := cel2 hP1.x
                obtain ⟨y0, y1⟩ := cel2 hy1
                obtain ⟨o0, o1, o2⟩ := cel3' hP1.out
                have of2 := hP1.out.frozen 2
                have e1 : IntKind.i64.wrap (y.pos + (y.text.size : Int)) = y.pos + (y.text.size : Int) := IntWalk.i64_in _ (by omega)
                have e2 : IntKind.i64.wrap (xx.pos + (xx.text.size : Int)) = xx.pos + (xx.text.size : Int) := IntWalk.i64_in _ (by omega)
                have hP := Lib.hid hP1
                have HY := Lib.hid hy1
                clear hP1 hy1
                unfold putS at hput
                unfold Pc.fin at hput
                by_cases s1 : y.pos + (y.text.size : Int) < xx.pos
                · rw [if_pos s1] at hput
                  have hput2 : (ol ++ [y]) ++ putS xx L (ms.drop (k + 1)) = F := by rw [List.append_assoc]; exact hput
                  have hol2 : (ol ++ [y]).length ≤ 21 := by have := HFn.out.2.2; rw [← hput2] at this; simp only [List.length_append] at this ⊢; omega
                  obtain ⟨ol2, hol2⟩ : ∃ ol2, ol ++ [y] = ol2 := ⟨_, rfl⟩
                  have hP9 := hP.out.kept (below_pc W1 y)
                  have hz9 := hP9.ol
                  have hlt9 : g8 + 1 ≤ (W1.alloc (.cells #[.int .i64 y.pos, .string y.text] 41)).heap.size := by have := hP9.x.lt; omega
                  have ho9 := rd_onePc W1 y
                  have HP9 := Lib.hid hP9
                  have HO2 := Lib.hid hol2
                  clear hP9 hol2 hP
                  rw [HO2.out] at hput2 hol2
                  have HQ := Lib.hid (And.intro hput2 hol2)
                  clear hput hput2 hol2
                  go_wp2_with (at_builtin; refine wpList_append_els pcK rfl _ _ 24 24 rfl uPc uPc (g8 + 1) (.slice oa ol.length oc) _ ol [y] rfl rfl hz9 hlt9 ho9 (by simp; omega) ?_; intro v9 w9 hown hgrow hc9; rw [HO2.out] at hown; obtain ⟨ya, yc, hfe, -⟩ := OwnE.form hown; subst hfe; have hcg := HP9.out.out.grown hgrow (fun e => HP9.out.nb e.symm); obtain ⟨-, -, q2c⟩ := cel3' hcg; have q2f := hcg.frozen 2; have HN := Lib.hid (HP9.out.appended hown hgrow hc9); clear hown hgrow hc9 hcg hz9 hlt9 ho9 HP9)
                  go_roundw
                  case rel => exact ⟨L, k + 1, xx, ya, yc, ol2, by omega, rfl, by go_num, HQ.out.1, hxp, by omega, HQ.out.2, HN.out⟩
                  case measure => simp [intOf]; omega
                · rw [if_neg s1] at hput
                  by_cases s2 : xx.pos + (xx.text.size : Int) < y.pos
                  · rw [if_pos s2] at hput
                    cases L with
                    | true =>
                      have hput2 : (ol ++ [y]) ++ putS xx true (ms.drop (k + 1)) = F := by rw [List.append_assoc]; simpa using hput
                      have hol2 : (ol ++ [y]).length ≤ 21 := by have := HFn.out.2.2; rw [← hput2] at this; simp only [List.length_append] at this ⊢; omega
                      obtain ⟨ol2, hol2⟩ : ∃ ol2, ol ++ [y] = ol2 := ⟨_, rfl⟩
                      have hP9 := hP.out.kept (below_pc W1 y)
                      have hz9 := hP9.ol
                      have hlt9 : g8 + 1 ≤ (W1.alloc (.cells #[.int .i64 y.pos, .string y.text] 41)).heap.size := by have := hP9.x.lt; omega
                      have ho9 := rd_onePc W1 y
                      have HP9 := Lib.hid hP9
                      have HO2 := Lib.hid hol2
                      clear hP9 hol2 hP
                      rw [HO2.out] at hput2 hol2
                      have HQ := Lib.hid (And.intro hput2 hol2)
                      clear hput hput2 hol2
                      go_wp2_with (at_builtin; refine wpList_append_els pcK rfl _ _ 24 24 rfl uPc uPc (g8 + 1) (.slice oa ol.length oc) _ ol [y] rfl rfl hz9 hlt9 ho9 (by simp; omega) ?_; intro v9 w9 hown hgrow hc9; rw [HO2.out] at hown; obtain ⟨ya, yc, hfe, -⟩ := OwnE.form hown; subst hfe; have hcg := HP9.out.out.grown hgrow (fun e => HP9.out.nb e.symm); obtain ⟨-, -, q2c⟩ := cel3' hcg; have q2f := hcg.frozen 2; have HN := Lib.hid (HP9.out.appended hown hgrow hc9); clear hown hgrow hc9 hcg hz9 hlt9 ho9 HP9)
                      go_roundw
                      case rel => exact ⟨true, k + 1, xx, ya, yc, ol2, by omega, rfl, by go_num, HQ.out.1, hxp, by omega, HQ.out.2, HN.out⟩
                      case measure => simp [intOf]; omega
                    | false =>
                      have hput2 : ((ol ++ [xx]) ++ [y]) ++ putS xx true (ms.drop (k + 1)) = F := by rw [List.append_assoc, List.append_assoc]; simpa using hput
                      have hol2 : ((ol ++ [xx]) ++ [y]).length ≤ 21 := by have := HFn.out.2.2; rw [← hput2] at this; simp only [List.length_append] at this ⊢; omega
                      obtain ⟨ol1, hol1⟩ : ∃ ol1, ol ++ [xx] = ol1 := ⟨_, rfl⟩
                      have hP9 := hP.out.kept (below_pc W1 xx)
                      have hz9 := hP9.ol
                      have hlt9 : g8 + 1 ≤ (W1.alloc (.cells #[.int .i64 xx.pos, .string xx.text] 41)).heap.size := by have := hP9.x.lt; omega
                      have ho9 := rd_onePc W1 xx
                      have HP9 := Lib.hid hP9
                      have HO1 := Lib.hid hol1
                      clear hP9 hol1 hP
                      rw [HO1.out] at hput2 hol2
                      have hol1 : ol1.length ≤ 21 := by simp only [List.length_append] at hol2; omega
                      obtain ⟨ol2, hol3⟩ : ∃ ol2, ol1 ++ [y] = ol2 := ⟨_, rfl⟩
                      rw [hol3] at hput2 hol2
                      have HO2 := Lib.hid hol3
                      have HQ := Lib.hid (And.intro hput2 hol2)
                      clear hput hput2 hol2 hol3
                      go_upto_region 22 with (at_builtin; refine wpList_append_els pcK rfl _ _ 24 24 rfl uPc uPc (g8 + 1) (.slice oa ol.length oc) _ ol [xx] rfl rfl hz9 hlt9 ho9 (by simp; omega) ?_; intro v9 w9 hown hgrow hc9; rw [HO1.out] at hown; obtain ⟨ya, yc, hfe, -⟩ := OwnE.form hown; subst hfe; have hcg := HP9.out.out.grown hgrow (fun e => HP9.out.nb e.symm); obtain ⟨-, -, q2c⟩ := cel3' hcg; have q2f := hcg.frozen 2; have HN := Lib.hid (HP9.out.appended hown hgrow hc9); have HYg := Lib.hid (((HY.out.kept (below_pc W1 xx)).grown hgrow (fun e => HGY.out.1 e.symm)).other ⟨g10, 2, none⟩ (.slice ya ol1.length yc) HGY.out.2); clear hown hgrow hc9 hcg hz9 hlt9 ho9 HP9)
                      clear q2c q2f c0 c1 y0 y1 o0 o1 o2 of2
                      generalize w9.setCell ⟨g10, 2, none⟩ (.slice ya ol1.length yc) = W2 at *
                      obtain ⟨c0, c1⟩ := cel2 HN.out.x
                      obtain ⟨y0, y1⟩ := cel2 HYg.out
                      obtain ⟨o0, o1, o2⟩ := cel3' HN.out.out
                      have of2 := HN.out.out.frozen 2
                      have hP9 := HN.out.kept (below_pc W2 y)
                      have hz9 := hP9.ol
                      have hlt9 : g8 + 1 ≤ (W2.alloc (.cells #[.int .i64 y.pos, .string y.text] 41)).heap.size := by have := hP9.x.lt; omega
                      have ho9 := rd_onePc W2 y
                      have HP9 := Lib.hid hP9
                      clear hP9 HN HYg HY
                      go_wp2_with (at_builtin; refine wpList_append_els pcK rfl _ _ 24 24 rfl uPc uPc (g8 + 1) (.slice ya ol1.length yc) _ ol1 [y] rfl rfl hz9 hlt9 ho9 (by simp; omega) ?_; intro v9 w9 hown hgrow hc9; rw [HO2.out] at hown; obtain ⟨za, zc, hfe, -⟩ := OwnE.form hown; subst hfe; have hcg := HP9.out.out.grown hgrow (fun e => HP9.out.nb e.symm); obtain ⟨-, -, q2c⟩ := cel3' hcg; have q2f := hcg.frozen 2; have HN := Lib.hid (HP9.out.appended hown hgrow hc9); clear hown hgrow hc9 hcg hz9 hlt9 ho9 HP9)
                      go_roundw
                      case rel => exact ⟨true, k + 1, xx, za, zc, ol2, by omega, rfl, by go_num, HQ.out.1, hxp, by omega, HQ.out.2, HN.out⟩
                      case measure => simp [intOf]; omega
                  · rw [if_neg s2] at hput
                    have hmt : meets y xx := by unfold meets Pc.fin; omega
                    have cJ := fun W => spec_join y xx W (by omega) (by omega) (by omega) (by omega) (by unfold Pc.fin; omega)
                    have jp := join_pos y xx
                    have js := join_size y xx hmt
                    have hxp2 : 0 ≤ (joinP y xx).pos ∧ (joinP y xx).pos ≤ 1000000200 := by omega
                    have hxs2 : (joinP y xx).text.size + sumP (ms.drop (k + 1)) ≤ 400 := by omega
                    generalize joinP y xx = z at *
                    have HQ := Lib.hid (And.intro hput (And.intro hxp2 hxs2))
                    clear hput jp js hxp2 hxs2 hmt hxs hxp
                    go_wp2_with (fail)
                    with_reducible refine (cJ _).mono ?_
                    rintro e w9 ⟨rfl, hb9⟩
                    have hP2 := hP.out.kept hb9
                    obtain ⟨c0, c1⟩ := cel2 hP2.x
                    have f0 := hP2.x.frozen 0
                    have f1 := hP2.x.frozen 1
                    have HN := Lib.hid (hP2.setX z)
                    clear cJ hb9 hP2 hP y0 y1 o0 o1 o2 of2
                    go_wp2_with (fail)
                    go_roundw
                    case rel => exact ⟨L, k + 1, z, oa, oc, ol, by omega, rfl, by go_num, HQ.out.1, HQ.out.2.1, HQ.out.2.2, hol, HN.out⟩
                    case measure => simp [intOf]; omega
              · obtain rfl : k = ms.length := by omega
                have q : ¬ (ms.length : Int) < (ms.length : Int) := by omega
                rw [List.drop_length] at hput
                cases L with
                | true =>
                  have hFe : ol = F := by simpa [putS] using hput
                  have hT := Lib.hid hPp
                  clear hput hPp hol hxs hxp
                  rw [hFe] at hT
                  clear hFe
                  generalize oa = ta at *
                  generalize oc = tc at *
                  obtain ⟨f, fr, hF⟩ : ∃ f fr, F = f :: fr := by
                    cases F with
                    | nil => exact absurd rfl HFn.out.1
                    | cons f fr => exact ⟨f, fr, rfl⟩
                  have hlF : 0 < F.length := by rw [hF]; simp
                  have hlF2 : (0 : Int) < (F.length : Int) := by omega
                  have hsumF := HFn.out.2
                  obtain ⟨gl, hta⟩ : ∃ gl, ta = some ⟨gl, 0, none⟩ := by
                    obtain ⟨a9, c9, he, h9⟩ := hT.out.ol.form
                    injection he with e1 e2 e3
                    obtain ⟨g9, h91, -⟩ := h9 hlF
                    exact ⟨g9, by rw [e1, h91]⟩
                  subst hta
                  have HF0 := Lib.hid (And.intro hF (And.intro hlF hsumF))
                  have K26 := pp_all hT.out.drew hF
                  have cN2 := fun W => spec_nextOf r t (.slice (some ⟨gl, 0, none⟩) F.length tc) W
                  rw [hnx] at cN2
                  obtain ⟨o0, o1, o2, -, -, -⟩ := pp_all hT.out hF
                  have hPe := HPe.out
                  unfold settle at hPe
                  simp only at hPe
                  rw [hF] at hPe
                  simp only at hPe
                  have hFne : ¬ F = [] := HFn.out.1
                  clear hT hF hsumF
                  go_wp2_with (fail)
                  by_cases hfx : f.pos = nextP ⟨r, t, ms⟩
                  · have q1 : (f.pos == nx) = true := by rw [beq_iff_eq, hfx]; exact HNx.out
                    have q2 : f.pos = nx := by rw [hfx]; exact HNx.out
                    have hPT : P = ⟨r, t ++ f.text, fr⟩ := by rw [← hPe, if_pos (by rw [hfx]; rfl)]
                    have hres := Hres.out
                    rw [hPT] at hres
                    have hszF := HF0.out.2.2
                    rw [HF0.out.1] at hszF
                    simp only [sumP, List.length_cons] at hszF
                    have cK := fun sv W h => spec_piecesOk r (t ++ f.text) sv fr W h (by rw [ByteArray.size_append]; omega) (by omega)
                    have y1 : t.size + f.text.size ≤ 9223372036854775807 := by omega
                    generalize piecesOk ⟨r, t ++ f.text, fr⟩ = ok2 at *
                    have HR := Lib.hid hres
                    clear hres hPT hPe hszF hfx
                    refine wp_region_held_drew (S := fun W => W.cell? ⟨g10, 0, none⟩ = some (.int .i64 r) ∧ W.cell? ⟨g10, 1, none⟩ = some (.string t) ∧ W.cell? ⟨g10, 2, none⟩ = some (.slice (some ⟨gl, 0, none⟩) F.length tc) ∧ W.cell? ⟨gl, 0, none⟩ = some (.int .i64 f.pos) ∧ W.cell? ⟨gl, 1, none⟩ = some (.string f.text) ∧ Pp w W g7 g8 g10 r t t (.slice a ms.length c) (.slice ua ms.length uc) ms xx (.slice (some ⟨gl, 0, none⟩) F.length tc) F) (by kernel_rfl) K26 (fun hHeld => ?_)
                    refine take_yes (i := 0) (oi := { dst := some 121, op := Op.fieldAddr 26 (Operand.tmp 10) 2, type := 0, pos := "l09_pieces.go:93", after := #[], guard := none }) (v := .pointer (some ⟨g10, 2, none⟩)) rfl (by kernel_rfl) (by kernel_rfl) (by kernel_rfl) (fun _ _ _ h => h) (by rfl) (fun w hSw => by (try dsimp only at hSw); go_simp) (by assumption) ?_
                    try simp only [Act.put, List.setIfInBounds_toArray, List.set_cons_zero, List.set_cons_succ]
                    refine take_yes (i := 1) (oi := { dst := some 122, op := Op.load 24 (Operand.tmp 121), type := 24, pos := "l09_pieces.go:93", after := #[{ on := 0, ground := Ground.data }], guard := none }) (v := .slice (some ⟨gl, 0, none⟩) F.length tc) rfl (by kernel_rfl) (by kernel_rfl) (by kernel_rfl) (fun _ _ _ h => h) (by rfl) (fun w hSw => by (try dsimp only at hSw); go_simp) (by assumption) ?_
                    try simp only [Act.put, List.setIfInBounds_toArray, List.set_cons_zero, List.set_cons_succ]
                    refine take_yes (i := 2) (oi := { dst := some 123, op := Op.indexAddr 24 (Operand.tmp 122) (Operand.const (Value.int IntKind.i64 0)), type := 0, pos := "l09_pieces.go:93", after := #[{ on := 1, ground := Ground.data }], guard := none }) (v := .pointer (some ⟨gl, 0, none⟩)) rfl (by kernel_rfl) (by kernel_rfl) (by kernel_rfl) (fun _ _ _ h => h) (by rfl) (fun w hSw => by (try dsimp only at hSw); go_simp) (by assumption) ?_
                    try simp only [Act.put, List.setIfInBounds_toArray, List.set_cons_zero, List.set_cons_succ]
                    refine take_yes (i := 3) (oi := { dst := some 124, op := Op.fieldAddr 41 (Operand.tmp 123) 0, type := 0, pos := "l09_pieces.go:93", after := #[{ on := 2, ground := Ground.data }], guard := none }) (v := .pointer (some ⟨gl, 0, none⟩)) rfl (by kernel_rfl) (by kernel_rfl) (by kernel_rfl) (fun _ _ _ h => h) (by rfl) (fun w hSw => by (try dsimp only at hSw); go_simp) (by assumption) ?_
                    try simp only [Act.put, List.setIfInBounds_toArray, List.set_cons_zero, List.set_cons_succ]
                    refine take_yes (i := 4) (oi := { dst := some 125, op := Op.load 3 (Operand.tmp 124), type := 3, pos := "l09_pieces.go:93", after := #[{ on := 3, ground := Ground.data }], guard := none }) (v := .int .i64 f.pos) rfl (by kernel_rfl) (by kernel_rfl) (by kernel_rfl) (fun _ _ _ h => h) (by rfl) (fun w hSw => by (try dsimp only at hSw); go_simp) (by assumption) ?_
                    try simp only [Act.put, List.setIfInBounds_toArray, List.set_cons_zero, List.set_cons_succ]
                    refine take_yes (i := 5) (oi := { dst := some 126, op := Op.load 26 (Operand.tmp 10), type := 26, pos := "l09_pieces.go:93", after := #[], guard := none }) (v := .agg #[.int .i64 r, .string t, .slice (some ⟨gl, 0, none⟩) F.length tc]) rfl (by kernel_rfl) (by kernel_rfl) (by kernel_rfl) (fun _ _ _ h => h) (by rfl) (fun w hSw => by (try dsimp only at hSw); go_simp) (by assumption) ?_
                    try simp only [Act.put, List.setIfInBounds_toArray, List.set_cons_zero, List.set_cons_succ]
                    refine wpAnyH_ready (rs := [6]) (by kernel_rfl) (by simp) ?_
                    refine AllReadyH.cons (o := { dst := some 127, op := Op.call { callee := Callee.value (Operand.func 48), args := #[Operand.tmp 126], argTypes := #[26] }, type := 3, pos := "l09_pieces.go:93", after := #[{ on := 5, ground := Ground.data }], guard := none }) rfl (fun K hK => ?_) AllReadyH.nil
                    go_simp
                    with_reducible refine (cN2 _).mono ?_
                    rintro e w8 ⟨rfl, hb8⟩
                    have K8 := pp_all (hHeld.2.2.2.2.2.kept hb8) HF0.out.1
                    refine hK.out _ _ K8 (fun hHeldN => ?_)
                    clear hK K hHeld
                    have hHeld := hHeldN
                    clear hHeldN
                    try simp only [Act.put, List.setIfInBounds_toArray, List.set_cons_zero, List.set_cons_succ]
                    refine take_yes (i := 7) (oi := { dst := some 128, op := Op.binOp BinOp.eql 3 (Operand.tmp 125) (Operand.tmp 127) 3, type := 4, pos := "l09_pieces.go:93", after := #[{ on := 4, ground := Ground.data }, { on := 6, ground := Ground.data }], guard := none }) (v := .bool true) rfl (by kernel_rfl) (by kernel_rfl) (by kernel_rfl) (fun _ _ _ h => h) (by rfl) (fun w hSw => by (try dsimp only at hSw); go_simp) (by assumption) ?_
                    try simp only [Act.put, List.setIfInBounds_toArray, List.set_cons_zero, List.set_cons_succ]
                    refine wpAnyH_done (by kernel_rfl) ?_ _
                    clear hHeld
                    have K8p := Lib.hid K8.2.2.2.2.2.drew
                    clear K8 K26 hb8 o0 o1 o2
                    go_wp2_with (fail)
                    refine wp_region_still_tail 9 (by kernel_rfl) (by kernel_rfl) ?_
                    change wpStill _ _ w8.drew (fun a' => wpList _ _ _ _ a' w8.drew) _ _
                    generalize w8.drew = w9 at *
                    obtain ⟨o0, o1, o2, l0, l1, -⟩ := pp_all K8p.out HF0.out.1
                    have of1 := K8p.out.out.frozen 1
                    have of2 := K8p.out.out.frozen 2
                    have K10 := K8p.out.setT (t ++ f.text)
                    obtain ⟨sa, sc, hsl, -, hsv⟩ := LieE.cut_from uPc (OwnE.lie1 K10.ol) 1 HF0.out.2.1
                    have hdr : F.drop 1 = fr := by rw [HF0.out.1]; rfl
                    rw [hdr] at hsl hsv
                    have hsl2 : ∀ W', (Instr.slice 24 (.slice (some ⟨gl, 0, none⟩) F.length tc) (some (.int .i64 1)) none none).run Try.prog W' = .ok (.slice sa fr.length sc) W' := hsl
                    have h10 := Lib.hid (K10.setL (hsv _ (OwnE.lie1 K10.ol)))
                    have yy : t.size + f.text.size ≤ 9223372036854775807 := by
                      have h9 := HF0.out.2.2
                      rw [HF0.out.1] at h9
                      simp only [sumP] at h9
                      omega
                    have yz : ¬ 9223372036854775807 < t.size + f.text.size := by omega
                    clear K8p K10 hsl hsv hdr
                    simp only [List.take_succ_cons, List.take_zero, List.drop_succ_cons, List.drop_zero]
                    iterate 9 still_step
                    refine wpStill_nil ?_
                    go_upto_region 29 with (fail)
                    clear o0 o1 o2 l0 l1 of1 of2 hsl2
                    generalize (w9.setCell ⟨g10, 1, none⟩ (.string (t ++ f.text))).setCell ⟨g10, 2, none⟩ (.slice sa fr.length sc) = w10 at *
                    obtain ⟨o0, o1, o2⟩ := cel3' h10.out.2.1
                    have x10 := h10.out.2.2.rd
                    go_wp2_with (fail)
                    with_reducible refine (cK _ _ x10).mono ?_
                    rintro e w11 ⟨rfl, hb11⟩
                    have k11 := h10.out.1.kept hb11
                    have o11 := h10.out.2.1.kept hb11
                    have l11 := h10.out.2.2.below hb11
                    have s11 := hb11.size
                    have hl11 : LieE pcK w11 (g8 + 1) w11.heap.size (.slice sa fr.length sc) (fr) := l11.mono (Nat.le_refl _) s11
                    obtain ⟨e0, e1, e2⟩ := cel3' k11.new
                    obtain ⟨x0, x1, x2, hz⟩ := k11.res
                    obtain ⟨d0, d1, d2⟩ := cel3' hz
                    have j0 := hz.frozen 0
                    have j1 := hz.frozen 1
                    have j2 := hz.frozen 2
                    clear hz
                    clear o0 o1 o2 x10 cK hb11 l11 h10
                    obtain ⟨o0, o1, o2⟩ := cel3' o11
                    cases ok2 with
                    | false =>
                      have hres := HR.out
                      rw [if_neg Bool.false_ne_true] at hres
                      subst hres
                      have HF := Lib.hid k11.done
                      clear k11 o11 hl11
                      go_wp2_with (fail)
                      obtain ⟨-, p1, p2, p3⟩ := HF.out
                      refine bodyPost_ret (ps_result p1 rfl _ rfl) rfl ⟨_, rfl, p3.lie, p2⟩
                    | true =>
                      have hres := HR.out
                      rw [if_pos rfl] at hres
                      subst hres
                      have HF := Lib.hid (tk6_fin (r1 := r) (t1 := t ++ f.text) k11 hl11 (by have := k11.ne; omega))
                      clear k11 o11 hl11
                      go_wp2_with (fail)
                      obtain ⟨p1, p2, p3⟩ := HF.out
                      refine bodyPost_ret (ps_result p1 rfl _ rfl) rfl ⟨_, rfl, p3, p2⟩
                  · have q1 : (f.pos == nx) = false := by rw [beq_eq_false_iff_ne]; intro e; exact hfx (by rw [e]; exact HNx.out.symm)
                    have q2 : ¬ f.pos = nx := fun e => hfx (by rw [e]; exact HNx.out.symm)
                    have hPT : P = ⟨r, t, F⟩ := by rw [← hPe, if_neg (fun e => hfx (by rw [e]; rfl)), HF0.out.1]
                    have hres := Hres.out
                    rw [hPT] at hres
                    have hszF := HF0.out.2.2
                    have cK := fun sv W h => spec_piecesOk r t sv F W h (by omega) (by omega)
                    generalize piecesOk ⟨r, t, F⟩ = ok2 at *
                    have HR := Lib.hid hres
                    clear hres hPT hPe hszF hfx
                    refine wp_region_held_drew (S := fun W => W.cell? ⟨g10, 0, none⟩ = some (.int .i64 r) ∧ W.cell? ⟨g10, 1, none⟩ = some (.string t) ∧ W.cell? ⟨g10, 2, none⟩ = some (.slice (some ⟨gl, 0, none⟩) F.length tc) ∧ W.cell? ⟨gl, 0, none⟩ = some (.int .i64 f.pos) ∧ W.cell? ⟨gl, 1, none⟩ = some (.string f.text) ∧ Pp w W g7 g8 g10 r t t (.slice a ms.length c) (.slice ua ms.length uc) ms xx (.slice (some ⟨gl, 0, none⟩) F.length tc) F) (by kernel_rfl) K26 (fun hHeld => ?_)
                    refine take_yes (i := 0) (oi := { dst := some 121, op := Op.fieldAddr 26 (Operand.tmp 10) 2, type := 0, pos := "l09_pieces.go:93", after := #[], guard := none }) (v := .pointer (some ⟨g10, 2, none⟩)) rfl (by kernel_rfl) (by kernel_rfl) (by kernel_rfl) (fun _ _ _ h => h) (by rfl) (fun w hSw => by (try dsimp only at hSw); go_simp) (by assumption) ?_
                    try simp only [Act.put, List.setIfInBounds_toArray, List.set_cons_zero, List.set_cons_succ]
                    refine take_yes (i := 1) (oi := { dst := some 122, op := Op.load 24 (Operand.tmp 121), type := 24, pos := "l09_pieces.go:93", after := #[{ on := 0, ground := Ground.data }], guard := none }) (v := .slice (some ⟨gl, 0, none⟩) F.length tc) rfl (by kernel_rfl) (by kernel_rfl) (by kernel_rfl) (fun _ _ _ h => h) (by rfl) (fun w hSw => by (try dsimp only at hSw); go_simp) (by assumption) ?_
                    try simp only [Act.put, List.setIfInBounds_toArray, List.set_cons_zero, List.set_cons_succ]
                    refine take_yes (i := 2) (oi := { dst := some 123, op := Op.indexAddr 24 (Operand.tmp 122) (Operand.const (Value.int IntKind.i64 0)), type := 0, pos := "l09_pieces.go:93", after := #[{ on := 1, ground := Ground.data }], guard := none }) (v := .pointer (some ⟨gl, 0, none⟩)) rfl (by kernel_rfl) (by kernel_rfl) (by kernel_rfl) (fun _ _ _ h => h) (by rfl) (fun w hSw => by (try dsimp only at hSw); go_simp) (by assumption) ?_
                    try simp only [Act.put, List.setIfInBounds_toArray, List.set_cons_zero, List.set_cons_succ]
                    refine take_yes (i := 3) (oi := { dst := some 124, op := Op.fieldAddr 41 (Operand.tmp 123) 0, type := 0, pos := "l09_pieces.go:93", after := #[{ on := 2, ground := Ground.data }], guard := none }) (v := .pointer (some ⟨gl, 0, none⟩)) rfl (by kernel_rfl) (by kernel_rfl) (by kernel_rfl) (fun _ _ _ h => h) (by rfl) (fun w hSw => by (try dsimp only at hSw); go_simp) (by assumption) ?_
                    try simp only [Act.put, List.setIfInBounds_toArray, List.set_cons_zero, List.set_cons_succ]
                    refine take_yes (i := 4) (oi := { dst := some 125, op := Op.load 3 (Operand.tmp 124), type := 3, pos := "l09_pieces.go:93", after := #[{ on := 3, ground := Ground.data }], guard := none }) (v := .int .i64 f.pos) rfl (by kernel_rfl) (by kernel_rfl) (by kernel_rfl) (fun _ _ _ h => h) (by rfl) (fun w hSw => by (try dsimp only at hSw); go_simp) (by assumption) ?_
                    try simp only [Act.put, List.setIfInBounds_toArray, List.set_cons_zero, List.set_cons_succ]
                    refine take_yes (i := 5) (oi := { dst := some 126, op := Op.load 26 (Operand.tmp 10), type := 26, pos := "l09_pieces.go:93", after := #[], guard := none }) (v := .agg #[.int .i64 r, .string t, .slice (some ⟨gl, 0, none⟩) F.length tc]) rfl (by kernel_rfl) (by kernel_rfl) (by kernel_rfl) (fun _ _ _ h => h) (by rfl) (fun w hSw => by (try dsimp only at hSw); go_simp) (by assumption) ?_
                    try simp only [Act.put, List.setIfInBounds_toArray, List.set_cons_zero, List.set_cons_succ]
                    refine wpAnyH_ready (rs := [6]) (by kernel_rfl) (by simp) ?_
                    refine AllReadyH.cons (o := { dst := some 127, op := Op.call { callee := Callee.value (Operand.func 48), args := #[Operand.tmp 126], argTypes := #[26] }, type := 3, pos := "l09_pieces.go:93", after := #[{ on := 5, ground := Ground.data }], guard := none }) rfl (fun K hK => ?_) AllReadyH.nil
                    go_simp
                    with_reducible refine (cN2 _).mono ?_
                    rintro e w8 ⟨rfl, hb8⟩
                    have K8 := pp_all (hHeld.2.2.2.2.2.kept hb8) HF0.out.1
                    refine hK.out _ _ K8 (fun hHeldN => ?_)
                    clear hK K hHeld
                    have hHeld := hHeldN
                    clear hHeldN
                    try simp only [Act.put, List.setIfInBounds_toArray, List.set_cons_zero, List.set_cons_succ]
                    refine take_yes (i := 7) (oi := { dst := some 128, op := Op.binOp BinOp.eql 3 (Operand.tmp 125) (Operand.tmp 127) 3, type := 4, pos := "l09_pieces.go:93", after := #[{ on := 4, ground := Ground.data }, { on := 6, ground := Ground.data }], guard := none }) (v := .bool false) rfl (by kernel_rfl) (by kernel_rfl) (by kernel_rfl) (fun _ _ _ h => h) (by rfl) (fun w hSw => by (try dsimp only at hSw); go_simp) (by assumption) ?_
                    try simp only [Act.put, List.setIfInBounds_toArray, List.set_cons_zero, List.set_cons_succ]
                    refine wpAnyH_done (by kernel_rfl) ?_ _
                    clear hHeld
                    have h10 := Lib.hid (And.intro K8.2.2.2.2.2.h6 (And.intro K8.2.2.2.2.2.out K8.2.2.2.2.2.ol.lie))
                    clear K8 K26 hb8 o0 o1 o2
                    obtain ⟨o0, o1, o2⟩ := cel3' h10.out.2.1
                    have x10 := h10.out.2.2.rd
                    go_wp2_with (fail)
                    with_reducible refine (cK _ _ x10).mono ?_
                    rintro e w11 ⟨rfl, hb11⟩
                    have k11 := h10.out.1.kept hb11
                    have o11 := h10.out.2.1.kept hb11
                    have l11 := h10.out.2.2.below hb11
                    have s11 := hb11.size
                    have hl11 : LieE pcK w11 (g8 + 1) w11.heap.size (.slice (some ⟨gl, 0, none⟩) F.length tc) (F) := l11.mono (Nat.le_refl _) s11
                    obtain ⟨e0, e1, e2⟩ := cel3' k11.new
                    obtain ⟨x0, x1, x2, hz⟩ := k11.res
                    obtain ⟨d0, d1, d2⟩ := cel3' hz
                    have j0 := hz.frozen 0
                    have j1 := hz.frozen 1
                    have j2 := hz.frozen 2
                    clear hz
                    clear o0 o1 o2 x10 cK hb11 l11 h10
                    obtain ⟨o0, o1, o2⟩ := cel3' o11
                    cases ok2 with
                    | false =>
                      have hres := HR.out
                      rw [if_neg Bool.false_ne_true] at hres
                      subst hres
                      have HF := Lib.hid k11.done
                      clear k11 o11 hl11
                      go_wp2_with (fail)
                      obtain ⟨-, p1, p2, p3⟩ := HF.out
                      refine bodyPost_ret (ps_result p1 rfl _ rfl) rfl ⟨_, rfl, p3.lie, p2⟩
                    | true =>
                      have hres := HR.out
                      rw [if_pos rfl] at hres
                      subst hres
                      have HF := Lib.hid (tk6_fin (r1 := r) (t1 := t) k11 hl11 (by have := k11.ne; omega))
                      clear k11 o11 hl11
                      go_wp2_with (fail)
                      obtain ⟨p1, p2, p3⟩ := HF.out
                      refine bodyPost_ret (ps_result p1 rfl _ rfl) rfl ⟨_, rfl, p3, p2⟩
                | false =>
                  have hFe : ol ++ [xx] = F := by simpa [putS] using hput
                  obtain ⟨c0, c1⟩ := cel2 hPp.x
                  obtain ⟨o0, o1, o2⟩ := cel3' hPp.out
                  have of2 := hPp.out.frozen 2
                  have hP := Lib.hid hPp
                  clear hput hPp hxs hxp
                  have hol2 := hFe
                  have hP9 := hP.out.kept (below_pc wr xx)
                  have hz9 := hP9.ol
                  have hlt9 : g8 + 1 ≤ (wr.alloc (.cells #[.int .i64 xx.pos, .string xx.text] 41)).heap.size := by have := hP9.x.lt; omega
                  have ho9 := rd_onePc wr xx
                  have HP9 := Lib.hid hP9
                  have HO2 := Lib.hid hol2
                  clear hP9 hol2 hP
                  clear hFe
                  go_upto_region 26 with (at_builtin; refine wpList_append_els pcK rfl _ _ 24 24 rfl uPc uPc (g8 + 1) (.slice oa ol.length oc) _ ol [xx] rfl rfl hz9 hlt9 ho9 (by simp; omega) ?_; intro v9 w9 hown hgrow hc9; rw [HO2.out] at hown; obtain ⟨ta, tc, hfe, -⟩ := OwnE.form hown; subst hfe; have hcg := HP9.out.out.grown hgrow (fun e => HP9.out.nb e.symm); obtain ⟨-, -, q2c⟩ := cel3' hcg; have q2f := hcg.frozen 2; have hT := Lib.hid (HP9.out.appended hown hgrow hc9); clear hown hgrow hc9 hcg hz9 hlt9 ho9 HP9)
                  clear q2c q2f c0 c1 o0 o1 o2 of2 b0 b1 b2
                  generalize w9.setCell ⟨g10, 2, none⟩ (.slice ta F.length tc) = wt at *
                  obtain ⟨f, fr, hF⟩ : ∃ f fr, F = f :: fr := by
                    cases F with
                    | nil => exact absurd rfl HFn.out.1
                    | cons f fr => exact ⟨f, fr, rfl⟩
                  have hlF : 0 < F.length := by rw [hF]; simp
                  have hlF2 : (0 : Int) < (F.length : Int) := by omega
                  have hsumF := HFn.out.2
                  obtain ⟨gl, hta⟩ : ∃ gl, ta = some ⟨gl, 0, none⟩ := by
                    obtain ⟨a9, c9, he, h9⟩ := hT.out.ol.form
                    injection he with e1 e2 e3
                    obtain ⟨g9, h91, -⟩ := h9 hlF
                    exact ⟨g9, by rw [e1, h91]⟩
                  subst hta
                  have HF0 := Lib.hid (And.intro hF (And.intro hlF hsumF))
                  have K26 := pp_all hT.out.drew hF
                  have cN2 := fun W => spec_nextOf r t (.slice (some ⟨gl, 0, none⟩) F.length tc) W
                  rw [hnx] at cN2
                  obtain ⟨o0, o1, o2, -, -, -⟩ := pp_all hT.out hF
                  have hPe := HPe.out
                  unfold settle at hPe
                  simp only at hPe
                  rw [hF] at hPe
                  simp only at hPe
                  have hFne : ¬ F = [] := HFn.out.1
                  clear hT hF hsumF
                  go_wp2_with (fail)
                  by_cases hfx : f.pos = nextP ⟨r, t, ms⟩
                  · have q1 : (f.pos == nx) = true := by rw [beq_iff_eq, hfx]; exact HNx.out
                    have q2 : f.pos = nx := by rw [hfx]; exact HNx.out
                    have hPT : P = ⟨r, t ++ f.text, fr⟩ := by rw [← hPe, if_pos (by rw [hfx]; rfl)]
                    have hres := Hres.out
                    rw [hPT] at hres
                    have hszF := HF0.out.2.2
                    rw [HF0.out.1] at hszF
                    simp only [sumP, List.length_cons] at hszF
                    have cK := fun sv W h => spec_piecesOk r (t ++ f.text) sv fr W h (by rw [ByteArray.size_append]; omega) (by omega)
                    have y1 : t.size + f.text.size ≤ 9223372036854775807 := by omega
                    generalize piecesOk ⟨r, t ++ f.text, fr⟩ = ok2 at *
                    have HR := Lib.hid hres
                    clear hres hPT hPe hszF hfx
                    refine wp_region_held_drew (S := fun W => W.cell? ⟨g10, 0, none⟩ = some (.int .i64 r) ∧ W.cell? ⟨g10, 1, none⟩ = some (.string t) ∧ W.cell? ⟨g10, 2, none⟩ = some (.slice (some ⟨gl, 0, none⟩) F.length tc) ∧ W.cell? ⟨gl, 0, none⟩ = some (.int .i64 f.pos) ∧ W.cell? ⟨gl, 1, none⟩ = some (.string f.text) ∧ Pp w W g7 g8 g10 r t t (.slice a ms.length c) (.slice ua ms.length uc) ms xx (.slice (some ⟨gl, 0, none⟩) F.length tc) F) (by kernel_rfl) K26 (fun hHeld => ?_)
                    refine take_yes (i := 0) (oi := { dst := some 121, op := Op.fieldAddr 26 (Operand.tmp 10) 2, type := 0, pos := "l09_pieces.go:93", after := #[], guard := none }) (v := .pointer (some ⟨g10, 2, none⟩)) rfl (by kernel_rfl) (by kernel_rfl) (by kernel_rfl) (fun _ _ _ h => h) (by rfl) (fun w hSw => by (try dsimp only at hSw); go_simp) (by assumption) ?_
                    try simp only [Act.put, List.setIfInBounds_toArray, List.set_cons_zero, List.set_cons_succ]
                    refine take_yes (i := 1) (oi := { dst := some 122, op := Op.load 24 (Operand.tmp 121), type := 24, pos := "l09_pieces.go:93", after := #[{ on := 0, ground := Ground.data }], guard := none }) (v := .slice (some ⟨gl, 0, none⟩) F.length tc) rfl (by kernel_rfl) (by kernel_rfl) (by kernel_rfl) (fun _ _ _ h => h) (by rfl) (fun w hSw => by (try dsimp only at hSw); go_simp) (by assumption) ?_
                    try simp only [Act.put, List.setIfInBounds_toArray, List.set_cons_zero, List.set_cons_succ]
                    refine take_yes (i := 2) (oi := { dst := some 123, op := Op.indexAddr 24 (Operand.tmp 122) (Operand.const (Value.int IntKind.i64 0)), type := 0, pos := "l09_pieces.go:93", after := #[{ on := 1, ground := Ground.data }], guard := none }) (v := .pointer (some ⟨gl, 0, none⟩)) rfl (by kernel_rfl) (by kernel_rfl) (by kernel_rfl) (fun _ _ _ h => h) (by rfl) (fun w hSw => by (try dsimp only at hSw); go_simp) (by assumption) ?_
                    try simp only [Act.put, List.setIfInBounds_toArray, List.set_cons_zero, List.set_cons_succ]
                    refine take_yes (i := 3) (oi := { dst := some 124, op := Op.fieldAddr 41 (Operand.tmp 123) 0, type := 0, pos := "l09_pieces.go:93", after := #[{ on := 2, ground := Ground.data }], guard := none }) (v := .pointer (some ⟨gl, 0, none⟩)) rfl (by kernel_rfl) (by kernel_rfl) (by kernel_rfl) (fun _ _ _ h => h) (by rfl) (fun w hSw => by (try dsimp only at hSw); go_simp) (by assumption) ?_
                    try simp only [Act.put, List.setIfInBounds_toArray, List.set_cons_zero, List.set_cons_succ]
                    refine take_yes (i := 4) (oi := { dst := some 125, op := Op.load 3 (Operand.tmp 124), type := 3, pos := "l09_pieces.go:93", after := #[{ on := 3, ground := Ground.data }], guard := none }) (v := .int .i64 f.pos) rfl (by kernel_rfl) (by kernel_rfl) (by kernel_rfl) (fun _ _ _ h => h) (by rfl) (fun w hSw => by (try dsimp only at hSw); go_simp) (by assumption) ?_
                    try simp only [Act.put, List.setIfInBounds_toArray, List.set_cons_zero, List.set_cons_succ]
                    refine take_yes (i := 5) (oi := { dst := some 126, op := Op.load 26 (Operand.tmp 10), type := 26, pos := "l09_pieces.go:93", after := #[], guard := none }) (v := .agg #[.int .i64 r, .string t, .slice (some ⟨gl, 0, none⟩) F.length tc]) rfl (by kernel_rfl) (by kernel_rfl) (by kernel_rfl) (fun _ _ _ h => h) (by rfl) (fun w hSw => by (try dsimp only at hSw); go_simp) (by assumption) ?_
                    try simp only [Act.put, List.setIfInBounds_toArray, List.set_cons_zero, List.set_cons_succ]
                    refine wpAnyH_ready (rs := [6]) (by kernel_rfl) (by simp) ?_
                    refine AllReadyH.cons (o := { dst := some 127, op := Op.call { callee := Callee.value (Operand.func 48), args := #[Operand.tmp 126], argTypes := #[26] }, type := 3, pos := "l09_pieces.go:93", after := #[{ on := 5, ground := Ground.data }], guard := none }) rfl (fun K hK => ?_) AllReadyH.nil
                    go_simp
                    with_reducible refine (cN2 _).mono ?_
                    rintro e w8 ⟨rfl, hb8⟩
                    have K8 := pp_all (hHeld.2.2.2.2.2.kept hb8) HF0.out.1
                    refine hK.out _ _ K8 (fun hHeldN => ?_)
                    clear hK K hHeld
                    have hHeld := hHeldN
                    clear hHeldN
                    try simp only [Act.put, List.setIfInBounds_toArray, List.set_cons_zero, List.set_cons_succ]
                    refine take_yes (i := 7) (oi := { dst := some 128, op := Op.binOp BinOp.eql 3 (Operand.tmp 125) (Operand.tmp 127) 3, type := 4, pos := "l09_pieces.go:93", after := #[{ on := 4, ground := Ground.data }, { on := 6, ground := Ground.data }], guard := none }) (v := .bool true) rfl (by kernel_rfl) (by kernel_rfl) (by kernel_rfl) (fun _ _ _ h => h) (by rfl) (fun w hSw => by (try dsimp only at hSw); go_simp) (by assumption) ?_
                    try simp only [Act.put, List.setIfInBounds_toArray, List.set_cons_zero, List.set_cons_succ]
                    refine wpAnyH_done (by kernel_rfl) ?_ _
                    clear hHeld
                    have K8p := Lib.hid K8.2.2.2.2.2.drew
                    clear K8 K26 hb8 o0 o1 o2
                    go_wp2_with (fail)
                    refine wp_region_still_tail 9 (by kernel_rfl) (by kernel_rfl) ?_
                    change wpStill _ _ w8.drew (fun a' => wpList _ _ _ _ a' w8.drew) _ _
                    generalize w8.drew = w9 at *
                    obtain ⟨o0, o1, o2, l0, l1, -⟩ := pp_all K8p.out HF0.out.1
                    have of1 := K8p.out.out.frozen 1
                    have of2 := K8p.out.out.frozen 2
                    have K10 := K8p.out.setT (t ++ f.text)
                    obtain ⟨sa, sc, hsl, -, hsv⟩ := LieE.cut_from uPc (OwnE.lie1 K10.ol) 1 HF0.out.2.1
                    have hdr : F.drop 1 = fr := by rw [HF0.out.1]; rfl
                    rw [hdr] at hsl hsv
                    have hsl2 : ∀ W', (Instr.slice 24 (.slice (some ⟨gl, 0, none⟩) F.length tc) (some (.int .i64 1)) none none).run Try.prog W' = .ok (.slice sa fr.length sc) W' := hsl
                    have h10 := Lib.hid (K10.setL (hsv _ (OwnE.lie1 K10.ol)))
                    have yy : t.size + f.text.size ≤ 9223372036854775807 := by
                      have h9 := HF0.out.2.2
                      rw [HF0.out.1] at h9
                      simp only [sumP] at h9
                      omega
                    have yz : ¬ 9223372036854775807 < t.size + f.text.size := by omega
                    clear K8p K10 hsl hsv hdr
                    simp only [List.take_succ_cons, List.take_zero, List.drop_succ_cons, List.drop_zero]
                    iterate 9 still_step
                    refine wpStill_nil ?_
                    go_upto_region 29 with (fail)
                    clear o0 o1 o2 l0 l1 of1 of2 hsl2
                    generalize (w9.setCell ⟨g10, 1, none⟩ (.string (t ++ f.text))).setCell ⟨g10, 2, none⟩ (.slice sa fr.length sc) = w10 at *
                    obtain ⟨o0, o1, o2⟩ := cel3' h10.out.2.1
                    have x10 := h10.out.2.2.rd
                    go_wp2_with (fail)
                    with_reducible refine (cK _ _ x10).mono ?_
                    rintro e w11 ⟨rfl, hb11⟩
                    have k11 := h10.out.1.kept hb11
                    have o11 := h10.out.2.1.kept hb11
                    have l11 := h10.out.2.2.below hb11
                    have s11 := hb11.size
                    have hl11 : LieE pcK w11 (g8 + 1) w11.heap.size (.slice sa fr.length sc) (fr) := l11.mono (Nat.le_refl _) s11
                    obtain ⟨e0, e1, e2⟩ := cel3' k11.new
                    obtain ⟨x0, x1, x2, hz⟩ := k11.res
                    obtain ⟨d0, d1, d2⟩ := cel3' hz
                    have j0 := hz.frozen 0
                    have j1 := hz.frozen 1
                    have j2 := hz.frozen 2
                    clear hz
                    clear o0 o1 o2 x10 cK hb11 l11 h10
                    obtain ⟨o0, o1, o2⟩ := cel3' o11
                    cases ok2 with
                    | false =>
                      have hres := HR.out
                      rw [if_neg Bool.false_ne_true] at hres
                      subst hres
                      have HF := Lib.hid k11.done
                      clear k11 o11 hl11
                      go_wp2_with (fail)
                      obtain ⟨-, p1, p2, p3⟩ := HF.out
                      refine bodyPost_ret (ps_result p1 rfl _ rfl) rfl ⟨_, rfl, p3.lie, p2⟩
                    | true =>
                      have hres := HR.out
                      rw [if_pos rfl] at hres
                      subst hres
                      have HF := Lib.hid (tk6_fin (r1 := r) (t1 := t ++ f.text) k11 hl11 (by have := k11.ne; omega))
                      clear k11 o11 hl11
                      go_wp2_with (fail)
                      obtain ⟨p1, p2, p3⟩ := HF.out
                      refine bodyPost_ret (ps_result p1 rfl _ rfl) rfl ⟨_, rfl, p3, p2⟩
                  · have q1 : (f.pos == nx) = false := by rw [beq_eq_false_iff_ne]; intro e; exact hfx (by rw [e]; exact HNx.out.symm)
                    have q2 : ¬ f.pos = nx := fun e => hfx (by rw [e]; exact HNx.out.symm)
                    have hPT : P = ⟨r, t, F⟩ := by rw [← hPe, if_neg (fun e => hfx (by rw [e]; rfl)), HF0.out.1]
                    have hres := Hres.out
                    rw [hPT] at hres
                    have hszF := HF0.out.2.2
                    have cK := fun sv W h => spec_piecesOk r t sv F W h (by omega) (by omega)
                    generalize piecesOk ⟨r, t, F⟩ = ok2 at *
                    have HR := Lib.hid hres
                    clear hres hPT hPe hszF hfx
                    refine wp_region_held_drew (S := fun W => W.cell? ⟨g10, 0, none⟩ = some (.int .i64 r) ∧ W.cell? ⟨g10, 1, none⟩ = some (.string t) ∧ W.cell? ⟨g10, 2, none⟩ = some (.slice (some ⟨gl, 0, none⟩) F.length tc) ∧ W.cell? ⟨gl, 0, none⟩ = some (.int .i64 f.pos) ∧ W.cell? ⟨gl, 1, none⟩ = some (.string f.text) ∧ Pp w W g7 g8 g10 r t t (.slice a ms.length c) (.slice ua ms.length uc) ms xx (.slice (some ⟨gl, 0, none⟩) F.length tc) F) (by kernel_rfl) K26 (fun hHeld => ?_)
                    refine take_yes (i := 0) (oi := { dst := some 121, op := Op.fieldAddr 26 (Operand.tmp 10) 2, type := 0, pos := "l09_pieces.go:93", after := #[], guard := none }) (v := .pointer (some ⟨g10, 2, none⟩)) rfl (by kernel_rfl) (by kernel_rfl) (by kernel_rfl) (fun _ _ _ h => h) (by rfl) (fun w hSw => by (try dsimp only at hSw); go_simp) (by assumption) ?_
                    try simp only [Act.put, List.setIfInBounds_toArray, List.set_cons_zero, List.set_cons_succ]
                    refine take_yes (i := 1) (oi := { dst := some 122, op := Op.load 24 (Operand.tmp 121), type := 24, pos := "l09_pieces.go:93", after := #[{ on := 0, ground := Ground.data }], guard := none }) (v := .slice (some ⟨gl, 0, none⟩) F.length tc) rfl (by kernel_rfl) (by kernel_rfl) (by kernel_rfl) (fun _ _ _ h => h) (by rfl) (fun w hSw => by (try dsimp only at hSw); go_simp) (by assumption) ?_
                    try simp only [Act.put, List.setIfInBounds_toArray, List.set_cons_zero, List.set_cons_succ]
                    refine take_yes (i := 2) (oi := { dst := some 123, op := Op.indexAddr 24 (Operand.tmp 122) (Operand.const (Value.int IntKind.i64 0)), type := 0, pos := "l09_pieces.go:93", after := #[{ on := 1, ground := Ground.data }], guard := none }) (v := .pointer (some ⟨gl, 0, none⟩)) rfl (by kernel_rfl) (by kernel_rfl) (by kernel_rfl) (fun _ _ _ h => h) (by rfl) (fun w hSw => by (try dsimp only at hSw); go_simp) (by assumption) ?_
                    try simp only [Act.put, List.setIfInBounds_toArray, List.set_cons_zero, List.set_cons_succ]
                    refine take_yes (i := 3) (oi := { dst := some 124, op := Op.fieldAddr 41 (Operand.tmp 123) 0, type := 0, pos := "l09_pieces.go:93", after := #[{ on := 2, ground := Ground.data }], guard := none }) (v := .pointer (some ⟨gl, 0, none⟩)) rfl (by kernel_rfl) (by kernel_rfl) (by kernel_rfl) (fun _ _ _ h => h) (by rfl) (fun w hSw => by (try dsimp only at hSw); go_simp) (by assumption) ?_
                    try simp only [Act.put, List.setIfInBounds_toArray, List.set_cons_zero, List.set_cons_succ]
                    refine take_yes (i := 4) (oi := { dst := some 125, op := Op.load 3 (Operand.tmp 124), type := 3, pos := "l09_pieces.go:93", after := #[{ on := 3, ground := Ground.data }], guard := none }) (v := .int .i64 f.pos) rfl (by kernel_rfl) (by kernel_rfl) (by kernel_rfl) (fun _ _ _ h => h) (by rfl) (fun w hSw => by (try dsimp only at hSw); go_simp) (by assumption) ?_
                    try simp only [Act.put, List.setIfInBounds_toArray, List.set_cons_zero, List.set_cons_succ]
                    refine take_yes (i := 5) (oi := { dst := some 126, op := Op.load 26 (Operand.tmp 10), type := 26, pos := "l09_pieces.go:93", after := #[], guard := none }) (v := .agg #[.int .i64 r, .string t, .slice (some ⟨gl, 0, none⟩) F.length tc]) rfl (by kernel_rfl) (by kernel_rfl) (by kernel_rfl) (fun _ _ _ h => h) (by rfl) (fun w hSw => by (try dsimp only at hSw); go_simp) (by assumption) ?_
                    try simp only [Act.put, List.setIfInBounds_toArray, List.set_cons_zero, List.set_cons_succ]
                    refine wpAnyH_ready (rs := [6]) (by kernel_rfl) (by simp) ?_
                    refine AllReadyH.cons (o := { dst := some 127, op := Op.call { callee := Callee.value (Operand.func 48), args := #[Operand.tmp 126], argTypes := #[26] }, type := 3, pos := "l09_pieces.go:93", after := #[{ on := 5, ground := Ground.data }], guard := none }) rfl (fun K hK => ?_) AllReadyH.nil
                    go_simp
                    with_reducible refine (cN2 _).mono ?_
                    rintro e w8 ⟨rfl, hb8⟩
                    have K8 := pp_all (hHeld.2.2.2.2.2.kept hb8) HF0.out.1
                    refine hK.out _ _ K8 (fun hHeldN => ?_)
                    clear hK K hHeld
                    have hHeld := hHeldN
                    clear hHeldN
                    try simp only [Act.put, List.setIfInBounds_toArray, List.set_cons_zero, List.set_cons_succ]
                    refine take_yes (i := 7) (oi := { dst := some 128, op := Op.binOp BinOp.eql 3 (Operand.tmp 125) (Operand.tmp 127) 3, type := 4, pos := "l09_pieces.go:93", after := #[{ on := 4, ground := Ground.data }, { on := 6, ground := Ground.data }], guard := none }) (v := .bool false) rfl (by kernel_rfl) (by kernel_rfl) (by kernel_rfl) (fun _ _ _ h => h) (by rfl) (fun w hSw => by (try dsimp only at hSw); go_simp) (by assumption) ?_
                    try simp only [Act.put, List.setIfInBounds_toArray, List.set_cons_zero, List.set_cons_succ]
                    refine wpAnyH_done (by kernel_rfl) ?_ _
                    clear hHeld
                    have h10 := Lib.hid (And.intro K8.2.2.2.2.2.h6 (And.intro K8.2.2.2.2.2.out K8.2.2.2.2.2.ol.lie))
                    clear K8 K26 hb8 o0 o1 o2
                    obtain ⟨o0, o1, o2⟩ := cel3' h10.out.2.1
                    have x10 := h10.out.2.2.rd
                    go_wp2_with (fail)
                    with_reducible refine (cK _ _ x10).mono ?_
                    rintro e w11 ⟨rfl, hb11⟩
                    have k11 := h10.out.1.kept hb11
                    have o11 := h10.out.2.1.kept hb11
                    have l11 := h10.out.2.2.below hb11
                    have s11 := hb11.size
                    have hl11 : LieE pcK w11 (g8 + 1) w11.heap.size (.slice (some ⟨gl, 0, none⟩) F.length tc) (F) := l11.mono (Nat.le_refl _) s11
                    obtain ⟨e0, e1, e2⟩ := cel3' k11.new
                    obtain ⟨x0, x1, x2, hz⟩ := k11.res
                    obtain ⟨d0, d1, d2⟩ := cel3' hz
                    have j0 := hz.frozen 0
                    have j1 := hz.frozen 1
                    have j2 := hz.frozen 2
                    clear hz
                    clear o0 o1 o2 x10 cK hb11 l11 h10
                    obtain ⟨o0, o1, o2⟩ := cel3' o11
                    cases ok2 with
                    | false =>
                      have hres := HR.out
                      rw [if_neg Bool.false_ne_true] at hres
                      subst hres
                      have HF := Lib.hid k11.done
                      clear k11 o11 hl11
                      go_wp2_with (fail)
                      obtain ⟨-, p1, p2, p3⟩ := HF.out
                      refine bodyPost_ret (ps_result p1 rfl _ rfl) rfl ⟨_, rfl, p3.lie, p2⟩
                    | true =>
                      have hres := HR.out
                      rw [if_pos rfl] at hres
                      subst hres
                      have HF := Lib.hid (tk6_fin (r1 := r) (t1 := t) k11 hl11 (by have := k11.ne; omega))
                      clear k11 o11 hl11
                      go_wp2_with (fail)
                      obtain ⟨p1, p2, p3⟩ := HF.out
                      refine bodyPost_ret (ps_result p1 rfl _ rfl) rfl ⟨_, rfl, p3, p2⟩
        · rw [if_neg (fun h => by have := h.1.2.2.2; rw [show nextP ⟨r, t, ms⟩ = nx from hnx0] at this; omega)] at hres
          subst hres
          have q4 : (text.size : Int) ≤ sk := by omega
          clear hok hr0 hml hsum hokp hnx0 HNx hsk
          go_enter Try.func15, Try.ntmps15
          go_wp2_with (fail)
          with_reducible refine (cC _ (hv.below H0.out.below)).mono ?_
          rintro e w1 ⟨u, rfl, hO, hb1⟩
          obtain ⟨ua, uc, rfl, -⟩ := hO.form
          have k2 := tk6_start (H0.out.kept hb1) hO (tk4_far H0.out)
          obtain ⟨b0, b1, b2⟩ := cel3' k2.box
          have h2 := Lib.hid k2
          clear hb1 cC H0 hO k2
          go_wp2_with (fail)
          with_reducible refine (cO _ (hv.below h2.out.below)).mono ?_
          rintro e w3 ⟨rfl, hb3⟩
          have k3 := h2.out.kept hb3
          generalize w1.heap.size = g7 at *
          clear b0 b1 b2
          obtain ⟨b0, b1, b2⟩ := cel3' k3.box
          obtain ⟨e0, e1, e2⟩ := cel3' k3.new
          obtain ⟨x0, x1, x2, hz⟩ := k3.res
          obtain ⟨d0, d1, d2⟩ := cel3' hz
          have j0 := hz.frozen 0
          have j1 := hz.frozen 1
          have j2 := hz.frozen 2
          clear hz
          have h3 := Lib.hid k3
          clear hb3 cO h2 k3
          go_wp2_with (fail)
          with_reducible refine (cA _).mono ?_
          rintro e w4 ⟨rfl, rfl⟩
          clear cA
          go_wp2_with (fail)
          with_reducible refine (cL _).mono ?_
          rintro e w4 ⟨rfl, rfl⟩
          clear cL
          have hbx := below_new w3 (.cells #[.int .i64 at_, .string text] 41)
          have hx3 := Cel.new w3 41 #[.int .i64 at_, .string text]
          have H4 := Lib.hid (And.intro (h3.out.kept hbx) (And.intro hx3 h3.out.new.lt))
          clear h3 hbx hx3 e0 e1 e2 d0 d1 d2 j0 j1 j2
          go_upto_region 5 with (fail)
          clear b0 b1 b2
          generalize hw4 : w3.alloc (.cells #[.int .i64 at_, .string text] 41) = w4 at *
          clear hw4
          generalize w3.heap.size = g8 at *
          obtain ⟨b0, b1, b2⟩ := cel3' H4.out.1.box
          go_wp2_with (fail)
          with_reducible refine (cN _).mono ?_
          rintro e w5 ⟨rfl, hb5⟩
          have k5 := H4.out.1.kept hb5
          have hx5 := H4.out.2.1.kept hb5
          have n8 := H4.out.2.2
          clear b0 b1 b2 hb5 H4 cN
          obtain ⟨b0, b1, b2⟩ := cel3' k5.box
          obtain ⟨e0, e1, e2⟩ := cel3' k5.new
          obtain ⟨x0, x1, x2, hz⟩ := k5.res
          obtain ⟨d0, d1, d2⟩ := cel3' hz
          have j0 := hz.frozen 0
          have j1 := hz.frozen 1
          have j2 := hz.frozen 2
          clear hz
          have h5 := Lib.hid k5
          clear k5 hx5
          have HF := Lib.hid h5.out.done
          clear h5
          go_wp2_with (fail)
          obtain ⟨-, p1, p2, p3⟩ := HF.out
          refine bodyPost_ret (ps_result p1 rfl _ rfl) rfl ⟨_, rfl, p3.lie, p2⟩
      · rw [decide_eq_false c3] at cL
        rw [if_neg (fun h => by have := h.1.2.2.1; omega)] at hres
        subst hres
        clear hok hr0 hml hsum hokp cN
        go_enter Try.func15, Try.ntmps15
        go_wp2_with (fail)
        with_reducible refine (cC _ (hv.below H0.out.below)).mono ?_
        rintro e w1 ⟨u, rfl, hO, hb1⟩
        obtain ⟨ua, uc, rfl, -⟩ := hO.form
        have k2 := tk6_start (H0.out.kept hb1) hO (tk4_far H0.out)
        obtain ⟨b0, b1, b2⟩ := cel3' k2.box
        have h2 := Lib.hid k2
        clear hb1 cC H0 hO k2
        go_wp2_with (fail)
        with_reducible refine (cO _ (hv.below h2.out.below)).mono ?_
        rintro e w3 ⟨rfl, hb3⟩
        have k3 := h2.out.kept hb3
        generalize w1.heap.size = g7 at *
        clear b0 b1 b2
        obtain ⟨b0, b1, b2⟩ := cel3' k3.box
        obtain ⟨e0, e1, e2⟩ := cel3' k3.new
        obtain ⟨x0, x1, x2, hz⟩ := k3.res
        obtain ⟨d0, d1, d2⟩ := cel3' hz
        have j0 := hz.frozen 0
        have j1 := hz.frozen 1
        have j2 := hz.frozen 2
        clear hz
        have h3 := Lib.hid k3
        clear hb3 cO h2 k3
        go_wp2_with (fail)
        with_reducible refine (cA _).mono ?_
        rintro e w4 ⟨rfl, rfl⟩
        clear cA
        go_wp2_with (fail)
        with_reducible refine (cL _).mono ?_
        rintro e w4 ⟨rfl, rfl⟩
        clear cL
        have HF := Lib.hid h3.out.done
        clear h3
        go_wp2_with (fail)
        obtain ⟨-, p1, p2, p3⟩ := HF.out
        refine bodyPost_ret (ps_result p1 rfl _ rfl) rfl ⟨_, rfl, p3.lie, p2⟩
    · rw [decide_eq_false c2] at cA
      rw [if_neg (fun h => by have := h.1.2.1; omega)] at hres
      subst hres
      clear hok hr0 hml hsum hokp cL cN
      go_enter Try.func15, Try.ntmps15
      go_wp2_with (fail)
      with_reducible refine (cC _ (hv.below H0.out.below)).mono ?_
      rintro e w1 ⟨u, rfl, hO, hb1⟩
      obtain ⟨ua, uc, rfl, -⟩ := hO.form
      have k2 := tk6_start (H0.out.kept hb1) hO (tk4_far H0.out)
      obtain ⟨b0, b1, b2⟩ := cel3' k2.box
      have h2 := Lib.hid k2
      clear hb1 cC H0 hO k2
      go_wp2_with (fail)
      with_reducible refine (cO _ (hv.below h2.out.below)).mono ?_
      rintro e w3 ⟨rfl, hb3⟩
      have k3 := h2.out.kept hb3
      generalize w1.heap.size = g7 at *
      clear b0 b1 b2
      obtain ⟨b0, b1, b2⟩ := cel3' k3.box
      obtain ⟨e0, e1, e2⟩ := cel3' k3.new
      obtain ⟨x0, x1, x2, hz⟩ := k3.res
      obtain ⟨d0, d1, d2⟩ := cel3' hz
      have j0 := hz.frozen 0
      have j1 := hz.frozen 1
      have j2 := hz.frozen 2
      clear hz
      have h3 := Lib.hid k3
      clear hb3 cO h2 k3
      go_wp2_with (fail)
      with_reducible refine (cA _).mono ?_
      rintro e w4 ⟨rfl, rfl⟩
      clear cA
      have HF := Lib.hid h3.out.done
      clear h3
      go_wp2_with (fail)
      obtain ⟨-, p1, p2, p3⟩ := HF.out
      refine bodyPost_ret (ps_result p1 rfl _ rfl) rfl ⟨_, rfl, p3.lie, p2⟩
end Go.Proofs.Ytdajfnonehianaa
