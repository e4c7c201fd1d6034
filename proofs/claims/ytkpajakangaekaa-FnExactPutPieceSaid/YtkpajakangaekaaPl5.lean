import Derived.Test.YtkpajakangaekaaPqd
import Derived.Test.YtkpajakangaekaaPsp
import Derived.Test.YtkpajakangaekaaPpu
namespace Go.Proofs.Ytkpajakangaekaa
open Go.RowKit

theorem put_len (p : Ps) (a : Int) (t : ByteArray) : (putPiece p a t).list.length ≤ p.list.length + 20 := by
  unfold putPiece
  split
  · rename_i h
    have h2 := h.2
    unfold piecesOk at h2
    split at h2
    · omega
    · cases h2
  · omega

set_option maxRecDepth 100000 in
set_option maxHeartbeats 8000000 in
theorem putpiece_law (r : Int) (t : ByteArray) (v : Value) (ms : List Pc) (at_ : Int) (text : ByteArray) (w : World) (hv : RdP w v ms) (hn : ms.length ≤ 9223372036854775807) (ht : t.size ≤ 9223372036854775807) (hs : ∀ x ∈ ms, x.text.size ≤ 9223372036854775807) (hm : text.size ≤ maxLen) :
    Calls Try.prog 7 #[.agg #[.int .i64 r, .string t, v], .int .i64 at_, .string text] w fun e w' => e = .returned (.bool true) ∧ Below w.heap.size w w' := by
  have hB1 := below_new w (.cells #[.int .i64 r, .string t, v] 41)
  have A1 : Cel (w.alloc (.cells #[.int .i64 r, .string t, v] 41)) w.heap.size 41 #[.int .i64 r, .string t, v] := Cel.new w _ _
  have hv0 := hv
  obtain ⟨va, vc, rfl⟩ := hv.form
  clear hv
  have hv := hv0
  clear hv0
  unfold maxLen at hm
  by_cases ht1 : (1048576 : Int) < (text.size : Int)
  · have HB1 := Lib.hid hB1
    clear hB1 A1 hv hs
    go_enter Try.func7, Try.ntmps7
    go_wp2_with (fail)
    go_ret
    exact ⟨rfl, HB1.out⟩
  have z1 := sz_pieces r t _ ms 1048576 _ (hv.below hB1) hn ht hs (by omega) (by omega)
  obtain ⟨z, hz, hz0⟩ := ps_fit t ms
  rw [hz] at z1
  by_cases h1 : z < 0
  · have HB1 := Lib.hid hB1
    clear hz hz0 hv hs A1 hB1
    go_enter Try.func7, Try.ntmps7
    go_wp2_with (fail)
    with_reducible refine z1.mono ?_
    rintro e w1 ⟨rfl, hb1⟩
    have HB2 := Lib.hid (Below.then_ HB1.out hb1)
    clear hb1 HB1 z1
    go_wp2_with (fail)
    go_ret
    exact ⟨rfl, HB2.out⟩
  · obtain ⟨f1, f2⟩ := hz0 (by omega)
    have cT := fun W (h : Below w.heap.size w W) => to_pieces r t _ ms W (hv.below h) (by omega)
    have cS := fun u W h => spec_putPiece r t u ms at_ text W h (by omega) (by omega)
    have cI := fun u B C W h => impl_putPiece r t u ms at_ text B C W h (by omega) (by omega) (by omega)
    have cE := fun u1 u2 W h1 h2 => eq_pieces r t u1 u2 ms W h1 h2 (by omega)
    have hol := (show (putPiece ⟨r, t, ms⟩ at_ text).list.length ≤ 1048600 from by have := put_len ⟨r, t, ms⟩ at_ text; simp only at this; omega)
    generalize (putPiece ⟨r, t, ms⟩ at_ text).read = r' at *
    generalize (putPiece ⟨r, t, ms⟩ at_ text).ready = t' at *
    skip
    generalize (putPiece ⟨r, t, ms⟩ at_ text).list = os at *
    have cEo := fun u1 u2 W h1 h2 => eq_pieces r' t' u1 u2 os W h1 h2 (by omega)
    have H1 := Lib.hid (And.intro hB1 A1)
    clear hz hz0 hs f1 hB1 A1
    go_enter Try.func7, Try.ntmps7
    go_wp2_with (fail)
    with_reducible refine z1.mono ?_
    rintro e w1 ⟨rfl, hb1⟩
    obtain ⟨a0, a1, a2⟩ := cel3' (H1.out.2.kept hb1)
    have H2 := Lib.hid (And.intro (Below.then_ H1.out.1 hb1) (H1.out.2.kept hb1))
    clear z1 H1 hb1
    go_wp2_with (fail)
    with_reducible refine (cT _ H2.out.1).mono ?_
    rintro e w2 ⟨u2, rfl, ho2, hb2⟩
    obtain ⟨ua, uc, rfl, -⟩ := ho2.form
    have x2 := ho2.rd
    have H3 := Lib.hid (And.intro (Below.then_ H2.out.1 hb2) (H2.out.2.kept hb2))
    clear a0 a1 a2 ho2 hb2 H2
    go_wp2_with (fail)
    with_reducible refine (cS _ _ x2).mono ?_
    rintro e w3 ⟨u3, rfl, ho3, hb3⟩
    obtain ⟨ma, mc, rfl, -⟩ := ho3.form
    have hbn := below_new w3 (.cells #[.int .i64 r', .string t', .slice ma os.length mc] 28)
    have Q3 : Qm w (w3.alloc (.cells #[.int .i64 r', .string t', .slice ma os.length mc] 28)) w.heap.size w3.heap.size w2.heap.size r r' t t' (.slice va ms.length vc) (.slice ma os.length mc) os :=
      ⟨(H3.out.2.kept hb3).kept hbn, Cel.new _ _ _, (ho3.keep hbn (Nat.le_refl _)), Below.then_ (Below.then_ H3.out.1 hb3) hbn, rfl, H3.out.2.lt⟩
    have o5 : w2.heap.size ≤ w3.heap.size := hb3.size
    obtain ⟨a0, a1, a2⟩ := Q3.cells
    have H4 := Lib.hid Q3
    clear ho3 hb3 hbn Q3 x2 H3
    go_wp2_with (fail)
    with_reducible refine (cT _ H4.out.b).mono ?_
    rintro e w4 ⟨u4, rfl, ho4, hb4⟩
    obtain ⟨xa, xc, rfl, -⟩ := ho4.form
    have hbn := below_new w4 (.cells #[.int .i64 r, .string t, .slice xa ms.length xc] 28)
    have Q4 : Qx w (w4.alloc (.cells #[.int .i64 r, .string t, .slice xa ms.length xc] 28)) w.heap.size w3.heap.size w4.heap.size w2.heap.size (w3.alloc (.cells #[.int .i64 r', .string t', .slice ma os.length mc] 28)).heap.size r r' t t' (.slice va ms.length vc) (.slice ma os.length mc) (.slice xa ms.length xc) os ms :=
      ⟨(H4.out.kept hb4).kept hbn, Cel.new _ _ _, ho4.keep hbn (Nat.le_refl _), by simp⟩
    have o6 : (w3.alloc (.cells #[.int .i64 r', .string t', .slice ma os.length mc] 28)).heap.size ≤ w4.heap.size := hb4.size
    generalize (w3.alloc (.cells #[.int .i64 r', .string t', .slice ma os.length mc] 28)).heap.size = bx at *
    generalize w3.heap.size = gm at *
    generalize w2.heap.size = bm at *
    obtain ⟨b0, b1, b2⟩ := Q4.cells
    have x4 := Q4.xr.lie
    have H5 := Lib.hid Q4
    clear a0 a1 a2 ho4 hb4 hbn Q4 H4
    go_wp2_with (fail)
    with_reducible refine (cI _ _ _ _ x4).mono ?_
    rintro e w5 ⟨u5, rfl, ho5, hb5⟩
    obtain ⟨ga, gc, rfl, -⟩ := ho5.form
    have hbn := below_new w5 (.cells #[.int .i64 r', .string t', .slice ga os.length gc] 28)
    have Q5 : Qd w (w5.alloc (.cells #[.int .i64 r', .string t', .slice ga os.length gc] 28)) w.heap.size gm w4.heap.size w5.heap.size bm bx (w4.alloc (.cells #[.int .i64 r, .string t, .slice xa ms.length xc] 28)).heap.size r r' t t' (.slice va ms.length vc) (.slice ma os.length mc) (.slice xa ms.length xc) (.slice ga os.length gc) os ms os :=
      ⟨(H5.out.kept hb5).kept hbn, Cel.new _ _ _, ho5.keep hbn (Nat.le_refl _), by simp, o5, o6, hb5.size⟩
    generalize (w4.alloc (.cells #[.int .i64 r, .string t, .slice xa ms.length xc] 28)).heap.size = bg at *
    generalize w4.heap.size = gx at *
    have x6 := Q5.gr.rd
    have y6 := Q5.mr.rd
    obtain ⟨-, ⟨m0, m1, m2⟩, -, ⟨g0, g1, g2⟩⟩ := Q5.cells
    have H6 := Lib.hid Q5
    clear b0 b1 b2 ho5 hb5 hbn Q5 H5 x4 o5 o6
    go_wp2_with (fail)
    with_reducible refine (cEo _ _ _ x6 y6).mono ?_
    rintro e w6 ⟨rfl, hb6⟩
    have Q6 := (H6.out.kept hb6).drew
    generalize w5.heap.size = gg at *
    have S6 : (w6.drew.cell? ⟨w.heap.size, 0, none⟩ = some (.int .i64 r) ∧ w6.drew.cell? ⟨w.heap.size, 1, none⟩ = some (.string t) ∧ w6.drew.cell? ⟨w.heap.size, 2, none⟩ = some (.slice va ms.length vc)) ∧ (w6.drew.cell? ⟨gx, 0, none⟩ = some (.int .i64 r) ∧ w6.drew.cell? ⟨gx, 1, none⟩ = some (.string t) ∧ w6.drew.cell? ⟨gx, 2, none⟩ = some (.slice xa ms.length xc)) ∧ Qd w w6.drew w.heap.size gm gx gg bm bx bg r r' t t' (.slice va ms.length vc) (.slice ma os.length mc) (.slice xa ms.length xc) (.slice ga os.length gc) os ms os := ⟨Q6.cells.1, Q6.cells.2.2.1, Q6⟩
    have cA := fun W (h : Qd w W w.heap.size gm gx gg bm bx bg r r' t t' (.slice va ms.length vc) (.slice ma os.length mc) (.slice xa ms.length xc) (.slice ga os.length gc) os ms os) => cT W h.b
    have eB := fun u W (h : Qd w W w.heap.size gm gx gg bm bx bg r r' t t' (.slice va ms.length vc) (.slice ma os.length mc) (.slice xa ms.length xc) (.slice ga os.length gc) os ms os) h2 => cE _ u W h.xr.rd h2
    clear m0 m1 m2 g0 g1 g2 hb6 H6 x6 y6 cS Q6
    go_wp2_with (fail)
    go_region_held3 (fun W => (W.cell? ⟨w.heap.size, 0, none⟩ = some (.int .i64 r) ∧ W.cell? ⟨w.heap.size, 1, none⟩ = some (.string t) ∧ W.cell? ⟨w.heap.size, 2, none⟩ = some (.slice va ms.length vc)) ∧ (W.cell? ⟨gx, 0, none⟩ = some (.int .i64 r) ∧ W.cell? ⟨gx, 1, none⟩ = some (.string t) ∧ W.cell? ⟨gx, 2, none⟩ = some (.slice xa ms.length xc)) ∧ Qd w W w.heap.size gm gx gg bm bx bg r r' t t' (.slice va ms.length vc) (.slice ma os.length mc) (.slice xa ms.length xc) (.slice ga os.length gc) os ms os)
      (first | exact S6 | exact (fun h hb => have h2 := Qd.kept h hb; ⟨(Qd.cells h2).1, (Qd.cells h2).2.2.1, h2⟩) (And.right (And.right (by assumption))) (by assumption) | exact qd_keep (by assumption) (by assumption) | go_keep)
      (first
        | (go_at_call 22; (with_reducible refine (cA _ ?_).mono ?_); (simp only [*]); rintro e w7 ⟨u7, rfl, hp, hb7⟩; obtain ⟨ya, yc, rfl, -⟩ := hp.form; have y7 := hp.rd; clear hp)
        | (go_at_call 23; (with_reducible refine (eB _ _ ?_ ?_).mono ?_); (simp only [*]); (exact y7); rintro e w8 ⟨rfl, hb8⟩))
    have S8 : (w8.cell? ⟨w.heap.size, 0, none⟩ = some (.int .i64 r) ∧ w8.cell? ⟨w.heap.size, 1, none⟩ = some (.string t) ∧ w8.cell? ⟨w.heap.size, 2, none⟩ = some (.slice va ms.length vc)) ∧ (w8.cell? ⟨gx, 0, none⟩ = some (.int .i64 r) ∧ w8.cell? ⟨gx, 1, none⟩ = some (.string t) ∧ w8.cell? ⟨gx, 2, none⟩ = some (.slice xa ms.length xc)) ∧ Qd w w8 w.heap.size gm gx gg bm bx bg r r' t t' (.slice va ms.length vc) (.slice ma os.length mc) (.slice xa ms.length xc) (.slice ga os.length gc) os ms os := by assumption
    have Q8 := S8.2.2
    clear S6 S8 y7 hb7 hb8 cA eB
    have cm := mark_pieces r t _ ms w8 bx gx 1 Q8.xr (by omega) (by omega) (by omega) (Nat.le_of_lt Q8.x.lt) (by have := Q8.o6; have := Q8.x.lt; omega)
    have ck := fun W (h : OwnP W bg gg (.slice ga os.length gc) os) h1 h2 => mark_pieces r' t' _ os W bg gg 1 h (by omega) (by omega) (by omega) h1 h2
    have ch := fun u W h => held_pieces r' t' u 1 os.length W h (by omega) (by omega) (by omega)
    rw [show (((1 : Nat) : Int)) = (1 : Int) from rfl] at cm ck ch
    have hq1 : ¬ ((1 + ms.length * 2 : Nat) : Int) < 0 := by omega
    have hq2 : ¬ ((1 + os.length * 2 : Nat) : Int) < 0 := by omega
    generalize ((1 + ms.length * 2 : Nat) : Int) = k1 at *
    generalize ((1 + os.length * 2 : Nat) : Int) = k2 at *
    obtain ⟨-, -, ⟨b0, b1, b2⟩, -⟩ := Q8.cells
    have H8 := Lib.hid Q8
    clear Q8
    go_wp2_with (fail)
    with_reducible refine cm.mono ?_
    rintro e w9 ⟨rfl, hx9, hb9, hg9⟩
    have Q9 := H8.out.markX hx9 hb9 hg9
    have x9 := Q9.gr.rd
    have y9 := Q9.mr.rd
    obtain ⟨-, ⟨m0, m1, m2⟩, -, ⟨g0, g1, g2⟩⟩ := Q9.cells
    have H9 := Lib.hid Q9
    clear H8 hx9 hb9 hg9 cm Q9 b0 b1 b2
    go_wp2_with (fail)
    with_reducible refine (cEo _ _ _ x9 y9).mono ?_
    rintro e w10 ⟨rfl, hb10⟩
    have Q10 := H9.out.kept hb10
    have hlo := Nat.le_of_lt Q10.g.lt
    have hlb : bg ≤ w10.heap.size := Nat.le_trans Q10.o7 hlo
    have o10 := Q10.gr
    obtain ⟨-, -, -, ⟨g0, g1, g2⟩⟩ := Q10.cells
    have H10 := Lib.hid Q10
    clear H9 hb10 Q10 x9 y9 m0 m1 m2
    go_wp2_with (fail)
    with_reducible refine (ck _ o10 hlo hlb).mono ?_
    rintro e w11 ⟨rfl, hx11, hb11, hg11⟩
    have Q11 := H10.out.markG hx11 hb11 hg11
    have x11 := Q11.gr.rd
    obtain ⟨-, -, -, ⟨g0, g1, g2⟩⟩ := Q11.cells
    have H11 := Lib.hid Q11
    clear H10 hx11 hb11 hg11 Q11 ck o10 hlo hlb
    go_wp2_with (fail)
    with_reducible refine (ch _ _ x11).mono ?_
    rintro e w12 ⟨rfl, hb12⟩
    have Q12 := H11.out.kept hb12
    obtain ⟨⟨a0, a1, a2⟩, -, -, -⟩ := Q12.cells
    have H12 := Lib.hid Q12
    clear H11 hb12 Q12 x11 g0 g1 g2
    go_wp2_with (fail)
    with_reducible refine (cT _ H12.out.b).mono ?_
    rintro e w13 ⟨u13, rfl, ho13, hb13⟩
    obtain ⟨pa, pc, rfl, -⟩ := ho13.form
    have x13 := ho13.lie
    have H13 := Lib.hid (H12.out.kept hb13)
    clear a0 a1 a2 ho13 hb13 H12
    go_wp2_with (fail)
    with_reducible refine (cI _ _ _ _ x13).mono ?_
    rintro e w14 ⟨u14, rfl, ho14, hb14⟩
    obtain ⟨ha, hc, rfl, -⟩ := ho14.form
    have hbn := below_new w14 (.cells #[.int .i64 r', .string t', .slice ha os.length hc] 28)
    have Q14 := (H13.out.kept hb14).kept hbn
    have hC14 := Cel.new w14 28 #[.int .i64 r', .string t', .slice ha os.length hc]
    have x14 := (ho14.rd).below hbn
    have y14 := Q14.mr.rd
    obtain ⟨-, ⟨m0, m1, m2⟩, -, -⟩ := Q14.cells
    have H14 := Lib.hid Q14
    clear ho14 hb14 hbn Q14 H13 x13 hC14
    go_wp2_with (fail)
    with_reducible refine (cEo _ _ _ x14 y14).mono ?_
    rintro e w15 ⟨rfl, hb15⟩
    have Q15 := H14.out.kept hb15
    have x15 := Q15.gr.rd
    obtain ⟨-, -, -, ⟨g0, g1, g2⟩⟩ := Q15.cells
    have H15 := Lib.hid Q15
    clear H14 hb15 Q15 x14 y14 m0 m1 m2
    go_wp2_with (fail)
    with_reducible refine (ch _ _ x15).mono ?_
    rintro e w16 ⟨rfl, hb16⟩
    have HB := Lib.hid (H15.out.kept hb16).b
    clear H15 hb16 x15 g0 g1 g2
    go_wp2_with (fail)
    go_ret
    exact ⟨rfl, HB.out⟩

end Go.Proofs.Ytkpajakangaekaa
