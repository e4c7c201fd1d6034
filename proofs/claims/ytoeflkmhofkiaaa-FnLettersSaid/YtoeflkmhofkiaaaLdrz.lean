import Derived.Test.YtoeflkmhofkiaaaLstz
import Derived.Test.YtoeflkmhofkiaaaZ2
import Derived.Test.YtoeflkmhofkiaaaLtoz
import Derived.Test.YtoeflkmhofkiaaaLspz
namespace Go.Proofs.Ytoeflkmhofkiaaa
open Go.RowKit
set_option maxRecDepth 100000

/-- Some number out of a list that the call makes. -/
theorem pick_dr (g : Nat) (v : Value) (n : Nat) (W : World) (hd : Dr W g v n) (k : Nat) (cs : Array Value) (zs : List Int) (hk : zs.length = k) (hcs : (zs.map (Value.int .i64)).toArray = cs) (h0 : 0 < k) (hl : k ≤ 1000) :
    Calls Try.prog 64 #[.pointer (some ⟨g, 0, none⟩), .slice (some ⟨W.heap.size, 0, none⟩) k k] (W.alloc (.cells cs 3)) fun e w' => ∃ z : Int, z ∈ zs ∧ e = .returned (.int .i64 z) ∧ Dr w' g v n ∧ Grew g W w' := by
  have hg := hd.blk
  refine (pick_mem g v n _ (hd.kept (below_ints W cs)) W.heap.size k k cs zs hk hcs (Cel.new W 3 cs) (by omega) h0 hl).mono ?_
  rintro e w' ⟨z, hz, rfl, hd', ho⟩
  exact ⟨z, hz, rfl, hd', ((Grew.refl g W).then (below_ints W cs)).only ho⟩

/-- One of a list of texts. -/
theorem pick_strD (g : Nat) (v : Value) (n : Nat) (w : World) (hd : Dr w g v n) (b cap k : Nat) (zs : List ByteArray) (hk : zs.length = k) (hc : Cel w b 9 (zs.map Value.string).toArray) (hb : b ≠ g) (h0 : 0 < zs.length) (hl : zs.length ≤ 1000) :
    Calls Try.prog 75 #[.pointer (some ⟨g, 0, none⟩), .slice (some ⟨b, 0, none⟩) k cap] w fun e w' => ∃ t ∈ zs, e = .returned (.string t) ∧ Dr w' g v n ∧ Only g w w' := by
  subst hk
  have cb := below_dr g v n zs.length w hd h0 (by omega)
  go_enter Try.func75, Try.ntmps75
  go_wp2_with (fail)
  with_reducible refine cb.mono ?_
  rintro e w1 ⟨r, hr, rfl, d1, o1⟩
  have hcell : w1.cell? ⟨b, r, none⟩ = some (.string (zs[r]'hr)) := by
    rw [(hc.only o1 hb).cell r]
    simp [hr]
  have q : (r : Int) < (zs.length : Int) := by omega
  have q0 : (0 : Int) ≤ (r : Int) := by omega
  go_wp2_with (fail)
  go_ret
  exact ⟨_, List.getElem_mem hr, rfl, d1, o1⟩

/-- While a message is drawn: the result's block, the message's box, the cursor. -/
structure LB (w W : World) (g : Nat) (v : Value) (n b3 : Nat) (cs : Array Value) : Prop where
  c0 : Cel W w.heap.size 41 #[.int .i64 0, .int .i64 0, .int .i64 0, .int .i64 0, .int .i64 0, .int .i64 0, .int .i64 0, .int .i64 0, .int .i64 0, .int .i64 0, .int .i64 0, .int .i64 0, .int .i64 0, .int .i64 0, .int .i64 0, .int .i64 0, .bool false, .int .i64 0, .string ⟨#[]⟩]
  c3 : Cel W b3 41 cs
  d : Dr W g v n
  gr : Grew g w W
  hg : g < w.heap.size
  l3 : w.heap.size < b3
section
variable {w W W' : World} {g n b3 : Nat} {v : Value} {cs : Array Value}
theorem LB.grew (h : LB w W g v n b3 cs) (ho : Grew g W W') (hd : Dr W' g v n) : LB w W' g v n b3 cs :=
  have h1 := h.hg
  have h3 := h.l3
  ⟨h.c0.grew ho (by omega), h.c3.grew ho (by omega), hd, h.gr.trans ho, h.hg, h.l3⟩
theorem LB.kept (h : LB w W g v n b3 cs) (hb : Below W.heap.size W W') : LB w W' g v n b3 cs :=
  ⟨h.c0.kept hb, h.c3.kept hb, h.d.kept hb, h.gr.then (hb.mono h.gr.size), h.hg, h.l3⟩
theorem LB.set (h : LB w W g v n b3 cs) (i : Nat) (x : Value) : LB w (W.setCell ⟨b3, i, none⟩ x) g v n b3 (cs.setIfInBounds i x) := by
  have h1 := h.hg
  have h3 := h.l3
  have hB : Below b3 W (W.setCell ⟨b3, i, none⟩ x) := (Below.refl _ _).setCell (p := ⟨b3, i, none⟩) (Nat.le_refl _) _
  exact ⟨h.c0.below hB h3, h.c3.set i x, h.d.below hB (by omega), h.gr.then (hB.mono (by omega)), h.hg, h.l3⟩
theorem LB.make (m : Lv) (h0 : Cel W w.heap.size 41 #[.int .i64 0, .int .i64 0, .int .i64 0, .int .i64 0, .int .i64 0, .int .i64 0, .int .i64 0, .int .i64 0, .int .i64 0, .int .i64 0, .int .i64 0, .int .i64 0, .int .i64 0, .int .i64 0, .int .i64 0, .int .i64 0, .bool false, .int .i64 0, .string ⟨#[]⟩]) (hd : Dr W g v n) (gr : Grew g w W) (hg : g < w.heap.size) : LB w ((W.alloc (.cells #[.int .i64 0, .int .i64 0, .int .i64 0, .int .i64 0, .int .i64 0, .int .i64 0, .int .i64 0, .int .i64 0, .int .i64 0, .int .i64 0, .int .i64 0, .int .i64 0, .int .i64 0, .int .i64 0, .int .i64 0, .int .i64 0, .bool false, .int .i64 0, .string ⟨#[]⟩] 41)).setRow W.heap.size (lvC m)) g v n W.heap.size (lvC m) := by
  have hB : Below W.heap.size W ((W.alloc (.cells #[.int .i64 0, .int .i64 0, .int .i64 0, .int .i64 0, .int .i64 0, .int .i64 0, .int .i64 0, .int .i64 0, .int .i64 0, .int .i64 0, .int .i64 0, .int .i64 0, .int .i64 0, .int .i64 0, .int .i64 0, .int .i64 0, .bool false, .int .i64 0, .string ⟨#[]⟩] 41)).setRow W.heap.size (lvC m)) := below_row (below_new _ _) (Nat.le_refl _) _
  exact ⟨h0.kept hB, Cel.row (t := 41) (Cel.new W 41 #[.int .i64 0, .int .i64 0, .int .i64 0, .int .i64 0, .int .i64 0, .int .i64 0, .int .i64 0, .int .i64 0, .int .i64 0, .int .i64 0, .int .i64 0, .int .i64 0, .int .i64 0, .int .i64 0, .int .i64 0, .int .i64 0, .bool false, .int .i64 0, .string ⟨#[]⟩]) _, hd.kept hB, gr.then (hB.mono gr.size), hg, h0.lt⟩
theorem LB.of {m : Lv} (h : LB w W g v n b3 cs) (hm : cs = lvC m) : LB w W g v n b3 (lvC m) := hm ▸ h
/-- The result's block takes the whole of the message. -/
theorem LB.give {m : Lv} (h : LB w W g v n b3 (lvC m)) : Cel (W.setRow w.heap.size (lvC m)) w.heap.size 41 (lvC m) ∧ Dr (W.setRow w.heap.size (lvC m)) g v n ∧ Grew g w (W.setRow w.heap.size (lvC m)) := by
  have hB : Below w.heap.size W (W.setRow w.heap.size (lvC m)) := below_row (Below.refl _ _) (Nat.le_refl _) _
  exact ⟨Cel.row (t := 41) h.c0 _, h.d.below hB h.hg, h.gr.then hB⟩
end

set_option linter.unusedSimpArgs false in
set_option maxRecDepth 100000 in
set_option maxHeartbeats 8000000 in
theorem letter_dr (g : Nat) (v : Value) (n : Nat) (w : World) (hd : Dr w g v n) :
    Calls Try.prog 69 #[.pointer (some ⟨g, 0, none⟩)] w fun e w' => ∃ m : Lv, e = .returned (.agg (lvC m)) ∧ m.text.size ≤ 64 ∧ Dr w' g v n ∧ Grew g w w' := by
  have hg := hd.blk
  have hb0 := below_new w (.cells #[.int .i64 0, .int .i64 0, .int .i64 0, .int .i64 0, .int .i64 0, .int .i64 0, .int .i64 0, .int .i64 0, .int .i64 0, .int .i64 0, .int .i64 0, .int .i64 0, .int .i64 0, .int .i64 0, .int .i64 0, .int .i64 0, .bool false, .int .i64 0, .string ⟨#[]⟩] 41)
  have hd0 := hd.kept hb0
  have HE0 := Lib.hid (And.intro (Cel.new w 41 #[.int .i64 0, .int .i64 0, .int .i64 0, .int .i64 0, .int .i64 0, .int .i64 0, .int .i64 0, .int .i64 0, .int .i64 0, .int .i64 0, .int .i64 0, .int .i64 0, .int .i64 0, .int .i64 0, .int .i64 0, .int .i64 0, .bool false, .int .i64 0, .string ⟨#[]⟩]) (Grew.then (Grew.refl g w) hb0))
  clear hb0 hd
  go_enter Try.func69, Try.ntmps69
  go_wp2_with (fail)
  with_reducible refine (bel_dr g v n 13 13 rfl _ hd0 (by omega) (by omega)).mono ?_
  rintro e w1 ⟨r1, hr1, rfl, hd1, o1⟩
  have HE1 := Lib.hid (And.intro (HE0.out.1.only o1 (by omega)) (HE0.out.2.only o1))
  have e1 : IntKind.i64.wrap (1 + (r1 : Int)) = 1 + (r1 : Int) := IntWalk.i64_in _ (by omega)
  clear HE0 o1 hd0
  go_wp2_with (fail)
  with_reducible refine (pick_dr g v n _ hd1 5 #[.int .i64 11, .int .i64 12, .int .i64 21, .int .i64 22, .int .i64 31] [11, 12, 21, 22, 31] rfl rfl (by omega) (by omega)).mono ?_
  rintro e w2 ⟨r2, -, rfl, hd2, o2⟩
  have HE2 := Lib.hid (And.intro (HE1.out.1.grew o2 (by omega)) (HE1.out.2.trans o2))
  clear HE1 o2 hd1
  go_wp2_with (fail)
  with_reducible refine (pick_dr g v n _ hd2 5 #[.int .i64 11, .int .i64 12, .int .i64 21, .int .i64 22, .int .i64 31] [11, 12, 21, 22, 31] rfl rfl (by omega) (by omega)).mono ?_
  rintro e w3 ⟨r3, -, rfl, hd3, o3⟩
  have HE3 := Lib.hid (And.intro (HE2.out.1.grew o3 (by omega)) (HE2.out.2.trans o3))
  clear HE2 o3 hd2
  go_wp2_with (fail)
  with_reducible refine (bel_dr g v n 3 3 rfl _ hd3 (by omega) (by omega)).mono ?_
  rintro e w4 ⟨r4, hr4, rfl, hd4, o4⟩
  have HE4 := Lib.hid (And.intro (HE3.out.1.only o4 (by omega)) (HE3.out.2.only o4))
  clear HE3 o4 hd3
  go_wp2_with (fail)
  with_reducible refine (bel_dr g v n 3 3 rfl _ hd4 (by omega) (by omega)).mono ?_
  rintro e w5 ⟨r5, hr5, rfl, hd5, o5⟩
  have HE5 := Lib.hid (And.intro (HE4.out.1.only o5 (by omega)) (HE4.out.2.only o5))
  clear HE4 o5 hd4
  go_wp2_with (fail)
  with_reducible refine (pick_dr g v n _ hd5 3 #[.int .i64 101, .int .i64 102, .int .i64 7] [101, 102, 7] rfl rfl (by omega) (by omega)).mono ?_
  rintro e w6 ⟨r6, -, rfl, hd6, o6⟩
  have HE6 := Lib.hid (And.intro (HE5.out.1.grew o6 (by omega)) (HE5.out.2.trans o6))
  clear HE5 o6 hd5
  go_wp2_with (fail)
  with_reducible refine (bel_dr g v n 9 9 rfl _ hd6 (by omega) (by omega)).mono ?_
  rintro e w7 ⟨r7, hr7, rfl, hd7, o7⟩
  have HE7 := Lib.hid (And.intro (HE6.out.1.only o7 (by omega)) (HE6.out.2.only o7))
  clear HE6 o7 hd6
  go_wp2_with (fail)
  with_reducible refine (bel_dr g v n 9 9 rfl _ hd7 (by omega) (by omega)).mono ?_
  rintro e w8 ⟨r8, hr8, rfl, hd8, o8⟩
  have HE8 := Lib.hid (And.intro (HE7.out.1.only o8 (by omega)) (HE7.out.2.only o8))
  clear HE7 o8 hd7
  go_wp2_with (fail)
  with_reducible refine (bel_dr g v n 9 9 rfl _ hd8 (by omega) (by omega)).mono ?_
  rintro e w9 ⟨r9, hr9, rfl, hd9, o9⟩
  have HE9 := Lib.hid (And.intro (HE8.out.1.only o9 (by omega)) (HE8.out.2.only o9))
  clear HE8 o9 hd8
  go_wp2_with (fail)
  with_reducible refine (bel_dr g v n 4 4 rfl _ hd9 (by omega) (by omega)).mono ?_
  rintro e w10 ⟨r10, hr10, rfl, hd10, o10⟩
  have HE10 := Lib.hid (And.intro (HE9.out.1.only o10 (by omega)) (HE9.out.2.only o10))
  clear HE9 o10 hd9
  go_wp2_with (fail)
  with_reducible refine (pick_dr g v n _ hd10 7 #[.int .i64 11, .int .i64 12, .int .i64 13, .int .i64 21, .int .i64 22, .int .i64 23, .int .i64 31] [11, 12, 13, 21, 22, 23, 31] rfl rfl (by omega) (by omega)).mono ?_
  rintro e w11 ⟨r11, -, rfl, hd11, o11⟩
  have HE11 := Lib.hid (And.intro (HE10.out.1.grew o11 (by omega)) (HE10.out.2.trans o11))
  clear HE10 o11 hd10
  go_wp2_with (fail)
  with_reducible refine (bel_dr g v n 30 30 rfl _ hd11 (by omega) (by omega)).mono ?_
  rintro e w12 ⟨r12, hr12, rfl, hd12, o12⟩
  have HE12 := Lib.hid (And.intro (HE11.out.1.only o12 (by omega)) (HE11.out.2.only o12))
  clear HE11 o12 hd11
  obtain ⟨m, hm⟩ : ∃ m : Lv, m = ⟨(1 + (r1 : Int)), r2, r3, (r4 : Int), (r5 : Int), r6, (r7 : Int), (r8 : Int), (r9 : Int), Tv.zero, (r10 : Int), r11, false, (r12 : Int), ⟨#[]⟩⟩ := ⟨_, rfl⟩
  have hCm : #[.int .i64 (1 + (r1 : Int)), .int .i64 r2, .int .i64 r3, .int .i64 (r4 : Int), .int .i64 (r5 : Int), .int .i64 r6, .int .i64 (r7 : Int), .int .i64 (r8 : Int), .int .i64 (r9 : Int), .int .i64 0, .int .i64 0, .int .i64 0, .int .i64 0, .int .i64 0, .int .i64 (r10 : Int), .int .i64 r11, .bool false, .int .i64 (r12 : Int), .string ⟨#[]⟩] = lvC m := by rw [hm, lvC_eq]; rfl
  have HL := Lib.hid (And.intro (LB.make m HE12.out.1 hd12 HE12.out.2 hg) (show m.text.size ≤ 64 by rw [hm]; exact Nat.zero_le _))
  have hst := lv_store m (Cel.new w12 41 #[.int .i64 0, .int .i64 0, .int .i64 0, .int .i64 0, .int .i64 0, .int .i64 0, .int .i64 0, .int .i64 0, .int .i64 0, .int .i64 0, .int .i64 0, .int .i64 0, .int .i64 0, .int .i64 0, .int .i64 0, .int .i64 0, .bool false, .int .i64 0, .string ⟨#[]⟩]) rfl
  have hn9 := lvC_size m
  clear HE12 hd12 hm
  go_upto_region 2 with (fail)
  clear hst hn9 hCm
  generalize (w12.alloc (.cells #[.int .i64 0, .int .i64 0, .int .i64 0, .int .i64 0, .int .i64 0, .int .i64 0, .int .i64 0, .int .i64 0, .int .i64 0, .int .i64 0, .int .i64 0, .int .i64 0, .int .i64 0, .int .i64 0, .int .i64 0, .int .i64 0, .bool false, .int .i64 0, .string ⟨#[]⟩] 41)).setRow w12.heap.size (lvC m) = y0 at *
  generalize w12.heap.size = b3 at *
  have hDd := HL.out.1.d
  have co := once_dr g v n 3 3 rfl _ hDd (by omega) (by omega)
  clear hDd
  go_wp2_with (fail)
  with_reducible refine co.mono ?_
  rintro e y1 ⟨bb, rfl, d1, o1⟩
  have H1 := Lib.hid (And.intro (HL.out.1.grew o1.grew d1) HL.out.2)
  clear HL co d1 o1
  cases bb with
  | true =>
    have hDd := H1.out.1.d
    have ct := tag_dr g v n _ hDd
    clear hDd
    go_wp2_with (fail)
    with_reducible refine ct.mono ?_
    rintro e y2 ⟨t, rfl, -, d2, g2⟩
    have hL2 := H1.out.1.grew g2 d2
    have H2 := Lib.hid (And.intro ((((((hL2.set 9 (.int .i64 t.kind)).set 10 (.int .i64 t.one)).set 11 (.int .i64 t.two)).set 12 (.int .i64 t.a)).set 13 (.int .i64 t.b)).of (lvC_tag m t)) H1.out.2)
    have q9 : y2.cell? ⟨b3, 9, none⟩ = some (.int .i64 m.tag.kind) := (hL2.c3.cell 9).trans (by rw [lvC_eq]; rfl)
    have q10 : y2.cell? ⟨b3, 10, none⟩ = some (.int .i64 m.tag.one) := (hL2.c3.cell 10).trans (by rw [lvC_eq]; rfl)
    have q11 : y2.cell? ⟨b3, 11, none⟩ = some (.int .i64 m.tag.two) := (hL2.c3.cell 11).trans (by rw [lvC_eq]; rfl)
    have q12 : y2.cell? ⟨b3, 12, none⟩ = some (.int .i64 m.tag.a) := (hL2.c3.cell 12).trans (by rw [lvC_eq]; rfl)
    have q13 : y2.cell? ⟨b3, 13, none⟩ = some (.int .i64 m.tag.b) := (hL2.c3.cell 13).trans (by rw [lvC_eq]; rfl)
    have f9 := hL2.c3.frozen 9
    have f10 := hL2.c3.frozen 10
    have f11 := hL2.c3.frozen 11
    have f12 := hL2.c3.frozen 12
    have f13 := hL2.c3.frozen 13
    clear H1 hL2 ct d2 g2
    go_upto_region 4 with (fail)
    clear q9 q10 q11 q12 q13 f9 f10 f11 f12 f13
    generalize ((((y2.setCell ⟨b3, 9, none⟩ (.int .i64 t.kind)).setCell ⟨b3, 10, none⟩ (.int .i64 t.one)).setCell ⟨b3, 11, none⟩ (.int .i64 t.two)).setCell ⟨b3, 12, none⟩ (.int .i64 t.a)).setCell ⟨b3, 13, none⟩ (.int .i64 t.b) = y3 at *
    replace H2 := Lib.hid (show LB w y3 g v n b3 (lvC { m with tag := t }) ∧ ({ m with tag := t } : Lv).text.size ≤ 64 from H2.out)
    generalize ({ m with tag := t } : Lv) = m2 at *
    obtain ⟨K, hK⟩ : ∃ K, m2.kind = K := ⟨_, rfl⟩
    have q0 : y3.cell? ⟨b3, 0, none⟩ = some (.int .i64 K) := by rw [← hK]; exact (H2.out.1.c3.cell 0).trans (by rw [lvC_eq]; rfl)
    clear hK
    by_cases hk : K = 11
    · subst hk
      have hDd := H2.out.1.d
      have hcs := Cel.new y3 9 #[.string ⟨#[97]⟩, .string ⟨#[101, 118, 105, 108]⟩, .string ⟨#[122, 122]⟩, .string ⟨#[]⟩]
      have hbs := below_new y3 (.cells #[.string ⟨#[97]⟩, .string ⟨#[101, 118, 105, 108]⟩, .string ⟨#[122, 122]⟩, .string ⟨#[]⟩] 9)
      have cp := pick_strD g v n _ (hDd.kept hbs) y3.heap.size 4 4 [⟨#[97]⟩, ⟨#[101, 118, 105, 108]⟩, ⟨#[122, 122]⟩, ⟨#[]⟩] rfl hcs (by have := hDd.blk; omega) (by simp) (by simp)
      have HB1 := Lib.hid (And.intro (H2.out.1.kept hbs) H2.out.2)
      clear H2 hDd hcs hbs
      go_wp2_with (fail)
      with_reducible refine cp.mono ?_
      rintro e y5 ⟨tx, htx, rfl, d5, o5⟩
      have htl : tx.size ≤ 64 := by
        simp only [List.mem_cons, List.not_mem_nil, or_false] at htx
        rcases htx with rfl | rfl | rfl | rfl <;> decide
      have hL5 := HB1.out.1.grew o5.grew d5
      have q18 : y5.cell? ⟨b3, 18, none⟩ = some (.string m2.text) := (hL5.c3.cell 18).trans (by rw [lvC_eq]; rfl)
      have f18 := hL5.c3.frozen 18
      have H6 := Lib.hid (And.intro ((hL5.set 18 (.string tx)).of (lvC_text m2 tx)) htl)
      clear HB1 hL5 cp d5 o5 htx htl q0
      go_upto_region 6 with (fail)
      clear q18 f18
      generalize y5.setCell ⟨b3, 18, none⟩ (.string tx) = y6 at *
      replace H6 := Lib.hid (show LB w y6 g v n b3 (lvC { m2 with text := tx }) ∧ ({ m2 with text := tx } : Lv).text.size ≤ 64 from H6.out)
      generalize ({ m2 with text := tx } : Lv) = m6 at *
      have hC3 : y6.heap[b3]? = some (.cells (lvC m6) 41 (0, 0)) := H6.out.1.c3
      have hst := lv_store m6 H6.out.1.c0 rfl
      have hsz := lvC_info m6
      have hn9 := lvC_size m6
      have HF := Lib.hid (And.intro H6.out.1.give H6.out.2)
      clear H6
      go_wp2_with (first | (with_reducible refine wpList_load_row rfl 41 _ rfl _ rfl 41 _ (0, 0) _ hC3 Try.underlying41 rfl hsz ?_))
      exact bodyPost_ret (Cel.result (t := 41) HF.out.1.1 rfl _ rfl Try.underlying41 rfl hsz) rfl ⟨_, rfl, HF.out.2, HF.out.1.2.1, HF.out.1.2.2⟩
    · go_upto_region 6 with (fail)
      clear q0
      have hC3 : y3.heap[b3]? = some (.cells (lvC m2) 41 (0, 0)) := H2.out.1.c3
      have hst := lv_store m2 H2.out.1.c0 rfl
      have hsz := lvC_info m2
      have hn9 := lvC_size m2
      have HF := Lib.hid (And.intro H2.out.1.give H2.out.2)
      clear H2
      go_wp2_with (first | (with_reducible refine wpList_load_row rfl 41 _ rfl _ rfl 41 _ (0, 0) _ hC3 Try.underlying41 rfl hsz ?_))
      exact bodyPost_ret (Cel.result (t := 41) HF.out.1.1 rfl _ rfl Try.underlying41 rfl hsz) rfl ⟨_, rfl, HF.out.2, HF.out.1.2.1, HF.out.1.2.2⟩
  | false =>
    go_upto_region 4 with (fail)
    obtain ⟨K, hK⟩ : ∃ K, m.kind = K := ⟨_, rfl⟩
    have q0 : y1.cell? ⟨b3, 0, none⟩ = some (.int .i64 K) := by rw [← hK]; exact (H1.out.1.c3.cell 0).trans (by rw [lvC_eq]; rfl)
    clear hK
    by_cases hk : K = 11
    · subst hk
      have hDd := H1.out.1.d
      have hcs := Cel.new y1 9 #[.string ⟨#[97]⟩, .string ⟨#[101, 118, 105, 108]⟩, .string ⟨#[122, 122]⟩, .string ⟨#[]⟩]
      have hbs := below_new y1 (.cells #[.string ⟨#[97]⟩, .string ⟨#[101, 118, 105, 108]⟩, .string ⟨#[122, 122]⟩, .string ⟨#[]⟩] 9)
      have cp := pick_strD g v n _ (hDd.kept hbs) y1.heap.size 4 4 [⟨#[97]⟩, ⟨#[101, 118, 105, 108]⟩, ⟨#[122, 122]⟩, ⟨#[]⟩] rfl hcs (by have := hDd.blk; omega) (by simp) (by simp)
      have HB1 := Lib.hid (And.intro (H1.out.1.kept hbs) H1.out.2)
      clear H1 hDd hcs hbs
      go_wp2_with (fail)
      with_reducible refine cp.mono ?_
      rintro e y5 ⟨tx, htx, rfl, d5, o5⟩
      have htl : tx.size ≤ 64 := by
        simp only [List.mem_cons, List.not_mem_nil, or_false] at htx
        rcases htx with rfl | rfl | rfl | rfl <;> decide
      have hL5 := HB1.out.1.grew o5.grew d5
      have q18 : y5.cell? ⟨b3, 18, none⟩ = some (.string m.text) := (hL5.c3.cell 18).trans (by rw [lvC_eq]; rfl)
      have f18 := hL5.c3.frozen 18
      have H6 := Lib.hid (And.intro ((hL5.set 18 (.string tx)).of (lvC_text m tx)) htl)
      clear HB1 hL5 cp d5 o5 htx htl q0
      go_upto_region 6 with (fail)
      clear q18 f18
      generalize y5.setCell ⟨b3, 18, none⟩ (.string tx) = y6 at *
      replace H6 := Lib.hid (show LB w y6 g v n b3 (lvC { m with text := tx }) ∧ ({ m with text := tx } : Lv).text.size ≤ 64 from H6.out)
      generalize ({ m with text := tx } : Lv) = m6 at *
      have hC3 : y6.heap[b3]? = some (.cells (lvC m6) 41 (0, 0)) := H6.out.1.c3
      have hst := lv_store m6 H6.out.1.c0 rfl
      have hsz := lvC_info m6
      have hn9 := lvC_size m6
      have HF := Lib.hid (And.intro H6.out.1.give H6.out.2)
      clear H6
      go_wp2_with (first | (with_reducible refine wpList_load_row rfl 41 _ rfl _ rfl 41 _ (0, 0) _ hC3 Try.underlying41 rfl hsz ?_))
      exact bodyPost_ret (Cel.result (t := 41) HF.out.1.1 rfl _ rfl Try.underlying41 rfl hsz) rfl ⟨_, rfl, HF.out.2, HF.out.1.2.1, HF.out.1.2.2⟩
    · go_upto_region 6 with (fail)
      clear q0
      have hC3 : y1.heap[b3]? = some (.cells (lvC m) 41 (0, 0)) := H1.out.1.c3
      have hst := lv_store m H1.out.1.c0 rfl
      have hsz := lvC_info m
      have hn9 := lvC_size m
      have HF := Lib.hid (And.intro H1.out.1.give H1.out.2)
      clear H1
      go_wp2_with (first | (with_reducible refine wpList_load_row rfl 41 _ rfl _ rfl 41 _ (0, 0) _ hC3 Try.underlying41 rfl hsz ?_))
      exact bodyPost_ret (Cel.result (t := 41) HF.out.1.1 rfl _ rfl Try.underlying41 rfl hsz) rfl ⟨_, rfl, HF.out.2, HF.out.1.2.1, HF.out.1.2.2⟩
end Go.Proofs.Ytoeflkmhofkiaaa

