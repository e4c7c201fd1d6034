import Derived.Test.YtkpajakangaekaaPlw
namespace Go.Proofs.Ytkpajakangaekaa
open Go.RowKit

set_option maxRecDepth 100000 in
set_option maxHeartbeats 2000000 in
theorem nextof_law (r : Int) (t : ByteArray) (v : Value) (ms : List Pc) (w : World) (hv : RdP w v ms) (hn : ms.length ≤ 9223372036854775807) (ht : t.size ≤ 9223372036854775807) (hs : ∀ x ∈ ms, x.text.size ≤ 9223372036854775807) :
    Calls Try.prog 6 #[.agg #[.int .i64 r, .string t, v]] w fun e w' => e = .returned (.bool true) ∧ Below w.heap.size w w' := by
  have hB1 := below_new w (.cells #[.int .i64 r, .string t, v] 41)
  have A1 : Ag (w.alloc (.cells #[.int .i64 r, .string t, v] 41)) w.heap.size r t v ms := ⟨Cel.new w _ _, hv.below hB1⟩
  obtain ⟨va, vc, rfl⟩ := hv.form
  have z1 := sz_pieces r t _ ms 1048576 _ A1.rd hn ht hs (by omega) (by omega)
  obtain ⟨z, hz, hz0⟩ := ps_fit t ms
  rw [hz] at z1
  by_cases h1 : z < 0
  · have HB1 := Lib.hid hB1
    clear hz hz0 hv hs A1 hB1
    go_enter Try.func6, Try.ntmps6
    go_wp2_with (fail)
    with_reducible refine z1.mono ?_
    rintro e w1 ⟨rfl, hb1⟩
    have HB2 := Lib.hid (Below.then_ HB1.out hb1)
    clear hb1 HB1 z1
    go_wp2_with (fail)
    go_ret
    exact ⟨rfl, HB2.out⟩
  · obtain ⟨f1, f2⟩ := hz0 (by omega)
    have cT := fun v W h => to_pieces r t v ms W h (by omega)
    have cS := fun u W (_ : RdP W u ms) => spec_nextOf r t u W
    have cI := fun u W (_ : RdP W u ms) => impl_nextOf r t u W
    have cE := fun u1 u2 W h1 h2 => eq_pieces r t u1 u2 ms W h1 h2 (by omega)
    generalize IntKind.i64.wrap (r + (t.size : Int)) = ok at *
    have H1 := Lib.hid (And.intro hB1 A1)
    clear hz hz0 hs f1 f2 hv hB1 A1
    go_enter Try.func6, Try.ntmps6
    go_wp2_with (fail)
    with_reducible refine z1.mono ?_
    rintro e w1 ⟨rfl, hb1⟩
    have A2 := H1.out.2.kept hb1
    have B2 := Below.then_ H1.out.1 hb1
    obtain ⟨a0, a1, a2⟩ := cel3' A2.c
    have H2 := Lib.hid (And.intro A2 B2)
    clear z1 H1 hb1 A2 B2
    obtain ⟨g0, hg0⟩ : ∃ g0, w.heap.size = g0 := ⟨_, rfl⟩
    have HG := Lib.hid hg0
    rw [hg0] at a0 a1 a2 H2 ⊢
    clear hg0
    go_wp2_with (fail)
    with_reducible refine (cT _ _ H2.out.1.rd).mono ?_
    rintro e w2 ⟨u2, rfl, ho2, hb2⟩
    obtain ⟨ua, uc, rfl, -⟩ := ho2.form
    have x2 := ho2.rd
    have H3 := Lib.hid (And.intro (H2.out.1.kept hb2) (Below.then_ (HG.out ▸ H2.out.2) hb2))
    clear a0 a1 a2 ho2 hb2 H2
    go_wp2_with (fail)
    with_reducible refine (cS _ _ x2).mono ?_
    rintro e w3 ⟨rfl, hb3⟩
    have A4 := H3.out.1.kept hb3
    have H4 := Lib.hid (And.intro A4 (Below.then_ H3.out.2 hb3))
    obtain ⟨a0, a1, a2⟩ := cel3' A4.c
    clear hb3 H3 x2 A4
    go_wp2_with (fail)
    with_reducible refine (cT _ _ H4.out.1.rd).mono ?_
    rintro e w4 ⟨u4, rfl, ho4, hb4⟩
    obtain ⟨xa, xc, rfl, -⟩ := ho4.form
    have X5 := Ax.new (r := r) (t := t) ho4.rd
    have hbn := below_new w4 (.cells #[.int .i64 r, .string t, .slice xa ms.length xc] 28)
    have A5 := (H4.out.1.kept hb4).kept hbn
    have B5 := Below.then_ (Below.then_ H4.out.2 hb4) hbn
    clear a0 a1 a2 H4 ho4 hb4 hbn
    have x5 := X5.rd
    have H5 := Lib.hid (And.intro A5 (And.intro B5 X5))
    clear A5 B5 X5
    go_wp2_with (fail)
    with_reducible refine (cI _ _ x5).mono ?_
    rintro e w5 ⟨rfl, hb5⟩
    have S6 := six_drew (H5.out.1.kept hb5) (Below.then_ H5.out.2.1 hb5) (H5.out.2.2.kept hb5)
    obtain ⟨h0, hh0⟩ : ∃ h0, w4.heap.size = h0 := ⟨_, rfl⟩
    rw [hh0] at S6 ⊢
    have cA := fun W (h : Ag W g0 r t (.slice va ms.length vc) ms) => cT _ W h.rd
    have eB := fun u W (h1 : Ax W h0 r t (.slice xa ms.length xc) ms) h2 => cE _ u W h1.rd h2
    clear hb5 H5 x5 hh0 cS cI cT cE
    go_wp2_with (fail)
    go_region_held3 (fun W => Ag W g0 r t (.slice va ms.length vc) ms ∧ W.cell? ⟨g0, 0, none⟩ = some (.int .i64 r) ∧ W.cell? ⟨g0, 1, none⟩ = some (.string t) ∧ W.cell? ⟨g0, 2, none⟩ = some (.slice va ms.length vc) ∧ Below w.heap.size w W ∧ Ax W h0 r t (.slice xa ms.length xc) ms ∧ W.cell? ⟨h0, 0, none⟩ = some (.int .i64 r) ∧ W.cell? ⟨h0, 1, none⟩ = some (.string t) ∧ W.cell? ⟨h0, 2, none⟩ = some (.slice xa ms.length xc))
      (first | exact S6 | exact six_keep (by assumption) (by assumption) | go_keep)
      (first
        | (go_at_call 22; (with_reducible refine (cA _ ?_).mono ?_); (simp only [*]); rintro e w6 ⟨u6, rfl, hp, hb6⟩; obtain ⟨ya, yc, rfl, -⟩ := hp.form; have y6 := hp.rd; clear hp)
        | (go_at_call 23; (with_reducible refine (eB _ _ ?_ ?_).mono ?_); (simp only [*]); (exact y6); rintro e w7 ⟨rfl, hb7⟩))
    have S7 : Ag w7 g0 r t (.slice va ms.length vc) ms ∧ w7.cell? ⟨g0, 0, none⟩ = some (.int .i64 r) ∧ w7.cell? ⟨g0, 1, none⟩ = some (.string t) ∧ w7.cell? ⟨g0, 2, none⟩ = some (.slice va ms.length vc) ∧ Below w.heap.size w w7 ∧ Ax w7 h0 r t (.slice xa ms.length xc) ms ∧ w7.cell? ⟨h0, 0, none⟩ = some (.int .i64 r) ∧ w7.cell? ⟨h0, 1, none⟩ = some (.string t) ∧ w7.cell? ⟨h0, 2, none⟩ = some (.slice xa ms.length xc) := by assumption
    have HB := Lib.hid S7.2.2.2.2.1
    clear S6 S7 y6 hb6 hb7
    go_wp2_with (fail)
    go_ret
    exact ⟨rfl, HB.out⟩

set_option maxRecDepth 100000 in
set_option maxHeartbeats 2000000 in
theorem heldof_law (r : Int) (t : ByteArray) (v : Value) (ms : List Pc) (w : World) (hv : RdP w v ms) (hn : ms.length ≤ 9223372036854775807) (ht : t.size ≤ 9223372036854775807) (hs : ∀ x ∈ ms, x.text.size ≤ 9223372036854775807) :
    Calls Try.prog 9 #[.agg #[.int .i64 r, .string t, v]] w fun e w' => e = .returned (.bool true) ∧ Below w.heap.size w w' := by
  have hB1 := below_new w (.cells #[.int .i64 r, .string t, v] 41)
  have A1 : Ag (w.alloc (.cells #[.int .i64 r, .string t, v] 41)) w.heap.size r t v ms := ⟨Cel.new w _ _, hv.below hB1⟩
  obtain ⟨va, vc, rfl⟩ := hv.form
  have z1 := sz_pieces r t _ ms 1048576 _ A1.rd hn ht hs (by omega) (by omega)
  obtain ⟨z, hz, hz0⟩ := ps_fit t ms
  rw [hz] at z1
  by_cases h1 : z < 0
  · have HB1 := Lib.hid hB1
    clear hz hz0 hv hs A1 hB1
    go_enter Try.func9, Try.ntmps9
    go_wp2_with (fail)
    with_reducible refine z1.mono ?_
    rintro e w1 ⟨rfl, hb1⟩
    have HB2 := Lib.hid (Below.then_ HB1.out hb1)
    clear hb1 HB1 z1
    go_wp2_with (fail)
    go_ret
    exact ⟨rfl, HB2.out⟩
  · obtain ⟨f1, f2⟩ := hz0 (by omega)
    have cT := fun v W h => to_pieces r t v ms W h (by omega)
    have cS := fun u W h => spec_heldOf r t u ms W h (by omega) (by omega)
    have cI := fun u W h => impl_heldOf r t u ms W h (by omega) (by omega)
    have cE := fun u1 u2 W h1 h2 => eq_pieces r t u1 u2 ms W h1 h2 (by omega)
    generalize ((t.size + sumP ms : Nat) : Int) = ok at *
    have H1 := Lib.hid (And.intro hB1 A1)
    clear hz hz0 hs f1 f2 hv hB1 A1
    go_enter Try.func9, Try.ntmps9
    go_wp2_with (fail)
    with_reducible refine z1.mono ?_
    rintro e w1 ⟨rfl, hb1⟩
    have A2 := H1.out.2.kept hb1
    have B2 := Below.then_ H1.out.1 hb1
    obtain ⟨a0, a1, a2⟩ := cel3' A2.c
    have H2 := Lib.hid (And.intro A2 B2)
    clear z1 H1 hb1 A2 B2
    obtain ⟨g0, hg0⟩ : ∃ g0, w.heap.size = g0 := ⟨_, rfl⟩
    have HG := Lib.hid hg0
    rw [hg0] at a0 a1 a2 H2 ⊢
    clear hg0
    go_wp2_with (fail)
    with_reducible refine (cT _ _ H2.out.1.rd).mono ?_
    rintro e w2 ⟨u2, rfl, ho2, hb2⟩
    obtain ⟨ua, uc, rfl, -⟩ := ho2.form
    have x2 := ho2.rd
    have H3 := Lib.hid (And.intro (H2.out.1.kept hb2) (Below.then_ (HG.out ▸ H2.out.2) hb2))
    clear a0 a1 a2 ho2 hb2 H2
    go_wp2_with (fail)
    with_reducible refine (cS _ _ x2).mono ?_
    rintro e w3 ⟨rfl, hb3⟩
    have A4 := H3.out.1.kept hb3
    have H4 := Lib.hid (And.intro A4 (Below.then_ H3.out.2 hb3))
    obtain ⟨a0, a1, a2⟩ := cel3' A4.c
    clear hb3 H3 x2 A4
    go_wp2_with (fail)
    with_reducible refine (cT _ _ H4.out.1.rd).mono ?_
    rintro e w4 ⟨u4, rfl, ho4, hb4⟩
    obtain ⟨xa, xc, rfl, -⟩ := ho4.form
    have X5 := Ax.new (r := r) (t := t) ho4.rd
    have hbn := below_new w4 (.cells #[.int .i64 r, .string t, .slice xa ms.length xc] 28)
    have A5 := (H4.out.1.kept hb4).kept hbn
    have B5 := Below.then_ (Below.then_ H4.out.2 hb4) hbn
    clear a0 a1 a2 H4 ho4 hb4 hbn
    have x5 := X5.rd
    have H5 := Lib.hid (And.intro A5 (And.intro B5 X5))
    clear A5 B5 X5
    go_wp2_with (fail)
    with_reducible refine (cI _ _ x5).mono ?_
    rintro e w5 ⟨rfl, hb5⟩
    have S6 := six_drew (H5.out.1.kept hb5) (Below.then_ H5.out.2.1 hb5) (H5.out.2.2.kept hb5)
    obtain ⟨h0, hh0⟩ : ∃ h0, w4.heap.size = h0 := ⟨_, rfl⟩
    rw [hh0] at S6 ⊢
    have cA := fun W (h : Ag W g0 r t (.slice va ms.length vc) ms) => cT _ W h.rd
    have eB := fun u W (h1 : Ax W h0 r t (.slice xa ms.length xc) ms) h2 => cE _ u W h1.rd h2
    clear hb5 H5 x5 hh0 cS cI cT cE
    go_wp2_with (fail)
    go_region_held3 (fun W => Ag W g0 r t (.slice va ms.length vc) ms ∧ W.cell? ⟨g0, 0, none⟩ = some (.int .i64 r) ∧ W.cell? ⟨g0, 1, none⟩ = some (.string t) ∧ W.cell? ⟨g0, 2, none⟩ = some (.slice va ms.length vc) ∧ Below w.heap.size w W ∧ Ax W h0 r t (.slice xa ms.length xc) ms ∧ W.cell? ⟨h0, 0, none⟩ = some (.int .i64 r) ∧ W.cell? ⟨h0, 1, none⟩ = some (.string t) ∧ W.cell? ⟨h0, 2, none⟩ = some (.slice xa ms.length xc))
      (first | exact S6 | exact six_keep (by assumption) (by assumption) | go_keep)
      (first
        | (go_at_call 22; (with_reducible refine (cA _ ?_).mono ?_); (simp only [*]); rintro e w6 ⟨u6, rfl, hp, hb6⟩; obtain ⟨ya, yc, rfl, -⟩ := hp.form; have y6 := hp.rd; clear hp)
        | (go_at_call 23; (with_reducible refine (eB _ _ ?_ ?_).mono ?_); (simp only [*]); (exact y6); rintro e w7 ⟨rfl, hb7⟩))
    have S7 : Ag w7 g0 r t (.slice va ms.length vc) ms ∧ w7.cell? ⟨g0, 0, none⟩ = some (.int .i64 r) ∧ w7.cell? ⟨g0, 1, none⟩ = some (.string t) ∧ w7.cell? ⟨g0, 2, none⟩ = some (.slice va ms.length vc) ∧ Below w.heap.size w w7 ∧ Ax w7 h0 r t (.slice xa ms.length xc) ms ∧ w7.cell? ⟨h0, 0, none⟩ = some (.int .i64 r) ∧ w7.cell? ⟨h0, 1, none⟩ = some (.string t) ∧ w7.cell? ⟨h0, 2, none⟩ = some (.slice xa ms.length xc) := by assumption
    have HB := Lib.hid S7.2.2.2.2.1
    clear S6 S7 y6 hb6 hb7
    go_wp2_with (fail)
    go_ret
    exact ⟨rfl, HB.out⟩

end Go.Proofs.Ytkpajakangaekaa
