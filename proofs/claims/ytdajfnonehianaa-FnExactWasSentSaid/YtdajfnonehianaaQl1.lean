import Derived.Test.YtdajfnonehianaaQon
import Derived.Test.YtdajfnonehianaaQot
namespace Go.Proofs.Ytdajfnonehianaa
open Go.RowKit

set_option maxRecDepth 100000 in
set_option maxHeartbeats 2000000 in
theorem outok_law (o : Ot) (w : World) (hs : o.text.size ≤ 9223372036854775807) (hb : IntKind.i64.wrap o.sent = o.sent) :
    Calls Try.prog 5 #[.agg #[.string o.text, .int .i64 o.base, .int .i64 o.sent, .int .i64 o.room]] w fun e w' => e = .returned (.bool true) ∧ Below w.heap.size w w' := by
  obtain ⟨t, b, s, r⟩ := o
  simp only at hs hb ⊢
  have hB1 := below_new w (.cells #[.string t, .int .i64 b, .int .i64 s, .int .i64 r] 45)
  have hC1 := Cel.new w 45 #[.string t, .int .i64 b, .int .i64 s, .int .i64 r]
  have z1 := fun W => sz_out ⟨t, b, s, r⟩ 1048576 W (by omega) (by omega) hs
  simp only at z1
  by_cases h1 : (1048576 : Int) - (t.size : Int) < 0
  · rw [if_pos h1] at z1
    have HB := Lib.hid hB1
    clear hB1 hC1 h1 hs hb
    go_enter Try.func5, Try.ntmps5
    go_wp2_with (fail)
    with_reducible refine (z1 _).mono ?_
    rintro e w1 ⟨rfl, hb1⟩
    have HB1 := Lib.hid (Below.then_ HB.out hb1)
    clear hb1 HB z1
    go_wp2_with (fail)
    go_ret
    exact ⟨rfl, HB1.out⟩
  · rw [if_neg h1] at z1
    have cT := fun W => to_out ⟨t, b, s, r⟩ W
    have cS := fun W => spec_outOk ⟨t, b, s, r⟩ W (by simp only; omega)
    have cI := fun W => impl_outOk ⟨t, b, s, r⟩ W (by simp only; omega)
    simp only at cT cS cI
    generalize decide (Ot.Ok (Ot.mk t b s r)) = res at *
    have q1 : ¬ (1048576 : Int) - (t.size : Int) < 0 := h1
    generalize (1048576 : Int) - (t.size : Int) = z at z1 q1
    have K1 := Lib.hid (And.intro hB1 hC1)
    clear h1 hs hb hB1 hC1
    go_enter Try.func5, Try.ntmps5
    go_upto_region 2 with (fail)
    generalize w.alloc (.cells #[.string t, .int .i64 b, .int .i64 s, .int .i64 r] 45) = w0 at *
    obtain ⟨a0, a1, a2, a3⟩ := cel4 K1.out.2
    go_wp2_with (fail)
    with_reducible refine (z1 _).mono ?_
    rintro e w1 ⟨rfl, hb1⟩
    have K2 := Lib.hid (And.intro (Below.then_ K1.out.1 hb1) (K1.out.2.kept hb1))
    clear z1 hb1 K1 a0 a1 a2 a3
    obtain ⟨a0, a1, a2, a3⟩ := cel4 K2.out.2
    go_wp2_with (fail)
    with_reducible refine (cT _).mono ?_
    rintro e w2 ⟨rfl, hb2⟩
    have K3 := Lib.hid (And.intro (Below.then_ K2.out.1 hb2) (K2.out.2.kept hb2))
    clear hb2 K2 a0 a1 a2 a3
    go_wp2_with (fail)
    with_reducible refine (cS _).mono ?_
    rintro e w3 ⟨rfl, hb3⟩
    have K4 := Lib.hid (And.intro (Below.then_ K3.out.1 hb3) (K3.out.2.kept hb3))
    clear hb3 K3 cS
    obtain ⟨a0, a1, a2, a3⟩ := cel4 K4.out.2
    go_wp2_with (fail)
    with_reducible refine (cT _).mono ?_
    rintro e w5 ⟨rfl, hb5⟩
    have K5 := Lib.hid (Below.then_ K4.out.1 hb5)
    clear hb5 K4 a0 a1 a2 a3 cT
    go_wp2_with (fail)
    with_reducible refine (cI _).mono ?_
    rintro e w6 ⟨rfl, hb6⟩
    have K6 := Lib.hid (Below.then_ K5.out hb6)
    clear hb6 K5 cI
    go_wp2_with (fail)
    go_ret
    exact ⟨rfl, K6.out⟩

set_option maxRecDepth 100000 in
set_option maxHeartbeats 2000000 in
theorem accept_law (o : Ot) (x : ByteArray) (w : World) (hs : o.text.size ≤ 9223372036854775807) (hb : IntKind.i64.wrap o.sent = o.sent) (hx : x.size ≤ 9223372036854775807) :
    Calls Try.prog 6 #[.agg #[.string o.text, .int .i64 o.base, .int .i64 o.sent, .int .i64 o.room], .string x] w fun e w' => e = .returned (.bool true) ∧ Below w.heap.size w w' := by
  obtain ⟨t, b, s, r⟩ := o
  simp only at hs hb ⊢
  have hB1 := below_new w (.cells #[.string t, .int .i64 b, .int .i64 s, .int .i64 r] 45)
  have hC1 := Cel.new w 45 #[.string t, .int .i64 b, .int .i64 s, .int .i64 r]
  have z1 := fun W => sz_out ⟨t, b, s, r⟩ 1048576 W (by omega) (by omega) hs
  simp only at z1
  by_cases hxl : (1048576 : Int) < (x.size : Int)
  · have HB := Lib.hid hB1
    clear hB1 hC1 z1 hs hb
    go_enter Try.func6, Try.ntmps6
    go_wp2_with (fail)
    go_ret
    exact ⟨rfl, HB.out⟩
  · by_cases h1 : (1048576 : Int) - (t.size : Int) < 0
    · rw [if_pos h1] at z1
      have HB := Lib.hid hB1
      clear hB1 hC1 h1 hs hb
      go_enter Try.func6, Try.ntmps6
      go_wp2_with (fail)
      with_reducible refine (z1 _).mono ?_
      rintro e w1 ⟨rfl, hb1⟩
      have HB1 := Lib.hid (Below.then_ HB.out hb1)
      clear hb1 HB z1
      go_wp2_with (fail)
      go_ret
      exact ⟨rfl, HB1.out⟩
    · rw [if_neg h1] at z1
      have cT := fun W => to_out ⟨t, b, s, r⟩ W
      have cS := fun W => spec_accept ⟨t, b, s, r⟩ x W (by simp only; omega) (by omega)
      have cI := fun W => impl_accept ⟨t, b, s, r⟩ x W (by simp only; omega) (by omega)
      simp only at cT cS cI
      obtain ⟨res, hres⟩ : ∃ res, acc (Ot.mk t b s r) x = res := ⟨_, rfl⟩
      rw [hres] at cS cI
      obtain ⟨⟨t1, b1, s1, r1⟩, n⟩ := res
      have cE := fun W => eq_out ⟨t1, b1, s1, r1⟩ W
      simp only at cS cI cE
      clear hres
      have q1 : ¬ (1048576 : Int) - (t.size : Int) < 0 := h1
      generalize (1048576 : Int) - (t.size : Int) = z at z1 q1
      have K1 := Lib.hid (And.intro hB1 hC1)
      clear h1 hs hb hB1 hC1
      go_enter Try.func6, Try.ntmps6
      go_upto_region 4 with (fail)
      generalize w.alloc (.cells #[.string t, .int .i64 b, .int .i64 s, .int .i64 r] 45) = w0 at *
      obtain ⟨a0, a1, a2, a3⟩ := cel4 K1.out.2
      go_wp2_with (fail)
      with_reducible refine (z1 _).mono ?_
      rintro e w1 ⟨rfl, hb1⟩
      have K2 := Lib.hid (And.intro (Below.then_ K1.out.1 hb1) (K1.out.2.kept hb1))
      clear z1 hb1 K1 a0 a1 a2 a3
      obtain ⟨a0, a1, a2, a3⟩ := cel4 K2.out.2
      go_wp2_with (fail)
      with_reducible refine (cT _).mono ?_
      rintro e w2 ⟨rfl, hb2⟩
      have K3 := Lib.hid (And.intro (Below.then_ K2.out.1 hb2) (K2.out.2.kept hb2))
      clear hb2 K2 a0 a1 a2 a3
      go_wp2_with (fail)
      with_reducible refine (cS _).mono ?_
      rintro e w3 ⟨rfl, hb3⟩
      have K4 := Lib.hid (And.intro (Below.then_ K3.out.1 hb3) (K3.out.2.kept hb3))
      clear hb3 K3 cS
      have hbn := below_new w3 (.cells #[.string t1, .int .i64 b1, .int .i64 s1, .int .i64 r1] 33)
      have K5 := Lib.hid (And.intro (Below.then_ K4.out.1 hbn) (And.intro (K4.out.2.kept hbn) (Cel.new w3 33 #[.string t1, .int .i64 b1, .int .i64 s1, .int .i64 r1])))
      clear hbn K4
      go_upto_region 8 with (fail)
      obtain ⟨g1, hg⟩ : ∃ g1, w3.heap.size = g1 := ⟨_, rfl⟩
      rw [hg] at K5 ⊢
      generalize w3.alloc (.cells #[.string t1, .int .i64 b1, .int .i64 s1, .int .i64 r1] 33) = w4 at *
      clear hg
      obtain ⟨a0, a1, a2, a3⟩ := cel4 K5.out.2.1
      go_wp2_with (fail)
      with_reducible refine (cT _).mono ?_
      rintro e w5 ⟨rfl, hb5⟩
      have K6 := Lib.hid (And.intro (Below.then_ K5.out.1 hb5) (K5.out.2.2.kept hb5))
      clear hb5 K5 a0 a1 a2 a3 cT
      go_wp2_with (fail)
      with_reducible refine (cI _).mono ?_
      rintro e w6 ⟨rfl, hb6⟩
      have h6 := K6.out.2.kept hb6
      have hbn := below_new w6 (.cells #[.string t1, .int .i64 b1, .int .i64 s1, .int .i64 r1] 33)
      have K7 := Lib.hid (And.intro (Below.then_ (Below.then_ K6.out.1 hb6) hbn) (And.intro (h6.kept hbn) (Cel.new w6 33 #[.string t1, .int .i64 b1, .int .i64 s1, .int .i64 r1])))
      clear hb6 K6 cI h6 hbn
      go_upto_region 9 with (fail)
      obtain ⟨g2, hg⟩ : ∃ g2, w6.heap.size = g2 := ⟨_, rfl⟩
      rw [hg] at K7 ⊢
      generalize w6.alloc (.cells #[.string t1, .int .i64 b1, .int .i64 s1, .int .i64 r1] 33) = w7 at *
      clear hg
      obtain ⟨d0, d1, d2, d3⟩ := cel4 K7.out.2.1
      obtain ⟨c0, c1, c2, c3⟩ := cel4 K7.out.2.2
      go_wp2_with (fail)
      with_reducible refine (cE _).mono ?_
      rintro e w8 ⟨rfl, hb8⟩
      have K8 := Lib.hid (Below.then_ K7.out.1 hb8)
      clear hb8 K7 cE d0 d1 d2 d3 c0 c1 c2 c3
      go_wp2_with (fail)
      go_ret
      exact ⟨rfl, K8.out⟩

set_option maxRecDepth 100000 in
set_option maxHeartbeats 2000000 in
theorem nextpiece_law (o : Ot) (w : World) (hs : o.text.size ≤ 9223372036854775807) (hb : IntKind.i64.wrap o.sent = o.sent) :
    Calls Try.prog 7 #[.agg #[.string o.text, .int .i64 o.base, .int .i64 o.sent, .int .i64 o.room]] w fun e w' => e = .returned (.bool true) ∧ Below w.heap.size w w' := by
  obtain ⟨t, b, s, r⟩ := o
  simp only at hs hb ⊢
  have hB1 := below_new w (.cells #[.string t, .int .i64 b, .int .i64 s, .int .i64 r] 45)
  have hC1 := Cel.new w 45 #[.string t, .int .i64 b, .int .i64 s, .int .i64 r]
  have z1 := fun W => sz_out ⟨t, b, s, r⟩ 1048576 W (by omega) (by omega) hs
  simp only at z1
  by_cases h1 : (1048576 : Int) - (t.size : Int) < 0
  · rw [if_pos h1] at z1
    have HB := Lib.hid hB1
    clear hB1 hC1 h1 hs hb
    go_enter Try.func7, Try.ntmps7
    go_wp2_with (fail)
    with_reducible refine (z1 _).mono ?_
    rintro e w1 ⟨rfl, hb1⟩
    have HB1 := Lib.hid (Below.then_ HB.out hb1)
    clear hb1 HB z1
    go_wp2_with (fail)
    go_ret
    exact ⟨rfl, HB1.out⟩
  · rw [if_neg h1] at z1
    have cT := fun W => to_out ⟨t, b, s, r⟩ W
    have cS := fun W => spec_next ⟨t, b, s, r⟩ W (by simp only; omega)
    have cI := fun W => impl_next ⟨t, b, s, r⟩ W (by simp only; omega)
    simp only at cT cS cI
    obtain ⟨res, hres⟩ : ∃ res, nxt (Ot.mk t b s r) = res := ⟨_, rfl⟩
    rw [hres] at cS cI
    obtain ⟨⟨pp, pt⟩, pb⟩ := res
    have cE := fun W => eq_piece ⟨pp, pt⟩ W
    simp only at cS cI cE
    clear hres
    have q1 : ¬ (1048576 : Int) - (t.size : Int) < 0 := h1
    generalize (1048576 : Int) - (t.size : Int) = z at z1 q1
    have K1 := Lib.hid (And.intro hB1 hC1)
    clear h1 hs hb hB1 hC1
    go_enter Try.func7, Try.ntmps7
    go_upto_region 2 with (fail)
    generalize w.alloc (.cells #[.string t, .int .i64 b, .int .i64 s, .int .i64 r] 45) = w0 at *
    obtain ⟨a0, a1, a2, a3⟩ := cel4 K1.out.2
    go_wp2_with (fail)
    with_reducible refine (z1 _).mono ?_
    rintro e w1 ⟨rfl, hb1⟩
    have K2 := Lib.hid (And.intro (Below.then_ K1.out.1 hb1) (K1.out.2.kept hb1))
    clear z1 hb1 K1 a0 a1 a2 a3
    obtain ⟨a0, a1, a2, a3⟩ := cel4 K2.out.2
    go_wp2_with (fail)
    with_reducible refine (cT _).mono ?_
    rintro e w2 ⟨rfl, hb2⟩
    have K3 := Lib.hid (And.intro (Below.then_ K2.out.1 hb2) (K2.out.2.kept hb2))
    clear hb2 K2 a0 a1 a2 a3
    go_wp2_with (fail)
    with_reducible refine (cS _).mono ?_
    rintro e w3 ⟨rfl, hb3⟩
    have K4 := Lib.hid (And.intro (Below.then_ K3.out.1 hb3) (K3.out.2.kept hb3))
    clear hb3 K3 cS
    have hbn := below_new w3 (.cells #[.int .i64 pp, .string pt] 41)
    have K5 := Lib.hid (And.intro (Below.then_ K4.out.1 hbn) (And.intro (K4.out.2.kept hbn) (Cel.new w3 41 #[.int .i64 pp, .string pt])))
    clear hbn K4
    go_upto_region 6 with (fail)
    obtain ⟨g1, hg⟩ : ∃ g1, w3.heap.size = g1 := ⟨_, rfl⟩
    rw [hg] at K5 ⊢
    generalize w3.alloc (.cells #[.int .i64 pp, .string pt] 41) = w4 at *
    clear hg
    obtain ⟨a0, a1, a2, a3⟩ := cel4 K5.out.2.1
    go_wp2_with (fail)
    with_reducible refine (cT _).mono ?_
    rintro e w5 ⟨rfl, hb5⟩
    have K6 := Lib.hid (And.intro (Below.then_ K5.out.1 hb5) (K5.out.2.2.kept hb5))
    clear hb5 K5 a0 a1 a2 a3 cT
    go_wp2_with (fail)
    with_reducible refine (cI _).mono ?_
    rintro e w6 ⟨rfl, hb6⟩
    have h6 := K6.out.2.kept hb6
    have hbn := below_new w6 (.cells #[.int .i64 pp, .string pt] 41)
    have K7 := Lib.hid (And.intro (Below.then_ (Below.then_ K6.out.1 hb6) hbn) (And.intro (h6.kept hbn) (Cel.new w6 41 #[.int .i64 pp, .string pt])))
    clear hb6 K6 cI h6 hbn
    go_upto_region 7 with (fail)
    obtain ⟨g2, hg⟩ : ∃ g2, w6.heap.size = g2 := ⟨_, rfl⟩
    rw [hg] at K7 ⊢
    generalize w6.alloc (.cells #[.int .i64 pp, .string pt] 41) = w7 at *
    clear hg
    obtain ⟨d0, d1⟩ := cel2 K7.out.2.1
    obtain ⟨c0, c1⟩ := cel2 K7.out.2.2
    go_wp2_with (fail)
    with_reducible refine (cE _).mono ?_
    rintro e w8 ⟨rfl, hb8⟩
    have K8 := Lib.hid (Below.then_ K7.out.1 hb8)
    clear hb8 K7 cE d0 d1 c0 c1
    go_wp2_with (fail)
    go_ret
    exact ⟨rfl, K8.out⟩

set_option maxRecDepth 100000 in
set_option maxHeartbeats 2000000 in
theorem wassent_law (o : Ot) (w : World) (hs : o.text.size ≤ 9223372036854775807) (hb : IntKind.i64.wrap o.sent = o.sent) :
    Calls Try.prog 8 #[.agg #[.string o.text, .int .i64 o.base, .int .i64 o.sent, .int .i64 o.room]] w fun e w' => e = .returned (.bool true) ∧ Below w.heap.size w w' := by
  obtain ⟨t, b, s, r⟩ := o
  simp only at hs hb ⊢
  have hB1 := below_new w (.cells #[.string t, .int .i64 b, .int .i64 s, .int .i64 r] 45)
  have hC1 := Cel.new w 45 #[.string t, .int .i64 b, .int .i64 s, .int .i64 r]
  have z1 := fun W => sz_out ⟨t, b, s, r⟩ 1048576 W (by omega) (by omega) hs
  simp only at z1
  by_cases h1 : (1048576 : Int) - (t.size : Int) < 0
  · rw [if_pos h1] at z1
    have HB := Lib.hid hB1
    clear hB1 hC1 h1 hs hb
    go_enter Try.func8, Try.ntmps8
    go_wp2_with (fail)
    with_reducible refine (z1 _).mono ?_
    rintro e w1 ⟨rfl, hb1⟩
    have HB1 := Lib.hid (Below.then_ HB.out hb1)
    clear hb1 HB z1
    go_wp2_with (fail)
    go_ret
    exact ⟨rfl, HB1.out⟩
  · rw [if_neg h1] at z1
    have cT := fun W => to_out ⟨t, b, s, r⟩ W
    have cS := fun W => spec_was ⟨t, b, s, r⟩ W (by simp only; omega)
    have cI := fun W => impl_was ⟨t, b, s, r⟩ W (by simp only; omega) hb
    simp only at cT cS cI
    obtain ⟨res, hres⟩ : ∃ res, was (Ot.mk t b s r) = res := ⟨_, rfl⟩
    rw [hres] at cS cI
    obtain ⟨t1, b1, s1, r1⟩ := res
    have cE := fun W => eq_out ⟨t1, b1, s1, r1⟩ W
    simp only at cS cI cE
    clear hres
    have q1 : ¬ (1048576 : Int) - (t.size : Int) < 0 := h1
    generalize (1048576 : Int) - (t.size : Int) = z at z1 q1
    have K1 := Lib.hid (And.intro hB1 hC1)
    clear h1 hs hb hB1 hC1
    go_enter Try.func8, Try.ntmps8
    go_upto_region 2 with (fail)
    generalize w.alloc (.cells #[.string t, .int .i64 b, .int .i64 s, .int .i64 r] 45) = w0 at *
    obtain ⟨a0, a1, a2, a3⟩ := cel4 K1.out.2
    go_wp2_with (fail)
    with_reducible refine (z1 _).mono ?_
    rintro e w1 ⟨rfl, hb1⟩
    have K2 := Lib.hid (And.intro (Below.then_ K1.out.1 hb1) (K1.out.2.kept hb1))
    clear z1 hb1 K1 a0 a1 a2 a3
    obtain ⟨a0, a1, a2, a3⟩ := cel4 K2.out.2
    go_wp2_with (fail)
    with_reducible refine (cT _).mono ?_
    rintro e w2 ⟨rfl, hb2⟩
    have K3 := Lib.hid (And.intro (Below.then_ K2.out.1 hb2) (K2.out.2.kept hb2))
    clear hb2 K2 a0 a1 a2 a3
    go_wp2_with (fail)
    with_reducible refine (cS _).mono ?_
    rintro e w3 ⟨rfl, hb3⟩
    have K4 := Lib.hid (And.intro (Below.then_ K3.out.1 hb3) (K3.out.2.kept hb3))
    clear hb3 K3 cS
    have hbn := below_new w3 (.cells #[.string t1, .int .i64 b1, .int .i64 s1, .int .i64 r1] 33)
    have K5 := Lib.hid (And.intro (Below.then_ K4.out.1 hbn) (And.intro (K4.out.2.kept hbn) (Cel.new w3 33 #[.string t1, .int .i64 b1, .int .i64 s1, .int .i64 r1])))
    clear hbn K4
    go_upto_region 6 with (fail)
    obtain ⟨g1, hg⟩ : ∃ g1, w3.heap.size = g1 := ⟨_, rfl⟩
    rw [hg] at K5 ⊢
    generalize w3.alloc (.cells #[.string t1, .int .i64 b1, .int .i64 s1, .int .i64 r1] 33) = w4 at *
    clear hg
    obtain ⟨a0, a1, a2, a3⟩ := cel4 K5.out.2.1
    go_wp2_with (fail)
    with_reducible refine (cT _).mono ?_
    rintro e w5 ⟨rfl, hb5⟩
    have K6 := Lib.hid (And.intro (Below.then_ K5.out.1 hb5) (K5.out.2.2.kept hb5))
    clear hb5 K5 a0 a1 a2 a3 cT
    go_wp2_with (fail)
    with_reducible refine (cI _).mono ?_
    rintro e w6 ⟨rfl, hb6⟩
    have h6 := K6.out.2.kept hb6
    have hbn := below_new w6 (.cells #[.string t1, .int .i64 b1, .int .i64 s1, .int .i64 r1] 33)
    have K7 := Lib.hid (And.intro (Below.then_ (Below.then_ K6.out.1 hb6) hbn) (And.intro (h6.kept hbn) (Cel.new w6 33 #[.string t1, .int .i64 b1, .int .i64 s1, .int .i64 r1])))
    clear hb6 K6 cI h6 hbn
    go_upto_region 7 with (fail)
    obtain ⟨g2, hg⟩ : ∃ g2, w6.heap.size = g2 := ⟨_, rfl⟩
    rw [hg] at K7 ⊢
    generalize w6.alloc (.cells #[.string t1, .int .i64 b1, .int .i64 s1, .int .i64 r1] 33) = w7 at *
    clear hg
    obtain ⟨d0, d1, d2, d3⟩ := cel4 K7.out.2.1
    obtain ⟨c0, c1, c2, c3⟩ := cel4 K7.out.2.2
    go_wp2_with (fail)
    with_reducible refine (cE _).mono ?_
    rintro e w8 ⟨rfl, hb8⟩
    have K8 := Lib.hid (Below.then_ K7.out.1 hb8)
    clear hb8 K7 cE d0 d1 d2 d3 c0 c1 c2 c3
    go_wp2_with (fail)
    go_ret
    exact ⟨rfl, K8.out⟩

set_option maxRecDepth 100000 in
set_option maxHeartbeats 2000000 in
theorem came_law (o : Ot) (u : Int) (w : World) (hs : o.text.size ≤ 9223372036854775807) (hb : IntKind.i64.wrap o.sent = o.sent) :
    Calls Try.prog 9 #[.agg #[.string o.text, .int .i64 o.base, .int .i64 o.sent, .int .i64 o.room], .int .i64 u] w fun e w' => e = .returned (.bool true) ∧ Below w.heap.size w w' := by
  obtain ⟨t, b, s, r⟩ := o
  simp only at hs hb ⊢
  have hB1 := below_new w (.cells #[.string t, .int .i64 b, .int .i64 s, .int .i64 r] 45)
  have hC1 := Cel.new w 45 #[.string t, .int .i64 b, .int .i64 s, .int .i64 r]
  have z1 := fun W => sz_out ⟨t, b, s, r⟩ 1048576 W (by omega) (by omega) hs
  simp only at z1
  by_cases h1 : (1048576 : Int) - (t.size : Int) < 0
  · rw [if_pos h1] at z1
    have HB := Lib.hid hB1
    clear hB1 hC1 h1 hs hb
    go_enter Try.func9, Try.ntmps9
    go_wp2_with (fail)
    with_reducible refine (z1 _).mono ?_
    rintro e w1 ⟨rfl, hb1⟩
    have HB1 := Lib.hid (Below.then_ HB.out hb1)
    clear hb1 HB z1
    go_wp2_with (fail)
    go_ret
    exact ⟨rfl, HB1.out⟩
  · rw [if_neg h1] at z1
    have cT := fun W => to_out ⟨t, b, s, r⟩ W
    have cS := fun W => spec_came ⟨t, b, s, r⟩ u W (by simp only; omega)
    have cI := fun W => impl_came ⟨t, b, s, r⟩ u W (by simp only; omega)
    simp only at cT cS cI
    obtain ⟨res, hres⟩ : ∃ res, came (Ot.mk t b s r) u = res := ⟨_, rfl⟩
    rw [hres] at cS cI
    obtain ⟨t1, b1, s1, r1⟩ := res
    have cE := fun W => eq_out ⟨t1, b1, s1, r1⟩ W
    simp only at cS cI cE
    clear hres
    have q1 : ¬ (1048576 : Int) - (t.size : Int) < 0 := h1
    generalize (1048576 : Int) - (t.size : Int) = z at z1 q1
    have K1 := Lib.hid (And.intro hB1 hC1)
    clear h1 hs hb hB1 hC1
    go_enter Try.func9, Try.ntmps9
    go_upto_region 2 with (fail)
    generalize w.alloc (.cells #[.string t, .int .i64 b, .int .i64 s, .int .i64 r] 45) = w0 at *
    obtain ⟨a0, a1, a2, a3⟩ := cel4 K1.out.2
    go_wp2_with (fail)
    with_reducible refine (z1 _).mono ?_
    rintro e w1 ⟨rfl, hb1⟩
    have K2 := Lib.hid (And.intro (Below.then_ K1.out.1 hb1) (K1.out.2.kept hb1))
    clear z1 hb1 K1 a0 a1 a2 a3
    obtain ⟨a0, a1, a2, a3⟩ := cel4 K2.out.2
    go_wp2_with (fail)
    with_reducible refine (cT _).mono ?_
    rintro e w2 ⟨rfl, hb2⟩
    have K3 := Lib.hid (And.intro (Below.then_ K2.out.1 hb2) (K2.out.2.kept hb2))
    clear hb2 K2 a0 a1 a2 a3
    go_wp2_with (fail)
    with_reducible refine (cS _).mono ?_
    rintro e w3 ⟨rfl, hb3⟩
    have K4 := Lib.hid (And.intro (Below.then_ K3.out.1 hb3) (K3.out.2.kept hb3))
    clear hb3 K3 cS
    have hbn := below_new w3 (.cells #[.string t1, .int .i64 b1, .int .i64 s1, .int .i64 r1] 33)
    have K5 := Lib.hid (And.intro (Below.then_ K4.out.1 hbn) (And.intro (K4.out.2.kept hbn) (Cel.new w3 33 #[.string t1, .int .i64 b1, .int .i64 s1, .int .i64 r1])))
    clear hbn K4
    go_upto_region 6 with (fail)
    obtain ⟨g1, hg⟩ : ∃ g1, w3.heap.size = g1 := ⟨_, rfl⟩
    rw [hg] at K5 ⊢
    generalize w3.alloc (.cells #[.string t1, .int .i64 b1, .int .i64 s1, .int .i64 r1] 33) = w4 at *
    clear hg
    obtain ⟨a0, a1, a2, a3⟩ := cel4 K5.out.2.1
    go_wp2_with (fail)
    with_reducible refine (cT _).mono ?_
    rintro e w5 ⟨rfl, hb5⟩
    have K6 := Lib.hid (And.intro (Below.then_ K5.out.1 hb5) (K5.out.2.2.kept hb5))
    clear hb5 K5 a0 a1 a2 a3 cT
    go_wp2_with (fail)
    with_reducible refine (cI _).mono ?_
    rintro e w6 ⟨rfl, hb6⟩
    have h6 := K6.out.2.kept hb6
    have hbn := below_new w6 (.cells #[.string t1, .int .i64 b1, .int .i64 s1, .int .i64 r1] 33)
    have K7 := Lib.hid (And.intro (Below.then_ (Below.then_ K6.out.1 hb6) hbn) (And.intro (h6.kept hbn) (Cel.new w6 33 #[.string t1, .int .i64 b1, .int .i64 s1, .int .i64 r1])))
    clear hb6 K6 cI h6 hbn
    go_upto_region 7 with (fail)
    obtain ⟨g2, hg⟩ : ∃ g2, w6.heap.size = g2 := ⟨_, rfl⟩
    rw [hg] at K7 ⊢
    generalize w6.alloc (.cells #[.string t1, .int .i64 b1, .int .i64 s1, .int .i64 r1] 33) = w7 at *
    clear hg
    obtain ⟨d0, d1, d2, d3⟩ := cel4 K7.out.2.1
    obtain ⟨c0, c1, c2, c3⟩ := cel4 K7.out.2.2
    go_wp2_with (fail)
    with_reducible refine (cE _).mono ?_
    rintro e w8 ⟨rfl, hb8⟩
    have K8 := Lib.hid (Below.then_ K7.out.1 hb8)
    clear hb8 K7 cE d0 d1 d2 d3 c0 c1 c2 c3
    go_wp2_with (fail)
    go_ret
    exact ⟨rfl, K8.out⟩

set_option maxRecDepth 100000 in
set_option maxHeartbeats 2000000 in
theorem anew_law (o : Ot) (w : World) (hs : o.text.size ≤ 9223372036854775807) (hb : IntKind.i64.wrap o.sent = o.sent) :
    Calls Try.prog 10 #[.agg #[.string o.text, .int .i64 o.base, .int .i64 o.sent, .int .i64 o.room]] w fun e w' => e = .returned (.bool true) ∧ Below w.heap.size w w' := by
  obtain ⟨t, b, s, r⟩ := o
  simp only at hs hb ⊢
  have hB1 := below_new w (.cells #[.string t, .int .i64 b, .int .i64 s, .int .i64 r] 45)
  have hC1 := Cel.new w 45 #[.string t, .int .i64 b, .int .i64 s, .int .i64 r]
  have z1 := fun W => sz_out ⟨t, b, s, r⟩ 1048576 W (by omega) (by omega) hs
  simp only at z1
  by_cases h1 : (1048576 : Int) - (t.size : Int) < 0
  · rw [if_pos h1] at z1
    have HB := Lib.hid hB1
    clear hB1 hC1 h1 hs hb
    go_enter Try.func10, Try.ntmps10
    go_wp2_with (fail)
    with_reducible refine (z1 _).mono ?_
    rintro e w1 ⟨rfl, hb1⟩
    have HB1 := Lib.hid (Below.then_ HB.out hb1)
    clear hb1 HB z1
    go_wp2_with (fail)
    go_ret
    exact ⟨rfl, HB1.out⟩
  · rw [if_neg h1] at z1
    have cT := fun W => to_out ⟨t, b, s, r⟩ W
    have cS := fun W => spec_anew ⟨t, b, s, r⟩ W (by simp only; omega)
    have cI := fun W => impl_anew ⟨t, b, s, r⟩ W (by simp only; omega)
    simp only at cT cS cI
    obtain ⟨res, hres⟩ : ∃ res, anw (Ot.mk t b s r) = res := ⟨_, rfl⟩
    rw [hres] at cS cI
    obtain ⟨t1, b1, s1, r1⟩ := res
    have cE := fun W => eq_out ⟨t1, b1, s1, r1⟩ W
    simp only at cS cI cE
    clear hres
    have q1 : ¬ (1048576 : Int) - (t.size : Int) < 0 := h1
    generalize (1048576 : Int) - (t.size : Int) = z at z1 q1
    have K1 := Lib.hid (And.intro hB1 hC1)
    clear h1 hs hb hB1 hC1
    go_enter Try.func10, Try.ntmps10
    go_upto_region 2 with (fail)
    generalize w.alloc (.cells #[.string t, .int .i64 b, .int .i64 s, .int .i64 r] 45) = w0 at *
    obtain ⟨a0, a1, a2, a3⟩ := cel4 K1.out.2
    go_wp2_with (fail)
    with_reducible refine (z1 _).mono ?_
    rintro e w1 ⟨rfl, hb1⟩
    have K2 := Lib.hid (And.intro (Below.then_ K1.out.1 hb1) (K1.out.2.kept hb1))
    clear z1 hb1 K1 a0 a1 a2 a3
    obtain ⟨a0, a1, a2, a3⟩ := cel4 K2.out.2
    go_wp2_with (fail)
    with_reducible refine (cT _).mono ?_
    rintro e w2 ⟨rfl, hb2⟩
    have K3 := Lib.hid (And.intro (Below.then_ K2.out.1 hb2) (K2.out.2.kept hb2))
    clear hb2 K2 a0 a1 a2 a3
    go_wp2_with (fail)
    with_reducible refine (cS _).mono ?_
    rintro e w3 ⟨rfl, hb3⟩
    have K4 := Lib.hid (And.intro (Below.then_ K3.out.1 hb3) (K3.out.2.kept hb3))
    clear hb3 K3 cS
    have hbn := below_new w3 (.cells #[.string t1, .int .i64 b1, .int .i64 s1, .int .i64 r1] 33)
    have K5 := Lib.hid (And.intro (Below.then_ K4.out.1 hbn) (And.intro (K4.out.2.kept hbn) (Cel.new w3 33 #[.string t1, .int .i64 b1, .int .i64 s1, .int .i64 r1])))
    clear hbn K4
    go_upto_region 6 with (fail)
    obtain ⟨g1, hg⟩ : ∃ g1, w3.heap.size = g1 := ⟨_, rfl⟩
    rw [hg] at K5 ⊢
    generalize w3.alloc (.cells #[.string t1, .int .i64 b1, .int .i64 s1, .int .i64 r1] 33) = w4 at *
    clear hg
    obtain ⟨a0, a1, a2, a3⟩ := cel4 K5.out.2.1
    go_wp2_with (fail)
    with_reducible refine (cT _).mono ?_
    rintro e w5 ⟨rfl, hb5⟩
    have K6 := Lib.hid (And.intro (Below.then_ K5.out.1 hb5) (K5.out.2.2.kept hb5))
    clear hb5 K5 a0 a1 a2 a3 cT
    go_wp2_with (fail)
    with_reducible refine (cI _).mono ?_
    rintro e w6 ⟨rfl, hb6⟩
    have h6 := K6.out.2.kept hb6
    have hbn := below_new w6 (.cells #[.string t1, .int .i64 b1, .int .i64 s1, .int .i64 r1] 33)
    have K7 := Lib.hid (And.intro (Below.then_ (Below.then_ K6.out.1 hb6) hbn) (And.intro (h6.kept hbn) (Cel.new w6 33 #[.string t1, .int .i64 b1, .int .i64 s1, .int .i64 r1])))
    clear hb6 K6 cI h6 hbn
    go_upto_region 7 with (fail)
    obtain ⟨g2, hg⟩ : ∃ g2, w6.heap.size = g2 := ⟨_, rfl⟩
    rw [hg] at K7 ⊢
    generalize w6.alloc (.cells #[.string t1, .int .i64 b1, .int .i64 s1, .int .i64 r1] 33) = w7 at *
    clear hg
    obtain ⟨d0, d1, d2, d3⟩ := cel4 K7.out.2.1
    obtain ⟨c0, c1, c2, c3⟩ := cel4 K7.out.2.2
    go_wp2_with (fail)
    with_reducible refine (cE _).mono ?_
    rintro e w8 ⟨rfl, hb8⟩
    have K8 := Lib.hid (Below.then_ K7.out.1 hb8)
    clear hb8 K7 cE d0 d1 d2 d3 c0 c1 c2 c3
    go_wp2_with (fail)
    go_ret
    exact ⟨rfl, K8.out⟩

end Go.Proofs.Ytdajfnonehianaa
