import Derived.Test.YtdajfnonehianaaQfp
import Derived.Test.YtdajfnonehianaaQds
import Derived.Test.YtdajfnonehianaaQon
import Derived.Test.YtdajfnonehianaaBig
namespace Go.Proofs.Ytdajfnonehianaa
open Go.RowKit

/-- FnSends' three buffers: the drawn one, the accepted one, the one that is sent. -/
structure Sw (w W : World) (g3 g5 g8 : Nat) (t : ByteArray) (b s r : Int) (u : ByteArray) (x y z a : Value) : Prop where
  c3 : Cel W g3 33 #[.string t, .int .i64 b, .int .i64 s, .int .i64 r]
  c5 : Cel W g5 33 #[.string u, .int .i64 b, .int .i64 s, .int .i64 r]
  c8 : Cel W g8 33 #[x, y, z, a]
  bl : Below w.heap.size w W
  l3 : w.heap.size ≤ g3
  l5 : g3 < g5
  l8 : g5 < g8
theorem Sw.kept {w W W' : World} {g3 g5 g8 : Nat} {t : ByteArray} {b s r : Int} {u : ByteArray} {x y z a : Value} (h : Sw w W g3 g5 g8 t b s r u x y z a) (hb : Below W.heap.size W W') : Sw w W' g3 g5 g8 t b s r u x y z a :=
  ⟨h.c3.kept hb, h.c5.kept hb, h.c8.kept hb, Below.then_ h.bl hb, h.l3, h.l5, h.l8⟩
theorem Sw.put {w W : World} {g3 g5 g8 : Nat} {t : ByteArray} {b s r : Int} {u : ByteArray} {x y z a : Value} (h : Sw w W g3 g5 g8 t b s r u x y z a) (a0 a1 a2 a3 : Value) :
    Sw w ((((W.setCell ⟨g8, 0, none⟩ a0).setCell ⟨g8, 1, none⟩ a1).setCell ⟨g8, 2, none⟩ a2).setCell ⟨g8, 3, none⟩ a3) g3 g5 g8 t b s r u a0 a1 a2 a3 := by
  have h1 := h.l3
  have h2 := h.l5
  have h3 := h.l8
  refine ⟨(((h.c3.other _ _ (by simp; omega)).other _ _ (by simp; omega)).other _ _ (by simp; omega)).other _ _ (by simp; omega), (((h.c5.other _ _ (by simp; omega)).other _ _ (by simp; omega)).other _ _ (by simp; omega)).other _ _ (by simp; omega), ?_, (((h.bl.setCell (p := ⟨g8, 0, none⟩) (by simp; omega) a0).setCell (p := ⟨g8, 1, none⟩) (by simp; omega) a1).setCell (p := ⟨g8, 2, none⟩) (by simp; omega) a2).setCell (p := ⟨g8, 3, none⟩) (by simp; omega) a3, h1, h2, h3⟩
  have := (((h.c8.set 0 a0).set 1 a1).set 2 a2).set 3 a3
  simpa using this
theorem Sw.cells12 {w W : World} {g3 g5 g8 g12 : Nat} {t : ByteArray} {b s r : Int} {u : ByteArray} {x y a c0 c1 c2 c3 : Value} {en : Int} (h : Sw w W g3 g5 g8 t b s r u x y (.int .i64 en) a) (h12 : Cel W g12 33 #[c0, c1, c2, c3]) :
    W.cell? ⟨g3, 0, none⟩ = some (.string t) ∧ W.cell? ⟨g3, 3, none⟩ = some (.int .i64 r) ∧ W.cell? ⟨g5, 0, none⟩ = some (.string u) ∧ W.cell? ⟨g5, 1, none⟩ = some (.int .i64 b) ∧ W.cell? ⟨g8, 2, none⟩ = some (.int .i64 en) ∧ W.cell? ⟨g12, 0, none⟩ = some (c0) ∧ W.cell? ⟨g12, 1, none⟩ = some (c1) ∧ W.cell? ⟨g12, 2, none⟩ = some (c2) ∧ W.cell? ⟨g12, 3, none⟩ = some (c3) :=
  ⟨h.c3.cell 0, h.c3.cell 3, h.c5.cell 0, h.c5.cell 1, h.c8.cell 2, h12.cell 0, h12.cell 1, h12.cell 2, h12.cell 3⟩

set_option linter.unusedSimpArgs false in
set_option maxRecDepth 100000 in
set_option maxHeartbeats 16000000 in
theorem fnsends_law (v : Value) (w : World) (n : Nat) (hr : RdB w v n) :
    Calls Try.prog 4 #[v] w fun e w' => e = .returned (.bool true) ∧ Below w.heap.size w w' := by
  have cb := big_call v n w hr
  by_cases hn : 1048576 < n
  · rw [decide_eq_true hn] at cb
    clear hn hr
    go_enter Try.func4, Try.ntmps4
    go_wp2_with (fail)
    with_reducible refine cb.mono ?_
    rintro e w1 ⟨rfl, rfl⟩
    go_wp2_with (fail)
    go_ret
    exact ⟨rfl, Below.refl _ _⟩
  · rw [decide_eq_false hn] at cb
    have cp := draw_accept v n w hr (by omega)
    clear hn hr
    go_enter Try.func4, Try.ntmps4
    go_wp2_with (fail)
    with_reducible refine cb.mono ?_
    rintro e w0 ⟨rfl, rfl⟩
    clear cb
    go_wp2_with (fail)
    with_reducible refine cp.mono ?_
    rintro e w1 ⟨⟨t, b, s, r⟩, x, rfl, ht, hx, hbb, hb1⟩
    simp only at ht hbb
    clear cp
    have hbn := below_new w1 (.cells #[.string t, .int .i64 b, .int .i64 s, .int .i64 r] 33)
    have K1 := Lib.hid (And.intro (Below.then_ hb1 hbn) (And.intro (Cel.new w1 33 #[.string t, .int .i64 b, .int .i64 s, .int .i64 r]) hb1.size))
    clear hb1 hbn
    simp only
    go_upto_region 4 with (fail)
    obtain ⟨g3, hg⟩ : ∃ g3, w1.heap.size = g3 := ⟨_, rfl⟩
    rw [hg] at K1 ⊢
    generalize w1.alloc (.cells #[.string t, .int .i64 b, .int .i64 s, .int .i64 r] 33) = w2 at *
    clear hg
    have cA := fun W => impl_accept ⟨t, b, s, r⟩ x W (by simp only; omega) (by omega)
    have cS := fun W => spec_outOk ⟨t, b, s, r⟩ W (by simp only; omega)
    simp only at cA cS
    by_cases hok : Ot.Ok ⟨t, b, s, r⟩
    · have hb3 := hbb hok
      have hacc := acc_is ⟨t, b, s, r⟩ x hok hb3
      rw [decide_eq_true hok] at cS
      obtain ⟨nn, hnn⟩ : ∃ nn, accN ⟨t, b, s, r⟩ x = nn := ⟨_, rfl⟩
      rw [hnn] at hacc
      unfold accN at hnn
      simp only at hacc hnn
      have hok2 := hok
      unfold Ot.Ok at hok2
      simp only at hok2
      have hsl := cut_to x nn (by omega) (by omega)
      have hyz : ((x.extract 0 nn.toNat).size : Int) = nn := by simp only [ByteArray.size_extract]; omega
      generalize x.extract 0 nn.toNat = y at hacc hsl hyz
      have hcat : t.size + y.size ≤ 9223372036854775807 := by omega
      have huz : (t ++ y).size = t.size + y.size := ByteArray.size_append
      obtain ⟨u, hu⟩ : ∃ u, t ++ y = u := ⟨_, rfl⟩
      rw [hu] at hacc huz
      rw [hacc] at cA
      simp only at cA
      have hc1 : nn = (x.size : Int) ∨ (u.size : Int) = r := by omega
      have hf : 0 ≤ b ∧ b ≤ 1000 ∧ 1 ≤ r ∧ r ≤ 200 ∧ (u.size : Int) ≤ r := by omega
      have hok5 : Ot.Ok ⟨u, b, s, r⟩ := by unfold Ot.Ok; simp only; omega
      have cN := fun W => impl_anew ⟨u, b, s, r⟩ W (by simp only; omega)
      rw [anw_is ⟨u, b, s, r⟩ hok5] at cN
      simp only at cN
      have HF := Lib.hid (And.intro hf hc1)
      have HU := Lib.hid hu
      clear hok hok2 hbb hb3 hacc hnn hyz huz hc1 hok5 ht hx hu
      obtain ⟨a0, a1, a2, a3⟩ := cel4 K1.out.2.1
      go_wp2_with (fail)
      with_reducible refine (cA _).mono ?_
      rintro e w3 ⟨rfl, hb3⟩
      have hB3 := Below.then_ K1.out.1 hb3
      have hC3 := K1.out.2.1.kept hb3
      have hbn := below_new w3 (.cells #[.string u, .int .i64 b, .int .i64 s, .int .i64 r] 33)
      have K4 := Lib.hid (And.intro (Below.then_ hB3 hbn) (And.intro (hC3.kept hbn) (And.intro (Cel.new w3 33 #[.string u, .int .i64 b, .int .i64 s, .int .i64 r]) (And.intro K1.out.2.2 hC3.lt))))
      clear K1 cA hb3 hB3 hC3 hbn a0 a1 a2 a3
      go_upto_region 5 with (fail)
      obtain ⟨g5, hg⟩ : ∃ g5, w3.heap.size = g5 := ⟨_, rfl⟩
      rw [hg] at K4 ⊢
      generalize w3.alloc (.cells #[.string u, .int .i64 b, .int .i64 s, .int .i64 r] 33) = w4 at *
      clear hg
      obtain ⟨a0, a1, a2, a3⟩ := cel4 K4.out.2.1
      go_wp2_with (fail)
      with_reducible refine (cS _).mono ?_
      rintro e w5 ⟨rfl, hb5⟩
      have K5 := Lib.hid (And.intro (Below.then_ K4.out.1 hb5) (And.intro (K4.out.2.1.kept hb5) (And.intro (K4.out.2.2.1.kept hb5) K4.out.2.2.2)))
      clear K4 cS hb5 a0 a1 a2 a3
      obtain ⟨a0, a1, a2, a3⟩ := cel4 K5.out.2.2.1
      go_wp2_with (fail)
      with_reducible refine (cN _).mono ?_
      rintro e w6 ⟨rfl, hb6⟩
      have hB6 := Below.then_ K5.out.1 hb6
      have hC6 := K5.out.2.1.kept hb6
      have hD6 := K5.out.2.2.1.kept hb6
      have hbn := below_new w6 (.cells #[.string u, .int .i64 b, .int .i64 b, .int .i64 r] 33)
      have hS7 : Sw w (w6.alloc (.cells #[.string u, .int .i64 b, .int .i64 b, .int .i64 r] 33)) g3 g5 w6.heap.size t b s r u (.string u) (.int .i64 b) (.int .i64 b) (.int .i64 r) :=
        ⟨hC6.kept hbn, hD6.kept hbn, Cel.new w6 33 #[.string u, .int .i64 b, .int .i64 b, .int .i64 r], Below.then_ hB6 hbn, K5.out.2.2.2.1, K5.out.2.2.2.2, hD6.lt⟩
      have K7 := Lib.hid hS7
      clear K5 cN hb6 hB6 hC6 hD6 hbn hS7 a0 a1 a2 a3
      go_upto_region 9 with (fail)
      obtain ⟨g8, hg⟩ : ∃ g8, w6.heap.size = g8 := ⟨_, rfl⟩
      rw [hg] at K7 ⊢
      generalize w6.alloc (.cells #[.string u, .int .i64 b, .int .i64 b, .int .i64 r] 33) = w7 at *
      clear hg
      go_wp2_with (fail)
      go_loopw [7, 9] (fun al i wr => ∃ (k m : Nat), k ≤ 10 ∧ m = min (20 * k) u.size ∧ i = .int .i64 (k : Int) ∧ al = .string (u.extract 0 m) ∧ Sw w wr g3 g5 g8 t b s r u (.string u) (.int .i64 b) (.int .i64 (b + (m : Int))) (.int .i64 r)) (fun _ i _ => 50 - (intOf i).toNat)
      case atStart => exact ⟨0, 0, by omega, by omega, rfl, congrArg Value.string (ByteArray.ext (by simp)), by simpa using K7.out⟩
      case round =>
        clear K7
        obtain ⟨k, m, hk, hm, rfl, rfl, Q⟩ := hrel
        have hml : m ≤ u.size := by omega
        have hokX := ok_at u b r m HF.out.1 hml
        have hus : u.size ≤ 200 := by have := HF.out.1; omega
        have q40 : (k : Int) < 40 := by omega
        have cX := fun W => impl_next ⟨u, b, b + (m : Int), r⟩ W (by simp only; omega)
        by_cases hlt : m < u.size
        · rw [nxt_at u b r m hokX hlt] at cX
          have cW := fun W => impl_was ⟨u, b, b + (m : Int), r⟩ W (by simp only; omega) (IntWalk.i64_in _ (by have := HF.out.1; simp only; omega))
          rw [was_at u b r m hokX hlt] at cW
          have hsp := ext_split u m (min 20 (u.size - m))
          have hpz : (u.extract m (m + min 20 (u.size - m))).size = min 20 (u.size - m) := by simp only [ByteArray.size_extract]; omega
          have haz : (u.extract 0 m).size = m := by simp only [ByteArray.size_extract]; omega
          obtain ⟨m2, hm2⟩ : ∃ m2, m + min 20 (u.size - m) = m2 := ⟨_, rfl⟩
          rw [hm2] at cX cW hsp hpz
          have hm3 : m2 = min (20 * (k + 1)) u.size ∧ k + 1 ≤ 10 := by omega
          have hp0 : ((u.extract m m2).size : Int) ≠ 0 := by omega
          have hp1 : (((u.extract m m2).size : Int) == 0) = false := by simpa using hp0
          have hp2 : ¬ (20 : Int) < ((u.extract m m2).size : Int) := by omega
          have hcc : (u.extract 0 m).size + (u.extract m m2).size ≤ 9223372036854775807 := by omega
          generalize u.extract m m2 = pt at *
          generalize u.extract 0 m = al at *
          generalize b + (m : Int) = sn at *
          obtain ⟨sn2, hsn2⟩ : ∃ sn2, b + (m2 : Int) = sn2 := ⟨_, rfl⟩
          rw [hsn2] at cW
          simp only at cX cW
          have HM := Lib.hid (And.intro hm3 (And.intro hsp hsn2))
          have H8 := Lib.hid Q
          clear Q hm hml hokX hus hlt hsp hpz haz hm2 hm3 hp0 hsn2
          have e9 : IntKind.i64.wrap ((k : Int) + 1) = (k : Int) + 1 := IntWalk.i64_in _ (by omega)
          obtain ⟨a0, a1, a2, a3⟩ := cel4 H8.out.c8
          go_wp2_with (fail)
          with_reducible refine (cX _).mono ?_
          rintro e wA ⟨rfl, hbA⟩
          have h9 := H8.out.kept hbA
          have hbn := below_new wA (.cells #[.int .i64 sn, .string pt] 41)
          have H9 := Lib.hid (And.intro (h9.kept hbn) (Cel.new wA 41 #[.int .i64 sn, .string pt]))
          clear H8 cX hbA h9 hbn a0 a1 a2 a3
          go_upto_region 13 with (fail)
          obtain ⟨g10, hg⟩ : ∃ g10, wA.heap.size = g10 := ⟨_, rfl⟩
          rw [hg] at H9 ⊢
          generalize wA.alloc (.cells #[.int .i64 sn, .string pt] 41) = wB at *
          clear hg
          obtain ⟨a0, a1, a2, a3⟩ := cel4 H9.out.1.c8
          obtain ⟨p0, p1⟩ := cel2 H9.out.2
          go_wp2_with (fail)
          with_reducible refine (cW _).mono ?_
          rintro e wC ⟨rfl, hbC⟩
          have HA := Lib.hid (H9.out.1.kept hbC)
          clear H9 cW hbC a0 a1 a2 a3 p0 p1
          obtain ⟨a0, a1, a2, a3⟩ := cel4 HA.out.c8
          have f0 := HA.out.c8.frozen 0
          have f1 := HA.out.c8.frozen 1
          have f2 := HA.out.c8.frozen 2
          have f3 := HA.out.c8.frozen 3
          have HB := Lib.hid (HA.out.put (.string u) (.int .i64 b) (.int .i64 sn2) (.int .i64 r))
          clear HA
          go_wp2_with (fail)
          go_roundw
          case rel => exact ⟨k + 1, m2, HM.out.1.2, HM.out.1.1, by go_num, congrArg Value.string HM.out.2.1, by rw [HM.out.2.2]; exact HB.out⟩
          case measure => simp [intOf]; omega
        · obtain rfl : m = u.size := by omega
          rw [nxt_none u b r u.size rfl] at cX
          have hall : u.extract 0 u.size = u := extract_all u
          rw [hall]
          have cC := fun W => impl_came ⟨u, b, b + (u.size : Int), r⟩ (b + (u.size : Int)) W (by simp only; omega)
          obtain ⟨ok1, ok2⟩ := came_all u b r hokX HF.out.1.2.1
          have een : IntKind.i64.wrap (b + (u.size : Int)) = b + (u.size : Int) := IntWalk.i64_in _ (by have := HF.out.1; omega)
          generalize came ⟨u, b, b + (u.size : Int), r⟩ (b + (u.size : Int)) = cm at *
          obtain ⟨ct, cb, cs, cr⟩ := cm
          have hcz : ct.size ≤ 200 := by unfold Ot.Ok at ok1; simp only at ok1; omega
          have cO := fun W => impl_outOk ⟨ct, cb, cs, cr⟩ W (by simp only; omega)
          rw [decide_eq_true ok1] at cO
          obtain ⟨en, hen⟩ : ∃ en, b + (u.size : Int) = en := ⟨_, rfl⟩
          rw [hen] at ok2 cC cX Q
          have een2 : IntKind.i64.wrap (b + (u.size : Int)) = en := een.trans hen
          simp only at cX cC cO ok2
          have H8 := Lib.hid Q
          have hu := HU.out
          have hc1 := HF.out.2
          clear Q hm hml hokX hus hlt ok1 hcz een hen hall HF HU hk
          obtain ⟨a0, a1, a2, a3⟩ := cel4 H8.out.c8
          go_wp2_with (fail)
          with_reducible refine (cX _).mono ?_
          rintro e wA ⟨rfl, hbA⟩
          have h9 := H8.out.kept hbA
          have hbn := below_new wA (.cells #[.int .i64 0, .string ⟨#[]⟩] 41)
          have H9 := Lib.hid (h9.kept hbn)
          clear H8 cX hbA h9 hbn a0 a1 a2 a3
          go_upto_region 13 with (fail)
          generalize wA.alloc (.cells #[.int .i64 0, .string ⟨#[]⟩] 41) = wB at *
          obtain ⟨a0, a1, a2, a3⟩ := cel4 H9.out.c8
          obtain ⟨d0, d1, d2, d3⟩ := cel4 H9.out.c5
          go_wp2_with (fail)
          with_reducible refine (cC _).mono ?_
          rintro e wC ⟨rfl, hbC⟩
          have h10 := H9.out.kept hbC
          have hbn := below_new wC (.cells #[.string ct, .int .i64 cb, .int .i64 cs, .int .i64 cr] 33)
          have HA := Lib.hid (And.intro (h10.kept hbn) (Cel.new wC 33 #[.string ct, .int .i64 cb, .int .i64 cs, .int .i64 cr]))
          clear H9 cC hbC h10 hbn a0 a1 a2 a3 d0 d1 d2 d3
          go_upto_region 19 with (fail)
          obtain ⟨g12, hg⟩ : ∃ g12, wC.heap.size = g12 := ⟨_, rfl⟩
          rw [hg] at HA ⊢
          generalize wC.alloc (.cells #[.string ct, .int .i64 cb, .int .i64 cs, .int .i64 cr] 33) = wD at *
          clear hg
          have KE := Lib.hid (And.intro (HA.out.1.kept (Below.refl _ _).drew) HA.out.2.drew)
          clear HA
          have e0 := KE.out.1.cells12 KE.out.2
          by_cases hx1 : nn = (x.size : Int)
          · have x1 : (nn == (x.size : Int)) = true := by simpa using hx1
            clear hc1
            by_cases hz : u.size = 0
            · have x2 : ((u.size : Int) == 0) = true := by simpa using hz
              clear hz ok2
              clear hx1
              refine wp_region_held_drew (S := fun W => W.cell? ⟨g3, 0, none⟩ = some (.string t) ∧ W.cell? ⟨g3, 3, none⟩ = some (.int .i64 r) ∧ W.cell? ⟨g5, 0, none⟩ = some (.string u) ∧ W.cell? ⟨g5, 1, none⟩ = some (.int .i64 b) ∧ W.cell? ⟨g8, 2, none⟩ = some (.int .i64 en) ∧ W.cell? ⟨g12, 0, none⟩ = some (.string ct) ∧ W.cell? ⟨g12, 1, none⟩ = some (.int .i64 cb) ∧ W.cell? ⟨g12, 2, none⟩ = some (.int .i64 cs) ∧ W.cell? ⟨g12, 3, none⟩ = some (.int .i64 cr)) (by kernel_rfl) e0 (fun hHeld => ?_)
              refine take_yes (i := 0) (oi := { dst := some 80, op := Op.fieldAddr 33 (Operand.tmp 5) 0, type := 0, pos := "laws.go:489", after := #[], guard := none }) (v := .pointer (some ⟨g5, 0, none⟩)) rfl (by kernel_rfl) (by kernel_rfl) (by kernel_rfl) (fun _ _ _ h => h) (by rfl) (fun w hSw => by (try dsimp only at hSw); go_simp) (by assumption) ?_
              try simp only [Act.put, List.setIfInBounds_toArray, List.set_cons_zero, List.set_cons_succ]
              refine take_yes (i := 1) (oi := { dst := some 81, op := Op.load 9 (Operand.tmp 80), type := 9, pos := "laws.go:489", after := #[{ on := 0, ground := Ground.data }], guard := none }) (v := .string u) rfl (by kernel_rfl) (by kernel_rfl) (by kernel_rfl) (fun _ _ _ h => h) (by rfl) (fun w hSw => by (try dsimp only at hSw); go_simp) (by assumption) ?_
              try simp only [Act.put, List.setIfInBounds_toArray, List.set_cons_zero, List.set_cons_succ]
              refine take_yes (i := 2) (oi := { dst := some 82, op := Op.fieldAddr 33 (Operand.tmp 3) 0, type := 0, pos := "laws.go:489", after := #[], guard := none }) (v := .pointer (some ⟨g3, 0, none⟩)) rfl (by kernel_rfl) (by kernel_rfl) (by kernel_rfl) (fun _ _ _ h => h) (by rfl) (fun w hSw => by (try dsimp only at hSw); go_simp) (by assumption) ?_
              try simp only [Act.put, List.setIfInBounds_toArray, List.set_cons_zero, List.set_cons_succ]
              refine take_yes (i := 3) (oi := { dst := some 83, op := Op.load 9 (Operand.tmp 82), type := 9, pos := "laws.go:489", after := #[{ on := 2, ground := Ground.data }], guard := none }) (v := .string t) rfl (by kernel_rfl) (by kernel_rfl) (by kernel_rfl) (fun _ _ _ h => h) (by rfl) (fun w hSw => by (try dsimp only at hSw); go_simp) (by assumption) ?_
              try simp only [Act.put, List.setIfInBounds_toArray, List.set_cons_zero, List.set_cons_succ]
              refine take_yes (i := 4) (oi := { dst := some 84, op := Op.move (Operand.tmp 4), type := 9, pos := "laws.go:489", after := #[], guard := none }) (v := .string x) rfl (by kernel_rfl) (by kernel_rfl) (by kernel_rfl) (fun _ _ _ h => h) (by rfl) (fun w hSw => by (try dsimp only at hSw); go_simp) (by assumption) ?_
              try simp only [Act.put, List.setIfInBounds_toArray, List.set_cons_zero, List.set_cons_succ]
              refine take_yes (i := 5) (oi := { dst := some 85, op := Op.move (Operand.tmp 6), type := 3, pos := "laws.go:489", after := #[], guard := none }) (v := .int .i64 nn) rfl (by kernel_rfl) (by kernel_rfl) (by kernel_rfl) (fun _ _ _ h => h) (by rfl) (fun w hSw => by (try dsimp only at hSw); go_simp) (by assumption) ?_
              try simp only [Act.put, List.setIfInBounds_toArray, List.set_cons_zero, List.set_cons_succ]
              refine take_yes (i := 6) (oi := { dst := some 86, op := Op.slice 9 (Operand.tmp 84) none (some (Operand.tmp 85)) none, type := 9, pos := "laws.go:489", after := #[{ on := 4, ground := Ground.data }, { on := 5, ground := Ground.data }], guard := none }) (v := .string y) rfl (by kernel_rfl) (by kernel_rfl) (by kernel_rfl) (fun _ _ _ h => h) (by rfl) (fun w hSw => by (try dsimp only at hSw); go_simp) (by assumption) ?_
              try simp only [Act.put, List.setIfInBounds_toArray, List.set_cons_zero, List.set_cons_succ]
              refine take_yes (i := 7) (oi := { dst := some 87, op := Op.binOp BinOp.add 9 (Operand.tmp 83) (Operand.tmp 86) 9, type := 9, pos := "laws.go:489", after := #[{ on := 3, ground := Ground.data }, { on := 6, ground := Ground.data }], guard := none }) (v := .string u) rfl (by kernel_rfl) (by kernel_rfl) (by kernel_rfl) (fun _ _ _ h => h) (by rfl) (fun w hSw => by (try dsimp only at hSw); go_simp) (by assumption) ?_
              try simp only [Act.put, List.setIfInBounds_toArray, List.set_cons_zero, List.set_cons_succ]
              refine take_yes (i := 8) (oi := { dst := some 88, op := Op.binOp BinOp.eql 9 (Operand.tmp 81) (Operand.tmp 87) 9, type := 4, pos := "laws.go:489", after := #[{ on := 1, ground := Ground.data }, { on := 7, ground := Ground.data }], guard := none }) (v := .bool true) rfl (by kernel_rfl) (by kernel_rfl) (by kernel_rfl) (fun _ _ _ h => h) (by rfl) (fun w hSw => by (try dsimp only at hSw); go_simp) (by assumption) ?_
              try simp only [Act.put, List.setIfInBounds_toArray, List.set_cons_zero, List.set_cons_succ]
              refine take_yes (i := 9) (oi := { dst := some 89, op := Op.move (Operand.tmp 88), type := 4, pos := "laws.go:489", after := #[{ on := 8, ground := Ground.data }], guard := none }) (v := .bool true) rfl (by kernel_rfl) (by kernel_rfl) (by kernel_rfl) (fun _ _ _ h => h) (by rfl) (fun w hSw => by (try dsimp only at hSw); go_simp) (by assumption) ?_
              try simp only [Act.put, List.setIfInBounds_toArray, List.set_cons_zero, List.set_cons_succ]
              refine take_yes (i := 10) (oi := { dst := some 90, op := Op.move (Operand.tmp 6), type := 3, pos := "laws.go:489", after := #[{ on := 9, ground := Ground.guard }], guard := some (9, true) }) (v := .int .i64 nn) rfl (by kernel_rfl) (by kernel_rfl) (by kernel_rfl) (fun _ _ _ h => h) (by rfl) (fun w hSw => by (try dsimp only at hSw); go_simp) (by assumption) ?_
              try simp only [Act.put, List.setIfInBounds_toArray, List.set_cons_zero, List.set_cons_succ]
              refine take_yes (i := 11) (oi := { dst := some 91, op := Op.move (Operand.tmp 4), type := 9, pos := "laws.go:489", after := #[{ on := 9, ground := Ground.guard }], guard := some (9, true) }) (v := .string x) rfl (by kernel_rfl) (by kernel_rfl) (by kernel_rfl) (fun _ _ _ h => h) (by rfl) (fun w hSw => by (try dsimp only at hSw); go_simp) (by assumption) ?_
              try simp only [Act.put, List.setIfInBounds_toArray, List.set_cons_zero, List.set_cons_succ]
              refine take_yes (i := 12) (oi := { dst := some 92, op := Op.call { callee := Callee.builtin Builtin.len, args := #[Operand.tmp 91], argTypes := #[9] }, type := 3, pos := "laws.go:489", after := #[{ on := 11, ground := Ground.data }, { on := 9, ground := Ground.guard }], guard := some (9, true) }) (v := .int .i64 (x.size : Int)) rfl (by kernel_rfl) (by kernel_rfl) (by kernel_rfl) (fun _ _ _ h => h) (by rfl) (fun w hSw => by (try dsimp only at hSw); go_simp) (by assumption) ?_
              try simp only [Act.put, List.setIfInBounds_toArray, List.set_cons_zero, List.set_cons_succ]
              refine take_yes (i := 13) (oi := { dst := some 93, op := Op.binOp BinOp.eql 3 (Operand.tmp 90) (Operand.tmp 92) 3, type := 4, pos := "laws.go:489", after := #[{ on := 10, ground := Ground.data }, { on := 12, ground := Ground.data }, { on := 9, ground := Ground.guard }], guard := some (9, true) }) (v := .bool true) rfl (by kernel_rfl) (by kernel_rfl) (by kernel_rfl) (fun _ _ _ h => h) (by rfl) (fun w hSw => by (try dsimp only at hSw); go_simp) (by assumption) ?_
              try simp only [Act.put, List.setIfInBounds_toArray, List.set_cons_zero, List.set_cons_succ]
              refine take_yes (i := 14) (oi := { dst := some 94, op := Op.move (Operand.tmp 93), type := 4, pos := "laws.go:489", after := #[{ on := 13, ground := Ground.data }, { on := 9, ground := Ground.chain }, { on := 9, ground := Ground.guard }], guard := some (9, true) }) (v := .bool true) rfl (by kernel_rfl) (by kernel_rfl) (by kernel_rfl) (fun _ _ _ h => h) (by rfl) (fun w hSw => by (try dsimp only at hSw); go_simp) (by assumption) ?_
              try simp only [Act.put, List.setIfInBounds_toArray, List.set_cons_zero, List.set_cons_succ]
              refine take_no (i := 15) (oi := { dst := some 95, op := Op.fieldAddr 33 (Operand.tmp 5) 0, type := 0, pos := "laws.go:489", after := #[{ on := 14, ground := Ground.guard }], guard := some (14, false) }) rfl (by kernel_rfl) (by kernel_rfl) (by kernel_rfl) (fun _ _ _ h => h) (by rfl) (by assumption) ?_
              try simp only [Act.put, List.setIfInBounds_toArray, List.set_cons_zero, List.set_cons_succ]
              refine take_no (i := 16) (oi := { dst := some 96, op := Op.load 9 (Operand.tmp 95), type := 9, pos := "laws.go:489", after := #[{ on := 15, ground := Ground.data }, { on := 14, ground := Ground.guard }], guard := some (14, false) }) rfl (by kernel_rfl) (by kernel_rfl) (by kernel_rfl) (fun _ _ _ h => h) (by rfl) (by assumption) ?_
              try simp only [Act.put, List.setIfInBounds_toArray, List.set_cons_zero, List.set_cons_succ]
              refine take_no (i := 17) (oi := { dst := some 97, op := Op.call { callee := Callee.builtin Builtin.len, args := #[Operand.tmp 96], argTypes := #[9] }, type := 3, pos := "laws.go:489", after := #[{ on := 16, ground := Ground.data }, { on := 14, ground := Ground.guard }], guard := some (14, false) }) rfl (by kernel_rfl) (by kernel_rfl) (by kernel_rfl) (fun _ _ _ h => h) (by rfl) (by assumption) ?_
              try simp only [Act.put, List.setIfInBounds_toArray, List.set_cons_zero, List.set_cons_succ]
              refine take_no (i := 18) (oi := { dst := some 98, op := Op.fieldAddr 33 (Operand.tmp 3) 3, type := 0, pos := "laws.go:489", after := #[{ on := 14, ground := Ground.guard }], guard := some (14, false) }) rfl (by kernel_rfl) (by kernel_rfl) (by kernel_rfl) (fun _ _ _ h => h) (by rfl) (by assumption) ?_
              try simp only [Act.put, List.setIfInBounds_toArray, List.set_cons_zero, List.set_cons_succ]
              refine take_no (i := 19) (oi := { dst := some 99, op := Op.load 3 (Operand.tmp 98), type := 3, pos := "laws.go:489", after := #[{ on := 18, ground := Ground.data }, { on := 14, ground := Ground.guard }], guard := some (14, false) }) rfl (by kernel_rfl) (by kernel_rfl) (by kernel_rfl) (fun _ _ _ h => h) (by rfl) (by assumption) ?_
              try simp only [Act.put, List.setIfInBounds_toArray, List.set_cons_zero, List.set_cons_succ]
              refine take_no (i := 20) (oi := { dst := some 100, op := Op.binOp BinOp.eql 3 (Operand.tmp 97) (Operand.tmp 99) 3, type := 4, pos := "laws.go:489", after := #[{ on := 17, ground := Ground.data }, { on := 19, ground := Ground.data }, { on := 14, ground := Ground.guard }], guard := some (14, false) }) rfl (by kernel_rfl) (by kernel_rfl) (by kernel_rfl) (fun _ _ _ h => h) (by rfl) (by assumption) ?_
              try simp only [Act.put, List.setIfInBounds_toArray, List.set_cons_zero, List.set_cons_succ]
              refine take_yes (i := 21) (oi := { dst := some 101, op := Op.pick (Operand.tmp 94) (Operand.const (Value.bool true)) (Operand.tmp 100), type := 4, pos := "laws.go:489", after := #[{ on := 14, ground := Ground.data }, { on := 20, ground := Ground.data }, { on := 9, ground := Ground.guard }], guard := some (9, true) }) (v := .bool true) rfl (by kernel_rfl) (by kernel_rfl) (by kernel_rfl) (fun _ _ _ h => h) (by rfl) (fun w hSw => by (try dsimp only at hSw); go_simp) (by assumption) ?_
              try simp only [Act.put, List.setIfInBounds_toArray, List.set_cons_zero, List.set_cons_succ]
              refine take_yes (i := 22) (oi := { dst := some 102, op := Op.pick (Operand.tmp 89) (Operand.tmp 101) (Operand.const (Value.bool false)), type := 4, pos := "laws.go:489", after := #[{ on := 9, ground := Ground.data }, { on := 21, ground := Ground.data }], guard := none }) (v := .bool true) rfl (by kernel_rfl) (by kernel_rfl) (by kernel_rfl) (fun _ _ _ h => h) (by rfl) (fun w hSw => by (try dsimp only at hSw); go_simp) (by assumption) ?_
              try simp only [Act.put, List.setIfInBounds_toArray, List.set_cons_zero, List.set_cons_succ]
              refine take_yes (i := 23) (oi := { dst := some 103, op := Op.move (Operand.tmp 102), type := 4, pos := "laws.go:489", after := #[{ on := 22, ground := Ground.data }, { on := 14, ground := Ground.chain }], guard := none }) (v := .bool true) rfl (by kernel_rfl) (by kernel_rfl) (by kernel_rfl) (fun _ _ _ h => h) (by rfl) (fun w hSw => by (try dsimp only at hSw); go_simp) (by assumption) ?_
              try simp only [Act.put, List.setIfInBounds_toArray, List.set_cons_zero, List.set_cons_succ]
              refine take_yes (i := 24) (oi := { dst := some 104, op := Op.move (Operand.tmp 7), type := 9, pos := "laws.go:489", after := #[{ on := 23, ground := Ground.guard }], guard := some (23, true) }) (v := .string u) rfl (by kernel_rfl) (by kernel_rfl) (by kernel_rfl) (fun _ _ _ h => h) (by rfl) (fun w hSw => by (try dsimp only at hSw); go_simp) (by assumption) ?_
              try simp only [Act.put, List.setIfInBounds_toArray, List.set_cons_zero, List.set_cons_succ]
              refine take_yes (i := 25) (oi := { dst := some 105, op := Op.fieldAddr 33 (Operand.tmp 5) 0, type := 0, pos := "laws.go:489", after := #[{ on := 23, ground := Ground.guard }], guard := some (23, true) }) (v := .pointer (some ⟨g5, 0, none⟩)) rfl (by kernel_rfl) (by kernel_rfl) (by kernel_rfl) (fun _ _ _ h => h) (by rfl) (fun w hSw => by (try dsimp only at hSw); go_simp) (by assumption) ?_
              try simp only [Act.put, List.setIfInBounds_toArray, List.set_cons_zero, List.set_cons_succ]
              refine take_yes (i := 26) (oi := { dst := some 106, op := Op.load 9 (Operand.tmp 105), type := 9, pos := "laws.go:489", after := #[{ on := 25, ground := Ground.data }, { on := 23, ground := Ground.guard }], guard := some (23, true) }) (v := .string u) rfl (by kernel_rfl) (by kernel_rfl) (by kernel_rfl) (fun _ _ _ h => h) (by rfl) (fun w hSw => by (try dsimp only at hSw); go_simp) (by assumption) ?_
              try simp only [Act.put, List.setIfInBounds_toArray, List.set_cons_zero, List.set_cons_succ]
              refine take_yes (i := 27) (oi := { dst := some 107, op := Op.binOp BinOp.eql 9 (Operand.tmp 104) (Operand.tmp 106) 9, type := 4, pos := "laws.go:489", after := #[{ on := 24, ground := Ground.data }, { on := 26, ground := Ground.data }, { on := 23, ground := Ground.guard }], guard := some (23, true) }) (v := .bool true) rfl (by kernel_rfl) (by kernel_rfl) (by kernel_rfl) (fun _ _ _ h => h) (by rfl) (fun w hSw => by (try dsimp only at hSw); go_simp) (by assumption) ?_
              try simp only [Act.put, List.setIfInBounds_toArray, List.set_cons_zero, List.set_cons_succ]
              refine take_yes (i := 28) (oi := { dst := some 108, op := Op.pick (Operand.tmp 103) (Operand.tmp 107) (Operand.const (Value.bool false)), type := 4, pos := "laws.go:489", after := #[{ on := 23, ground := Ground.data }, { on := 27, ground := Ground.data }], guard := none }) (v := .bool true) rfl (by kernel_rfl) (by kernel_rfl) (by kernel_rfl) (fun _ _ _ h => h) (by rfl) (fun w hSw => by (try dsimp only at hSw); go_simp) (by assumption) ?_
              try simp only [Act.put, List.setIfInBounds_toArray, List.set_cons_zero, List.set_cons_succ]
              refine take_yes (i := 29) (oi := { dst := some 109, op := Op.move (Operand.tmp 108), type := 4, pos := "laws.go:489", after := #[{ on := 28, ground := Ground.data }, { on := 23, ground := Ground.chain }], guard := none }) (v := .bool true) rfl (by kernel_rfl) (by kernel_rfl) (by kernel_rfl) (fun _ _ _ h => h) (by rfl) (fun w hSw => by (try dsimp only at hSw); go_simp) (by assumption) ?_
              try simp only [Act.put, List.setIfInBounds_toArray, List.set_cons_zero, List.set_cons_succ]
              refine take_yes (i := 30) (oi := { dst := some 110, op := Op.fieldAddr 33 (Operand.tmp 8) 2, type := 0, pos := "laws.go:489", after := #[{ on := 29, ground := Ground.guard }], guard := some (29, true) }) (v := .pointer (some ⟨g8, 2, none⟩)) rfl (by kernel_rfl) (by kernel_rfl) (by kernel_rfl) (fun _ _ _ h => h) (by rfl) (fun w hSw => by (try dsimp only at hSw); go_simp) (by assumption) ?_
              try simp only [Act.put, List.setIfInBounds_toArray, List.set_cons_zero, List.set_cons_succ]
              refine take_yes (i := 31) (oi := { dst := some 111, op := Op.load 3 (Operand.tmp 110), type := 3, pos := "laws.go:489", after := #[{ on := 30, ground := Ground.data }, { on := 29, ground := Ground.guard }], guard := some (29, true) }) (v := .int .i64 en) rfl (by kernel_rfl) (by kernel_rfl) (by kernel_rfl) (fun _ _ _ h => h) (by rfl) (fun w hSw => by (try dsimp only at hSw); go_simp) (by assumption) ?_
              try simp only [Act.put, List.setIfInBounds_toArray, List.set_cons_zero, List.set_cons_succ]
              refine take_yes (i := 32) (oi := { dst := some 112, op := Op.fieldAddr 33 (Operand.tmp 5) 1, type := 0, pos := "laws.go:489", after := #[{ on := 29, ground := Ground.guard }], guard := some (29, true) }) (v := .pointer (some ⟨g5, 1, none⟩)) rfl (by kernel_rfl) (by kernel_rfl) (by kernel_rfl) (fun _ _ _ h => h) (by rfl) (fun w hSw => by (try dsimp only at hSw); go_simp) (by assumption) ?_
              try simp only [Act.put, List.setIfInBounds_toArray, List.set_cons_zero, List.set_cons_succ]
              refine take_yes (i := 33) (oi := { dst := some 113, op := Op.load 3 (Operand.tmp 112), type := 3, pos := "laws.go:489", after := #[{ on := 32, ground := Ground.data }, { on := 29, ground := Ground.guard }], guard := some (29, true) }) (v := .int .i64 b) rfl (by kernel_rfl) (by kernel_rfl) (by kernel_rfl) (fun _ _ _ h => h) (by rfl) (fun w hSw => by (try dsimp only at hSw); go_simp) (by assumption) ?_
              try simp only [Act.put, List.setIfInBounds_toArray, List.set_cons_zero, List.set_cons_succ]
              refine take_yes (i := 34) (oi := { dst := some 114, op := Op.fieldAddr 33 (Operand.tmp 5) 0, type := 0, pos := "laws.go:489", after := #[{ on := 29, ground := Ground.guard }], guard := some (29, true) }) (v := .pointer (some ⟨g5, 0, none⟩)) rfl (by kernel_rfl) (by kernel_rfl) (by kernel_rfl) (fun _ _ _ h => h) (by rfl) (fun w hSw => by (try dsimp only at hSw); go_simp) (by assumption) ?_
              try simp only [Act.put, List.setIfInBounds_toArray, List.set_cons_zero, List.set_cons_succ]
              refine take_yes (i := 35) (oi := { dst := some 115, op := Op.load 9 (Operand.tmp 114), type := 9, pos := "laws.go:489", after := #[{ on := 34, ground := Ground.data }, { on := 29, ground := Ground.guard }], guard := some (29, true) }) (v := .string u) rfl (by kernel_rfl) (by kernel_rfl) (by kernel_rfl) (fun _ _ _ h => h) (by rfl) (fun w hSw => by (try dsimp only at hSw); go_simp) (by assumption) ?_
              try simp only [Act.put, List.setIfInBounds_toArray, List.set_cons_zero, List.set_cons_succ]
              refine take_yes (i := 36) (oi := { dst := some 116, op := Op.call { callee := Callee.builtin Builtin.len, args := #[Operand.tmp 115], argTypes := #[9] }, type := 3, pos := "laws.go:489", after := #[{ on := 35, ground := Ground.data }, { on := 29, ground := Ground.guard }], guard := some (29, true) }) (v := .int .i64 (u.size : Int)) rfl (by kernel_rfl) (by kernel_rfl) (by kernel_rfl) (fun _ _ _ h => h) (by rfl) (fun w hSw => by (try dsimp only at hSw); go_simp) (by assumption) ?_
              try simp only [Act.put, List.setIfInBounds_toArray, List.set_cons_zero, List.set_cons_succ]
              refine take_yes (i := 37) (oi := { dst := some 117, op := Op.binOp BinOp.add 3 (Operand.tmp 113) (Operand.tmp 116) 3, type := 3, pos := "laws.go:489", after := #[{ on := 33, ground := Ground.data }, { on := 36, ground := Ground.data }, { on := 29, ground := Ground.guard }], guard := some (29, true) }) (v := .int .i64 en) rfl (by kernel_rfl) (by kernel_rfl) (by kernel_rfl) (fun _ _ _ h => h) (by rfl) (fun w hSw => by (try dsimp only at hSw); go_simp) (by assumption) ?_
              try simp only [Act.put, List.setIfInBounds_toArray, List.set_cons_zero, List.set_cons_succ]
              refine take_yes (i := 38) (oi := { dst := some 118, op := Op.binOp BinOp.eql 3 (Operand.tmp 111) (Operand.tmp 117) 3, type := 4, pos := "laws.go:489", after := #[{ on := 31, ground := Ground.data }, { on := 37, ground := Ground.data }, { on := 29, ground := Ground.guard }], guard := some (29, true) }) (v := .bool true) rfl (by kernel_rfl) (by kernel_rfl) (by kernel_rfl) (fun _ _ _ h => h) (by rfl) (fun w hSw => by (try dsimp only at hSw); go_simp) (by assumption) ?_
              try simp only [Act.put, List.setIfInBounds_toArray, List.set_cons_zero, List.set_cons_succ]
              refine take_yes (i := 39) (oi := { dst := some 119, op := Op.pick (Operand.tmp 109) (Operand.tmp 118) (Operand.const (Value.bool false)), type := 4, pos := "laws.go:489", after := #[{ on := 29, ground := Ground.data }, { on := 38, ground := Ground.data }], guard := none }) (v := .bool true) rfl (by kernel_rfl) (by kernel_rfl) (by kernel_rfl) (fun _ _ _ h => h) (by rfl) (fun w hSw => by (try dsimp only at hSw); go_simp) (by assumption) ?_
              try simp only [Act.put, List.setIfInBounds_toArray, List.set_cons_zero, List.set_cons_succ]
              refine take_yes (i := 40) (oi := { dst := some 120, op := Op.move (Operand.tmp 119), type := 4, pos := "laws.go:489", after := #[{ on := 39, ground := Ground.data }, { on := 29, ground := Ground.chain }], guard := none }) (v := .bool true) rfl (by kernel_rfl) (by kernel_rfl) (by kernel_rfl) (fun _ _ _ h => h) (by rfl) (fun w hSw => by (try dsimp only at hSw); go_simp) (by assumption) ?_
              try simp only [Act.put, List.setIfInBounds_toArray, List.set_cons_zero, List.set_cons_succ]
              refine take_yes (i := 41) (oi := { dst := some 121, op := Op.fieldAddr 33 (Operand.tmp 5) 0, type := 0, pos := "laws.go:489", after := #[{ on := 40, ground := Ground.guard }], guard := some (40, true) }) (v := .pointer (some ⟨g5, 0, none⟩)) rfl (by kernel_rfl) (by kernel_rfl) (by kernel_rfl) (fun _ _ _ h => h) (by rfl) (fun w hSw => by (try dsimp only at hSw); go_simp) (by assumption) ?_
              try simp only [Act.put, List.setIfInBounds_toArray, List.set_cons_zero, List.set_cons_succ]
              refine take_yes (i := 42) (oi := { dst := some 122, op := Op.load 9 (Operand.tmp 121), type := 9, pos := "laws.go:489", after := #[{ on := 41, ground := Ground.data }, { on := 40, ground := Ground.guard }], guard := some (40, true) }) (v := .string u) rfl (by kernel_rfl) (by kernel_rfl) (by kernel_rfl) (fun _ _ _ h => h) (by rfl) (fun w hSw => by (try dsimp only at hSw); go_simp) (by assumption) ?_
              try simp only [Act.put, List.setIfInBounds_toArray, List.set_cons_zero, List.set_cons_succ]
              refine take_yes (i := 43) (oi := { dst := some 123, op := Op.call { callee := Callee.builtin Builtin.len, args := #[Operand.tmp 122], argTypes := #[9] }, type := 3, pos := "laws.go:489", after := #[{ on := 42, ground := Ground.data }, { on := 40, ground := Ground.guard }], guard := some (40, true) }) (v := .int .i64 (u.size : Int)) rfl (by kernel_rfl) (by kernel_rfl) (by kernel_rfl) (fun _ _ _ h => h) (by rfl) (fun w hSw => by (try dsimp only at hSw); go_simp) (by assumption) ?_
              try simp only [Act.put, List.setIfInBounds_toArray, List.set_cons_zero, List.set_cons_succ]
              refine take_yes (i := 44) (oi := { dst := some 124, op := Op.binOp BinOp.eql 3 (Operand.tmp 123) (Operand.const (Value.int IntKind.i64 0)) 3, type := 4, pos := "laws.go:489", after := #[{ on := 43, ground := Ground.data }, { on := 40, ground := Ground.guard }], guard := some (40, true) }) (v := .bool true) rfl (by kernel_rfl) (by kernel_rfl) (by kernel_rfl) (fun _ _ _ h => h) (by rfl) (fun w hSw => by (try dsimp only at hSw); go_simp) (by assumption) ?_
              try simp only [Act.put, List.setIfInBounds_toArray, List.set_cons_zero, List.set_cons_succ]
              refine take_yes (i := 45) (oi := { dst := some 125, op := Op.move (Operand.tmp 124), type := 4, pos := "laws.go:489", after := #[{ on := 44, ground := Ground.data }, { on := 40, ground := Ground.chain }, { on := 40, ground := Ground.guard }], guard := some (40, true) }) (v := .bool true) rfl (by kernel_rfl) (by kernel_rfl) (by kernel_rfl) (fun _ _ _ h => h) (by rfl) (fun w hSw => by (try dsimp only at hSw); go_simp) (by assumption) ?_
              try simp only [Act.put, List.setIfInBounds_toArray, List.set_cons_zero, List.set_cons_succ]
              refine take_no (i := 46) (oi := { dst := some 126, op := Op.fieldAddr 33 (Operand.tmp 12) 0, type := 0, pos := "laws.go:489", after := #[{ on := 45, ground := Ground.guard }], guard := some (45, false) }) rfl (by kernel_rfl) (by kernel_rfl) (by kernel_rfl) (fun _ _ _ h => h) (by rfl) (by assumption) ?_
              try simp only [Act.put, List.setIfInBounds_toArray, List.set_cons_zero, List.set_cons_succ]
              refine take_no (i := 47) (oi := { dst := some 127, op := Op.load 9 (Operand.tmp 126), type := 9, pos := "laws.go:489", after := #[{ on := 46, ground := Ground.data }, { on := 45, ground := Ground.guard }], guard := some (45, false) }) rfl (by kernel_rfl) (by kernel_rfl) (by kernel_rfl) (fun _ _ _ h => h) (by rfl) (by assumption) ?_
              try simp only [Act.put, List.setIfInBounds_toArray, List.set_cons_zero, List.set_cons_succ]
              refine take_no (i := 48) (oi := { dst := some 128, op := Op.binOp BinOp.eql 9 (Operand.tmp 127) (Operand.const (Value.string { data := #[] })) 9, type := 4, pos := "laws.go:489", after := #[{ on := 47, ground := Ground.data }, { on := 45, ground := Ground.guard }], guard := some (45, false) }) rfl (by kernel_rfl) (by kernel_rfl) (by kernel_rfl) (fun _ _ _ h => h) (by rfl) (by assumption) ?_
              try simp only [Act.put, List.setIfInBounds_toArray, List.set_cons_zero, List.set_cons_succ]
              refine take_no (i := 49) (oi := { dst := some 129, op := Op.move (Operand.tmp 128), type := 4, pos := "laws.go:489", after := #[{ on := 48, ground := Ground.data }, { on := 45, ground := Ground.chain }, { on := 45, ground := Ground.guard }], guard := some (45, false) }) rfl (by kernel_rfl) (by kernel_rfl) (by kernel_rfl) (fun _ _ _ h => h) (by rfl) (by assumption) ?_
              try simp only [Act.put, List.setIfInBounds_toArray, List.set_cons_zero, List.set_cons_succ]
              refine take_no (i := 50) (oi := { dst := some 130, op := Op.fieldAddr 33 (Operand.tmp 12) 1, type := 0, pos := "laws.go:489", after := #[{ on := 49, ground := Ground.guard }], guard := some (49, true) }) rfl (by kernel_rfl) (by kernel_rfl) (by kernel_rfl) (fun _ _ _ h => h) (by rfl) (by assumption) ?_
              try simp only [Act.put, List.setIfInBounds_toArray, List.set_cons_zero, List.set_cons_succ]
              refine take_no (i := 51) (oi := { dst := some 131, op := Op.load 3 (Operand.tmp 130), type := 3, pos := "laws.go:489", after := #[{ on := 50, ground := Ground.data }, { on := 49, ground := Ground.guard }], guard := some (49, true) }) rfl (by kernel_rfl) (by kernel_rfl) (by kernel_rfl) (fun _ _ _ h => h) (by rfl) (by assumption) ?_
              try simp only [Act.put, List.setIfInBounds_toArray, List.set_cons_zero, List.set_cons_succ]
              refine take_no (i := 52) (oi := { dst := some 132, op := Op.fieldAddr 33 (Operand.tmp 8) 2, type := 0, pos := "laws.go:489", after := #[{ on := 49, ground := Ground.guard }], guard := some (49, true) }) rfl (by kernel_rfl) (by kernel_rfl) (by kernel_rfl) (fun _ _ _ h => h) (by rfl) (by assumption) ?_
              try simp only [Act.put, List.setIfInBounds_toArray, List.set_cons_zero, List.set_cons_succ]
              refine take_no (i := 53) (oi := { dst := some 133, op := Op.load 3 (Operand.tmp 132), type := 3, pos := "laws.go:489", after := #[{ on := 52, ground := Ground.data }, { on := 49, ground := Ground.guard }], guard := some (49, true) }) rfl (by kernel_rfl) (by kernel_rfl) (by kernel_rfl) (fun _ _ _ h => h) (by rfl) (by assumption) ?_
              try simp only [Act.put, List.setIfInBounds_toArray, List.set_cons_zero, List.set_cons_succ]
              refine take_no (i := 54) (oi := { dst := some 134, op := Op.binOp BinOp.eql 3 (Operand.tmp 131) (Operand.tmp 133) 3, type := 4, pos := "laws.go:489", after := #[{ on := 51, ground := Ground.data }, { on := 53, ground := Ground.data }, { on := 49, ground := Ground.guard }], guard := some (49, true) }) rfl (by kernel_rfl) (by kernel_rfl) (by kernel_rfl) (fun _ _ _ h => h) (by rfl) (by assumption) ?_
              try simp only [Act.put, List.setIfInBounds_toArray, List.set_cons_zero, List.set_cons_succ]
              refine take_no (i := 55) (oi := { dst := some 135, op := Op.pick (Operand.tmp 129) (Operand.tmp 134) (Operand.const (Value.bool false)), type := 4, pos := "laws.go:489", after := #[{ on := 49, ground := Ground.data }, { on := 54, ground := Ground.data }, { on := 45, ground := Ground.guard }], guard := some (45, false) }) rfl (by kernel_rfl) (by kernel_rfl) (by kernel_rfl) (fun _ _ _ h => h) (by rfl) (by assumption) ?_
              try simp only [Act.put, List.setIfInBounds_toArray, List.set_cons_zero, List.set_cons_succ]
              refine take_yes (i := 56) (oi := { dst := some 136, op := Op.pick (Operand.tmp 125) (Operand.const (Value.bool true)) (Operand.tmp 135), type := 4, pos := "laws.go:489", after := #[{ on := 45, ground := Ground.data }, { on := 55, ground := Ground.data }, { on := 40, ground := Ground.guard }], guard := some (40, true) }) (v := .bool true) rfl (by kernel_rfl) (by kernel_rfl) (by kernel_rfl) (fun _ _ _ h => h) (by rfl) (fun w hSw => by (try dsimp only at hSw); go_simp) (by assumption) ?_
              try simp only [Act.put, List.setIfInBounds_toArray, List.set_cons_zero, List.set_cons_succ]
              refine take_yes (i := 57) (oi := { dst := some 137, op := Op.pick (Operand.tmp 120) (Operand.tmp 136) (Operand.const (Value.bool false)), type := 4, pos := "laws.go:489", after := #[{ on := 40, ground := Ground.data }, { on := 56, ground := Ground.data }], guard := none }) (v := .bool true) rfl (by kernel_rfl) (by kernel_rfl) (by kernel_rfl) (fun _ _ _ h => h) (by rfl) (fun w hSw => by (try dsimp only at hSw); go_simp) (by assumption) ?_
              try simp only [Act.put, List.setIfInBounds_toArray, List.set_cons_zero, List.set_cons_succ]
              refine take_yes (i := 58) (oi := { dst := some 138, op := Op.move (Operand.tmp 137), type := 4, pos := "laws.go:489", after := #[{ on := 57, ground := Ground.data }, { on := 49, ground := Ground.chain }], guard := none }) (v := .bool true) rfl (by kernel_rfl) (by kernel_rfl) (by kernel_rfl) (fun _ _ _ h => h) (by rfl) (fun w hSw => by (try dsimp only at hSw); go_simp) (by assumption) ?_
              try simp only [Act.put, List.setIfInBounds_toArray, List.set_cons_zero, List.set_cons_succ]
              refine take_yes (i := 59) (oi := { dst := some 139, op := Op.load 33 (Operand.tmp 12), type := 33, pos := "laws.go:489", after := #[{ on := 58, ground := Ground.guard }], guard := some (58, true) }) (v := .agg #[.string ct, .int .i64 cb, .int .i64 cs, .int .i64 cr]) rfl (by kernel_rfl) (by kernel_rfl) (by kernel_rfl) (fun _ _ _ h => h) (by rfl) (fun w hSw => by (try dsimp only at hSw); go_simp) (by assumption) ?_
              try simp only [Act.put, List.setIfInBounds_toArray, List.set_cons_zero, List.set_cons_succ]
              refine wpAnyH_ready (rs := [60]) (by kernel_rfl) (by simp) ?_
              refine AllReadyH.cons (o := { dst := some 140, op := Op.call { callee := Callee.value (Operand.func 25), args := #[Operand.tmp 139], argTypes := #[33] }, type := 4, pos := "laws.go:489", after := #[{ on := 59, ground := Ground.data }, { on := 58, ground := Ground.chain }, { on := 58, ground := Ground.guard }], guard := some (58, true) }) rfl (fun K hK => ?_) AllReadyH.nil
              go_simp
              with_reducible refine (cO _).mono ?_
              rintro e wZ ⟨rfl, hbZ⟩
              have KZ := Lib.hid (KE.out.1.kept hbZ)
              have e1 := KZ.out.cells12 (KE.out.2.kept hbZ)
              clear hbZ KE cO
              refine hK.out _ _ e1 (fun hHeldN => ?_)
              clear hK K hHeld
              have hHeld := hHeldN
              clear hHeldN
              try simp only [Act.put, List.setIfInBounds_toArray, List.set_cons_zero, List.set_cons_succ]
              refine take_yes (i := 61) (oi := { dst := some 141, op := Op.pick (Operand.tmp 138) (Operand.tmp 140) (Operand.const (Value.bool false)), type := 4, pos := "laws.go:489", after := #[{ on := 58, ground := Ground.data }, { on := 60, ground := Ground.data }], guard := none }) (v := .bool true) rfl (by kernel_rfl) (by kernel_rfl) (by kernel_rfl) (fun _ _ _ h => h) (by rfl) (fun w hSw => by (try dsimp only at hSw); go_simp) (by assumption) ?_
              try simp only [Act.put, List.setIfInBounds_toArray, List.set_cons_zero, List.set_cons_succ]
              refine take_yes (i := 62) (oi := { dst := some 2, op := Op.assign (Operand.tmp 141), type := 4, pos := "laws.go:489", after := #[{ on := 61, ground := Ground.data }, { on := 60, ground := Ground.chain }, { on := 0, ground := Ground.phase }, { on := 1, ground := Ground.phase }, { on := 2, ground := Ground.phase }, { on := 3, ground := Ground.phase }, { on := 4, ground := Ground.phase }, { on := 5, ground := Ground.phase }, { on := 6, ground := Ground.phase }, { on := 7, ground := Ground.phase }, { on := 8, ground := Ground.phase }, { on := 9, ground := Ground.phase }, { on := 10, ground := Ground.phase }, { on := 11, ground := Ground.phase }, { on := 12, ground := Ground.phase }, { on := 13, ground := Ground.phase }, { on := 14, ground := Ground.phase }, { on := 15, ground := Ground.phase }, { on := 16, ground := Ground.phase }, { on := 17, ground := Ground.phase }, { on := 18, ground := Ground.phase }, { on := 19, ground := Ground.phase }, { on := 20, ground := Ground.phase }, { on := 21, ground := Ground.phase }, { on := 22, ground := Ground.phase }, { on := 23, ground := Ground.phase }, { on := 24, ground := Ground.phase }, { on := 25, ground := Ground.phase }, { on := 26, ground := Ground.phase }, { on := 27, ground := Ground.phase }, { on := 28, ground := Ground.phase }, { on := 29, ground := Ground.phase }, { on := 30, ground := Ground.phase }, { on := 31, ground := Ground.phase }, { on := 32, ground := Ground.phase }, { on := 33, ground := Ground.phase }, { on := 34, ground := Ground.phase }, { on := 35, ground := Ground.phase }, { on := 36, ground := Ground.phase }, { on := 37, ground := Ground.phase }, { on := 38, ground := Ground.phase }, { on := 39, ground := Ground.phase }, { on := 40, ground := Ground.phase }, { on := 41, ground := Ground.phase }, { on := 42, ground := Ground.phase }, { on := 43, ground := Ground.phase }, { on := 44, ground := Ground.phase }, { on := 45, ground := Ground.phase }, { on := 46, ground := Ground.phase }, { on := 47, ground := Ground.phase }, { on := 48, ground := Ground.phase }, { on := 49, ground := Ground.phase }, { on := 50, ground := Ground.phase }, { on := 51, ground := Ground.phase }, { on := 52, ground := Ground.phase }, { on := 53, ground := Ground.phase }, { on := 54, ground := Ground.phase }, { on := 55, ground := Ground.phase }, { on := 56, ground := Ground.phase }, { on := 57, ground := Ground.phase }, { on := 58, ground := Ground.phase }, { on := 59, ground := Ground.phase }, { on := 60, ground := Ground.phase }, { on := 61, ground := Ground.phase }], guard := none }) (v := .bool true) rfl (by kernel_rfl) (by kernel_rfl) (by kernel_rfl) (fun _ _ _ h => h) (by rfl) (fun w hSw => by (try dsimp only at hSw); go_simp) (by assumption) ?_
              try simp only [Act.put, List.setIfInBounds_toArray, List.set_cons_zero, List.set_cons_succ]
              refine wpAnyH_done (by kernel_rfl) ?_ _
              clear hHeld
              clear e0 e1
              go_wp2_with (fail)
              go_ret
              exact ⟨rfl, KZ.out.bl⟩
            · have x2 : ((u.size : Int) == 0) = false := by simpa using hz
              obtain ⟨rfl, rfl⟩ := ok2 hz
              clear hz
              clear hx1
              refine wp_region_held_drew (S := fun W => W.cell? ⟨g3, 0, none⟩ = some (.string t) ∧ W.cell? ⟨g3, 3, none⟩ = some (.int .i64 r) ∧ W.cell? ⟨g5, 0, none⟩ = some (.string u) ∧ W.cell? ⟨g5, 1, none⟩ = some (.int .i64 b) ∧ W.cell? ⟨g8, 2, none⟩ = some (.int .i64 cb) ∧ W.cell? ⟨g12, 0, none⟩ = some (.string ⟨#[]⟩) ∧ W.cell? ⟨g12, 1, none⟩ = some (.int .i64 cb) ∧ W.cell? ⟨g12, 2, none⟩ = some (.int .i64 cs) ∧ W.cell? ⟨g12, 3, none⟩ = some (.int .i64 cr)) (by kernel_rfl) e0 (fun hHeld => ?_)
              refine take_yes (i := 0) (oi := { dst := some 80, op := Op.fieldAddr 33 (Operand.tmp 5) 0, type := 0, pos := "laws.go:489", after := #[], guard := none }) (v := .pointer (some ⟨g5, 0, none⟩)) rfl (by kernel_rfl) (by kernel_rfl) (by kernel_rfl) (fun _ _ _ h => h) (by rfl) (fun w hSw => by (try dsimp only at hSw); go_simp) (by assumption) ?_
              try simp only [Act.put, List.setIfInBounds_toArray, List.set_cons_zero, List.set_cons_succ]
              refine take_yes (i := 1) (oi := { dst := some 81, op := Op.load 9 (Operand.tmp 80), type := 9, pos := "laws.go:489", after := #[{ on := 0, ground := Ground.data }], guard := none }) (v := .string u) rfl (by kernel_rfl) (by kernel_rfl) (by kernel_rfl) (fun _ _ _ h => h) (by rfl) (fun w hSw => by (try dsimp only at hSw); go_simp) (by assumption) ?_
              try simp only [Act.put, List.setIfInBounds_toArray, List.set_cons_zero, List.set_cons_succ]
              refine take_yes (i := 2) (oi := { dst := some 82, op := Op.fieldAddr 33 (Operand.tmp 3) 0, type := 0, pos := "laws.go:489", after := #[], guard := none }) (v := .pointer (some ⟨g3, 0, none⟩)) rfl (by kernel_rfl) (by kernel_rfl) (by kernel_rfl) (fun _ _ _ h => h) (by rfl) (fun w hSw => by (try dsimp only at hSw); go_simp) (by assumption) ?_
              try simp only [Act.put, List.setIfInBounds_toArray, List.set_cons_zero, List.set_cons_succ]
              refine take_yes (i := 3) (oi := { dst := some 83, op := Op.load 9 (Operand.tmp 82), type := 9, pos := "laws.go:489", after := #[{ on := 2, ground := Ground.data }], guard := none }) (v := .string t) rfl (by kernel_rfl) (by kernel_rfl) (by kernel_rfl) (fun _ _ _ h => h) (by rfl) (fun w hSw => by (try dsimp only at hSw); go_simp) (by assumption) ?_
              try simp only [Act.put, List.setIfInBounds_toArray, List.set_cons_zero, List.set_cons_succ]
              refine take_yes (i := 4) (oi := { dst := some 84, op := Op.move (Operand.tmp 4), type := 9, pos := "laws.go:489", after := #[], guard := none }) (v := .string x) rfl (by kernel_rfl) (by kernel_rfl) (by kernel_rfl) (fun _ _ _ h => h) (by rfl) (fun w hSw => by (try dsimp only at hSw); go_simp) (by assumption) ?_
              try simp only [Act.put, List.setIfInBounds_toArray, List.set_cons_zero, List.set_cons_succ]
              refine take_yes (i := 5) (oi := { dst := some 85, op := Op.move (Operand.tmp 6), type := 3, pos := "laws.go:489", after := #[], guard := none }) (v := .int .i64 nn) rfl (by kernel_rfl) (by kernel_rfl) (by kernel_rfl) (fun _ _ _ h => h) (by rfl) (fun w hSw => by (try dsimp only at hSw); go_simp) (by assumption) ?_
              try simp only [Act.put, List.setIfInBounds_toArray, List.set_cons_zero, List.set_cons_succ]
              refine take_yes (i := 6) (oi := { dst := some 86, op := Op.slice 9 (Operand.tmp 84) none (some (Operand.tmp 85)) none, type := 9, pos := "laws.go:489", after := #[{ on := 4, ground := Ground.data }, { on := 5, ground := Ground.data }], guard := none }) (v := .string y) rfl (by kernel_rfl) (by kernel_rfl) (by kernel_rfl) (fun _ _ _ h => h) (by rfl) (fun w hSw => by (try dsimp only at hSw); go_simp) (by assumption) ?_
              try simp only [Act.put, List.setIfInBounds_toArray, List.set_cons_zero, List.set_cons_succ]
              refine take_yes (i := 7) (oi := { dst := some 87, op := Op.binOp BinOp.add 9 (Operand.tmp 83) (Operand.tmp 86) 9, type := 9, pos := "laws.go:489", after := #[{ on := 3, ground := Ground.data }, { on := 6, ground := Ground.data }], guard := none }) (v := .string u) rfl (by kernel_rfl) (by kernel_rfl) (by kernel_rfl) (fun _ _ _ h => h) (by rfl) (fun w hSw => by (try dsimp only at hSw); go_simp) (by assumption) ?_
              try simp only [Act.put, List.setIfInBounds_toArray, List.set_cons_zero, List.set_cons_succ]
              refine take_yes (i := 8) (oi := { dst := some 88, op := Op.binOp BinOp.eql 9 (Operand.tmp 81) (Operand.tmp 87) 9, type := 4, pos := "laws.go:489", after := #[{ on := 1, ground := Ground.data }, { on := 7, ground := Ground.data }], guard := none }) (v := .bool true) rfl (by kernel_rfl) (by kernel_rfl) (by kernel_rfl) (fun _ _ _ h => h) (by rfl) (fun w hSw => by (try dsimp only at hSw); go_simp) (by assumption) ?_
              try simp only [Act.put, List.setIfInBounds_toArray, List.set_cons_zero, List.set_cons_succ]
              refine take_yes (i := 9) (oi := { dst := some 89, op := Op.move (Operand.tmp 88), type := 4, pos := "laws.go:489", after := #[{ on := 8, ground := Ground.data }], guard := none }) (v := .bool true) rfl (by kernel_rfl) (by kernel_rfl) (by kernel_rfl) (fun _ _ _ h => h) (by rfl) (fun w hSw => by (try dsimp only at hSw); go_simp) (by assumption) ?_
              try simp only [Act.put, List.setIfInBounds_toArray, List.set_cons_zero, List.set_cons_succ]
              refine take_yes (i := 10) (oi := { dst := some 90, op := Op.move (Operand.tmp 6), type := 3, pos := "laws.go:489", after := #[{ on := 9, ground := Ground.guard }], guard := some (9, true) }) (v := .int .i64 nn) rfl (by kernel_rfl) (by kernel_rfl) (by kernel_rfl) (fun _ _ _ h => h) (by rfl) (fun w hSw => by (try dsimp only at hSw); go_simp) (by assumption) ?_
              try simp only [Act.put, List.setIfInBounds_toArray, List.set_cons_zero, List.set_cons_succ]
              refine take_yes (i := 11) (oi := { dst := some 91, op := Op.move (Operand.tmp 4), type := 9, pos := "laws.go:489", after := #[{ on := 9, ground := Ground.guard }], guard := some (9, true) }) (v := .string x) rfl (by kernel_rfl) (by kernel_rfl) (by kernel_rfl) (fun _ _ _ h => h) (by rfl) (fun w hSw => by (try dsimp only at hSw); go_simp) (by assumption) ?_
              try simp only [Act.put, List.setIfInBounds_toArray, List.set_cons_zero, List.set_cons_succ]
              refine take_yes (i := 12) (oi := { dst := some 92, op := Op.call { callee := Callee.builtin Builtin.len, args := #[Operand.tmp 91], argTypes := #[9] }, type := 3, pos := "laws.go:489", after := #[{ on := 11, ground := Ground.data }, { on := 9, ground := Ground.guard }], guard := some (9, true) }) (v := .int .i64 (x.size : Int)) rfl (by kernel_rfl) (by kernel_rfl) (by kernel_rfl) (fun _ _ _ h => h) (by rfl) (fun w hSw => by (try dsimp only at hSw); go_simp) (by assumption) ?_
              try simp only [Act.put, List.setIfInBounds_toArray, List.set_cons_zero, List.set_cons_succ]
              refine take_yes (i := 13) (oi := { dst := some 93, op := Op.binOp BinOp.eql 3 (Operand.tmp 90) (Operand.tmp 92) 3, type := 4, pos := "laws.go:489", after := #[{ on := 10, ground := Ground.data }, { on := 12, ground := Ground.data }, { on := 9, ground := Ground.guard }], guard := some (9, true) }) (v := .bool true) rfl (by kernel_rfl) (by kernel_rfl) (by kernel_rfl) (fun _ _ _ h => h) (by rfl) (fun w hSw => by (try dsimp only at hSw); go_simp) (by assumption) ?_
              try simp only [Act.put, List.setIfInBounds_toArray, List.set_cons_zero, List.set_cons_succ]
              refine take_yes (i := 14) (oi := { dst := some 94, op := Op.move (Operand.tmp 93), type := 4, pos := "laws.go:489", after := #[{ on := 13, ground := Ground.data }, { on := 9, ground := Ground.chain }, { on := 9, ground := Ground.guard }], guard := some (9, true) }) (v := .bool true) rfl (by kernel_rfl) (by kernel_rfl) (by kernel_rfl) (fun _ _ _ h => h) (by rfl) (fun w hSw => by (try dsimp only at hSw); go_simp) (by assumption) ?_
              try simp only [Act.put, List.setIfInBounds_toArray, List.set_cons_zero, List.set_cons_succ]
              refine take_no (i := 15) (oi := { dst := some 95, op := Op.fieldAddr 33 (Operand.tmp 5) 0, type := 0, pos := "laws.go:489", after := #[{ on := 14, ground := Ground.guard }], guard := some (14, false) }) rfl (by kernel_rfl) (by kernel_rfl) (by kernel_rfl) (fun _ _ _ h => h) (by rfl) (by assumption) ?_
              try simp only [Act.put, List.setIfInBounds_toArray, List.set_cons_zero, List.set_cons_succ]
              refine take_no (i := 16) (oi := { dst := some 96, op := Op.load 9 (Operand.tmp 95), type := 9, pos := "laws.go:489", after := #[{ on := 15, ground := Ground.data }, { on := 14, ground := Ground.guard }], guard := some (14, false) }) rfl (by kernel_rfl) (by kernel_rfl) (by kernel_rfl) (fun _ _ _ h => h) (by rfl) (by assumption) ?_
              try simp only [Act.put, List.setIfInBounds_toArray, List.set_cons_zero, List.set_cons_succ]
              refine take_no (i := 17) (oi := { dst := some 97, op := Op.call { callee := Callee.builtin Builtin.len, args := #[Operand.tmp 96], argTypes := #[9] }, type := 3, pos := "laws.go:489", after := #[{ on := 16, ground := Ground.data }, { on := 14, ground := Ground.guard }], guard := some (14, false) }) rfl (by kernel_rfl) (by kernel_rfl) (by kernel_rfl) (fun _ _ _ h => h) (by rfl) (by assumption) ?_
              try simp only [Act.put, List.setIfInBounds_toArray, List.set_cons_zero, List.set_cons_succ]
              refine take_no (i := 18) (oi := { dst := some 98, op := Op.fieldAddr 33 (Operand.tmp 3) 3, type := 0, pos := "laws.go:489", after := #[{ on := 14, ground := Ground.guard }], guard := some (14, false) }) rfl (by kernel_rfl) (by kernel_rfl) (by kernel_rfl) (fun _ _ _ h => h) (by rfl) (by assumption) ?_
              try simp only [Act.put, List.setIfInBounds_toArray, List.set_cons_zero, List.set_cons_succ]
              refine take_no (i := 19) (oi := { dst := some 99, op := Op.load 3 (Operand.tmp 98), type := 3, pos := "laws.go:489", after := #[{ on := 18, ground := Ground.data }, { on := 14, ground := Ground.guard }], guard := some (14, false) }) rfl (by kernel_rfl) (by kernel_rfl) (by kernel_rfl) (fun _ _ _ h => h) (by rfl) (by assumption) ?_
              try simp only [Act.put, List.setIfInBounds_toArray, List.set_cons_zero, List.set_cons_succ]
              refine take_no (i := 20) (oi := { dst := some 100, op := Op.binOp BinOp.eql 3 (Operand.tmp 97) (Operand.tmp 99) 3, type := 4, pos := "laws.go:489", after := #[{ on := 17, ground := Ground.data }, { on := 19, ground := Ground.data }, { on := 14, ground := Ground.guard }], guard := some (14, false) }) rfl (by kernel_rfl) (by kernel_rfl) (by kernel_rfl) (fun _ _ _ h => h) (by rfl) (by assumption) ?_
              try simp only [Act.put, List.setIfInBounds_toArray, List.set_cons_zero, List.set_cons_succ]
              refine take_yes (i := 21) (oi := { dst := some 101, op := Op.pick (Operand.tmp 94) (Operand.const (Value.bool true)) (Operand.tmp 100), type := 4, pos := "laws.go:489", after := #[{ on := 14, ground := Ground.data }, { on := 20, ground := Ground.data }, { on := 9, ground := Ground.guard }], guard := some (9, true) }) (v := .bool true) rfl (by kernel_rfl) (by kernel_rfl) (by kernel_rfl) (fun _ _ _ h => h) (by rfl) (fun w hSw => by (try dsimp only at hSw); go_simp) (by assumption) ?_
              try simp only [Act.put, List.setIfInBounds_toArray, List.set_cons_zero, List.set_cons_succ]
              refine take_yes (i := 22) (oi := { dst := some 102, op := Op.pick (Operand.tmp 89) (Operand.tmp 101) (Operand.const (Value.bool false)), type := 4, pos := "laws.go:489", after := #[{ on := 9, ground := Ground.data }, { on := 21, ground := Ground.data }], guard := none }) (v := .bool true) rfl (by kernel_rfl) (by kernel_rfl) (by kernel_rfl) (fun _ _ _ h => h) (by rfl) (fun w hSw => by (try dsimp only at hSw); go_simp) (by assumption) ?_
              try simp only [Act.put, List.setIfInBounds_toArray, List.set_cons_zero, List.set_cons_succ]
              refine take_yes (i := 23) (oi := { dst := some 103, op := Op.move (Operand.tmp 102), type := 4, pos := "laws.go:489", after := #[{ on := 22, ground := Ground.data }, { on := 14, ground := Ground.chain }], guard := none }) (v := .bool true) rfl (by kernel_rfl) (by kernel_rfl) (by kernel_rfl) (fun _ _ _ h => h) (by rfl) (fun w hSw => by (try dsimp only at hSw); go_simp) (by assumption) ?_
              try simp only [Act.put, List.setIfInBounds_toArray, List.set_cons_zero, List.set_cons_succ]
              refine take_yes (i := 24) (oi := { dst := some 104, op := Op.move (Operand.tmp 7), type := 9, pos := "laws.go:489", after := #[{ on := 23, ground := Ground.guard }], guard := some (23, true) }) (v := .string u) rfl (by kernel_rfl) (by kernel_rfl) (by kernel_rfl) (fun _ _ _ h => h) (by rfl) (fun w hSw => by (try dsimp only at hSw); go_simp) (by assumption) ?_
              try simp only [Act.put, List.setIfInBounds_toArray, List.set_cons_zero, List.set_cons_succ]
              refine take_yes (i := 25) (oi := { dst := some 105, op := Op.fieldAddr 33 (Operand.tmp 5) 0, type := 0, pos := "laws.go:489", after := #[{ on := 23, ground := Ground.guard }], guard := some (23, true) }) (v := .pointer (some ⟨g5, 0, none⟩)) rfl (by kernel_rfl) (by kernel_rfl) (by kernel_rfl) (fun _ _ _ h => h) (by rfl) (fun w hSw => by (try dsimp only at hSw); go_simp) (by assumption) ?_
              try simp only [Act.put, List.setIfInBounds_toArray, List.set_cons_zero, List.set_cons_succ]
              refine take_yes (i := 26) (oi := { dst := some 106, op := Op.load 9 (Operand.tmp 105), type := 9, pos := "laws.go:489", after := #[{ on := 25, ground := Ground.data }, { on := 23, ground := Ground.guard }], guard := some (23, true) }) (v := .string u) rfl (by kernel_rfl) (by kernel_rfl) (by kernel_rfl) (fun _ _ _ h => h) (by rfl) (fun w hSw => by (try dsimp only at hSw); go_simp) (by assumption) ?_
              try simp only [Act.put, List.setIfInBounds_toArray, List.set_cons_zero, List.set_cons_succ]
              refine take_yes (i := 27) (oi := { dst := some 107, op := Op.binOp BinOp.eql 9 (Operand.tmp 104) (Operand.tmp 106) 9, type := 4, pos := "laws.go:489", after := #[{ on := 24, ground := Ground.data }, { on := 26, ground := Ground.data }, { on := 23, ground := Ground.guard }], guard := some (23, true) }) (v := .bool true) rfl (by kernel_rfl) (by kernel_rfl) (by kernel_rfl) (fun _ _ _ h => h) (by rfl) (fun w hSw => by (try dsimp only at hSw); go_simp) (by assumption) ?_
              try simp only [Act.put, List.setIfInBounds_toArray, List.set_cons_zero, List.set_cons_succ]
              refine take_yes (i := 28) (oi := { dst := some 108, op := Op.pick (Operand.tmp 103) (Operand.tmp 107) (Operand.const (Value.bool false)), type := 4, pos := "laws.go:489", after := #[{ on := 23, ground := Ground.data }, { on := 27, ground := Ground.data }], guard := none }) (v := .bool true) rfl (by kernel_rfl) (by kernel_rfl) (by kernel_rfl) (fun _ _ _ h => h) (by rfl) (fun w hSw => by (try dsimp only at hSw); go_simp) (by assumption) ?_
              try simp only [Act.put, List.setIfInBounds_toArray, List.set_cons_zero, List.set_cons_succ]
              refine take_yes (i := 29) (oi := { dst := some 109, op := Op.move (Operand.tmp 108), type := 4, pos := "laws.go:489", after := #[{ on := 28, ground := Ground.data }, { on := 23, ground := Ground.chain }], guard := none }) (v := .bool true) rfl (by kernel_rfl) (by kernel_rfl) (by kernel_rfl) (fun _ _ _ h => h) (by rfl) (fun w hSw => by (try dsimp only at hSw); go_simp) (by assumption) ?_
              try simp only [Act.put, List.setIfInBounds_toArray, List.set_cons_zero, List.set_cons_succ]
              refine take_yes (i := 30) (oi := { dst := some 110, op := Op.fieldAddr 33 (Operand.tmp 8) 2, type := 0, pos := "laws.go:489", after := #[{ on := 29, ground := Ground.guard }], guard := some (29, true) }) (v := .pointer (some ⟨g8, 2, none⟩)) rfl (by kernel_rfl) (by kernel_rfl) (by kernel_rfl) (fun _ _ _ h => h) (by rfl) (fun w hSw => by (try dsimp only at hSw); go_simp) (by assumption) ?_
              try simp only [Act.put, List.setIfInBounds_toArray, List.set_cons_zero, List.set_cons_succ]
              refine take_yes (i := 31) (oi := { dst := some 111, op := Op.load 3 (Operand.tmp 110), type := 3, pos := "laws.go:489", after := #[{ on := 30, ground := Ground.data }, { on := 29, ground := Ground.guard }], guard := some (29, true) }) (v := .int .i64 cb) rfl (by kernel_rfl) (by kernel_rfl) (by kernel_rfl) (fun _ _ _ h => h) (by rfl) (fun w hSw => by (try dsimp only at hSw); go_simp) (by assumption) ?_
              try simp only [Act.put, List.setIfInBounds_toArray, List.set_cons_zero, List.set_cons_succ]
              refine take_yes (i := 32) (oi := { dst := some 112, op := Op.fieldAddr 33 (Operand.tmp 5) 1, type := 0, pos := "laws.go:489", after := #[{ on := 29, ground := Ground.guard }], guard := some (29, true) }) (v := .pointer (some ⟨g5, 1, none⟩)) rfl (by kernel_rfl) (by kernel_rfl) (by kernel_rfl) (fun _ _ _ h => h) (by rfl) (fun w hSw => by (try dsimp only at hSw); go_simp) (by assumption) ?_
              try simp only [Act.put, List.setIfInBounds_toArray, List.set_cons_zero, List.set_cons_succ]
              refine take_yes (i := 33) (oi := { dst := some 113, op := Op.load 3 (Operand.tmp 112), type := 3, pos := "laws.go:489", after := #[{ on := 32, ground := Ground.data }, { on := 29, ground := Ground.guard }], guard := some (29, true) }) (v := .int .i64 b) rfl (by kernel_rfl) (by kernel_rfl) (by kernel_rfl) (fun _ _ _ h => h) (by rfl) (fun w hSw => by (try dsimp only at hSw); go_simp) (by assumption) ?_
              try simp only [Act.put, List.setIfInBounds_toArray, List.set_cons_zero, List.set_cons_succ]
              refine take_yes (i := 34) (oi := { dst := some 114, op := Op.fieldAddr 33 (Operand.tmp 5) 0, type := 0, pos := "laws.go:489", after := #[{ on := 29, ground := Ground.guard }], guard := some (29, true) }) (v := .pointer (some ⟨g5, 0, none⟩)) rfl (by kernel_rfl) (by kernel_rfl) (by kernel_rfl) (fun _ _ _ h => h) (by rfl) (fun w hSw => by (try dsimp only at hSw); go_simp) (by assumption) ?_
              try simp only [Act.put, List.setIfInBounds_toArray, List.set_cons_zero, List.set_cons_succ]
              refine take_yes (i := 35) (oi := { dst := some 115, op := Op.load 9 (Operand.tmp 114), type := 9, pos := "laws.go:489", after := #[{ on := 34, ground := Ground.data }, { on := 29, ground := Ground.guard }], guard := some (29, true) }) (v := .string u) rfl (by kernel_rfl) (by kernel_rfl) (by kernel_rfl) (fun _ _ _ h => h) (by rfl) (fun w hSw => by (try dsimp only at hSw); go_simp) (by assumption) ?_
              try simp only [Act.put, List.setIfInBounds_toArray, List.set_cons_zero, List.set_cons_succ]
              refine take_yes (i := 36) (oi := { dst := some 116, op := Op.call { callee := Callee.builtin Builtin.len, args := #[Operand.tmp 115], argTypes := #[9] }, type := 3, pos := "laws.go:489", after := #[{ on := 35, ground := Ground.data }, { on := 29, ground := Ground.guard }], guard := some (29, true) }) (v := .int .i64 (u.size : Int)) rfl (by kernel_rfl) (by kernel_rfl) (by kernel_rfl) (fun _ _ _ h => h) (by rfl) (fun w hSw => by (try dsimp only at hSw); go_simp) (by assumption) ?_
              try simp only [Act.put, List.setIfInBounds_toArray, List.set_cons_zero, List.set_cons_succ]
              refine take_yes (i := 37) (oi := { dst := some 117, op := Op.binOp BinOp.add 3 (Operand.tmp 113) (Operand.tmp 116) 3, type := 3, pos := "laws.go:489", after := #[{ on := 33, ground := Ground.data }, { on := 36, ground := Ground.data }, { on := 29, ground := Ground.guard }], guard := some (29, true) }) (v := .int .i64 cb) rfl (by kernel_rfl) (by kernel_rfl) (by kernel_rfl) (fun _ _ _ h => h) (by rfl) (fun w hSw => by (try dsimp only at hSw); go_simp) (by assumption) ?_
              try simp only [Act.put, List.setIfInBounds_toArray, List.set_cons_zero, List.set_cons_succ]
              refine take_yes (i := 38) (oi := { dst := some 118, op := Op.binOp BinOp.eql 3 (Operand.tmp 111) (Operand.tmp 117) 3, type := 4, pos := "laws.go:489", after := #[{ on := 31, ground := Ground.data }, { on := 37, ground := Ground.data }, { on := 29, ground := Ground.guard }], guard := some (29, true) }) (v := .bool true) rfl (by kernel_rfl) (by kernel_rfl) (by kernel_rfl) (fun _ _ _ h => h) (by rfl) (fun w hSw => by (try dsimp only at hSw); go_simp) (by assumption) ?_
              try simp only [Act.put, List.setIfInBounds_toArray, List.set_cons_zero, List.set_cons_succ]
              refine take_yes (i := 39) (oi := { dst := some 119, op := Op.pick (Operand.tmp 109) (Operand.tmp 118) (Operand.const (Value.bool false)), type := 4, pos := "laws.go:489", after := #[{ on := 29, ground := Ground.data }, { on := 38, ground := Ground.data }], guard := none }) (v := .bool true) rfl (by kernel_rfl) (by kernel_rfl) (by kernel_rfl) (fun _ _ _ h => h) (by rfl) (fun w hSw => by (try dsimp only at hSw); go_simp) (by assumption) ?_
              try simp only [Act.put, List.setIfInBounds_toArray, List.set_cons_zero, List.set_cons_succ]
              refine take_yes (i := 40) (oi := { dst := some 120, op := Op.move (Operand.tmp 119), type := 4, pos := "laws.go:489", after := #[{ on := 39, ground := Ground.data }, { on := 29, ground := Ground.chain }], guard := none }) (v := .bool true) rfl (by kernel_rfl) (by kernel_rfl) (by kernel_rfl) (fun _ _ _ h => h) (by rfl) (fun w hSw => by (try dsimp only at hSw); go_simp) (by assumption) ?_
              try simp only [Act.put, List.setIfInBounds_toArray, List.set_cons_zero, List.set_cons_succ]
              refine take_yes (i := 41) (oi := { dst := some 121, op := Op.fieldAddr 33 (Operand.tmp 5) 0, type := 0, pos := "laws.go:489", after := #[{ on := 40, ground := Ground.guard }], guard := some (40, true) }) (v := .pointer (some ⟨g5, 0, none⟩)) rfl (by kernel_rfl) (by kernel_rfl) (by kernel_rfl) (fun _ _ _ h => h) (by rfl) (fun w hSw => by (try dsimp only at hSw); go_simp) (by assumption) ?_
              try simp only [Act.put, List.setIfInBounds_toArray, List.set_cons_zero, List.set_cons_succ]
              refine take_yes (i := 42) (oi := { dst := some 122, op := Op.load 9 (Operand.tmp 121), type := 9, pos := "laws.go:489", after := #[{ on := 41, ground := Ground.data }, { on := 40, ground := Ground.guard }], guard := some (40, true) }) (v := .string u) rfl (by kernel_rfl) (by kernel_rfl) (by kernel_rfl) (fun _ _ _ h => h) (by rfl) (fun w hSw => by (try dsimp only at hSw); go_simp) (by assumption) ?_
              try simp only [Act.put, List.setIfInBounds_toArray, List.set_cons_zero, List.set_cons_succ]
              refine take_yes (i := 43) (oi := { dst := some 123, op := Op.call { callee := Callee.builtin Builtin.len, args := #[Operand.tmp 122], argTypes := #[9] }, type := 3, pos := "laws.go:489", after := #[{ on := 42, ground := Ground.data }, { on := 40, ground := Ground.guard }], guard := some (40, true) }) (v := .int .i64 (u.size : Int)) rfl (by kernel_rfl) (by kernel_rfl) (by kernel_rfl) (fun _ _ _ h => h) (by rfl) (fun w hSw => by (try dsimp only at hSw); go_simp) (by assumption) ?_
              try simp only [Act.put, List.setIfInBounds_toArray, List.set_cons_zero, List.set_cons_succ]
              refine take_yes (i := 44) (oi := { dst := some 124, op := Op.binOp BinOp.eql 3 (Operand.tmp 123) (Operand.const (Value.int IntKind.i64 0)) 3, type := 4, pos := "laws.go:489", after := #[{ on := 43, ground := Ground.data }, { on := 40, ground := Ground.guard }], guard := some (40, true) }) (v := .bool false) rfl (by kernel_rfl) (by kernel_rfl) (by kernel_rfl) (fun _ _ _ h => h) (by rfl) (fun w hSw => by (try dsimp only at hSw); go_simp) (by assumption) ?_
              try simp only [Act.put, List.setIfInBounds_toArray, List.set_cons_zero, List.set_cons_succ]
              refine take_yes (i := 45) (oi := { dst := some 125, op := Op.move (Operand.tmp 124), type := 4, pos := "laws.go:489", after := #[{ on := 44, ground := Ground.data }, { on := 40, ground := Ground.chain }, { on := 40, ground := Ground.guard }], guard := some (40, true) }) (v := .bool false) rfl (by kernel_rfl) (by kernel_rfl) (by kernel_rfl) (fun _ _ _ h => h) (by rfl) (fun w hSw => by (try dsimp only at hSw); go_simp) (by assumption) ?_
              try simp only [Act.put, List.setIfInBounds_toArray, List.set_cons_zero, List.set_cons_succ]
              refine take_yes (i := 46) (oi := { dst := some 126, op := Op.fieldAddr 33 (Operand.tmp 12) 0, type := 0, pos := "laws.go:489", after := #[{ on := 45, ground := Ground.guard }], guard := some (45, false) }) (v := .pointer (some ⟨g12, 0, none⟩)) rfl (by kernel_rfl) (by kernel_rfl) (by kernel_rfl) (fun _ _ _ h => h) (by rfl) (fun w hSw => by (try dsimp only at hSw); go_simp) (by assumption) ?_
              try simp only [Act.put, List.setIfInBounds_toArray, List.set_cons_zero, List.set_cons_succ]
              refine take_yes (i := 47) (oi := { dst := some 127, op := Op.load 9 (Operand.tmp 126), type := 9, pos := "laws.go:489", after := #[{ on := 46, ground := Ground.data }, { on := 45, ground := Ground.guard }], guard := some (45, false) }) (v := .string ⟨#[]⟩) rfl (by kernel_rfl) (by kernel_rfl) (by kernel_rfl) (fun _ _ _ h => h) (by rfl) (fun w hSw => by (try dsimp only at hSw); go_simp) (by assumption) ?_
              try simp only [Act.put, List.setIfInBounds_toArray, List.set_cons_zero, List.set_cons_succ]
              refine take_yes (i := 48) (oi := { dst := some 128, op := Op.binOp BinOp.eql 9 (Operand.tmp 127) (Operand.const (Value.string { data := #[] })) 9, type := 4, pos := "laws.go:489", after := #[{ on := 47, ground := Ground.data }, { on := 45, ground := Ground.guard }], guard := some (45, false) }) (v := .bool true) rfl (by kernel_rfl) (by kernel_rfl) (by kernel_rfl) (fun _ _ _ h => h) (by rfl) (fun w hSw => by (try dsimp only at hSw); go_simp) (by assumption) ?_
              try simp only [Act.put, List.setIfInBounds_toArray, List.set_cons_zero, List.set_cons_succ]
              refine take_yes (i := 49) (oi := { dst := some 129, op := Op.move (Operand.tmp 128), type := 4, pos := "laws.go:489", after := #[{ on := 48, ground := Ground.data }, { on := 45, ground := Ground.chain }, { on := 45, ground := Ground.guard }], guard := some (45, false) }) (v := .bool true) rfl (by kernel_rfl) (by kernel_rfl) (by kernel_rfl) (fun _ _ _ h => h) (by rfl) (fun w hSw => by (try dsimp only at hSw); go_simp) (by assumption) ?_
              try simp only [Act.put, List.setIfInBounds_toArray, List.set_cons_zero, List.set_cons_succ]
              refine take_yes (i := 50) (oi := { dst := some 130, op := Op.fieldAddr 33 (Operand.tmp 12) 1, type := 0, pos := "laws.go:489", after := #[{ on := 49, ground := Ground.guard }], guard := some (49, true) }) (v := .pointer (some ⟨g12, 1, none⟩)) rfl (by kernel_rfl) (by kernel_rfl) (by kernel_rfl) (fun _ _ _ h => h) (by rfl) (fun w hSw => by (try dsimp only at hSw); go_simp) (by assumption) ?_
              try simp only [Act.put, List.setIfInBounds_toArray, List.set_cons_zero, List.set_cons_succ]
              refine take_yes (i := 51) (oi := { dst := some 131, op := Op.load 3 (Operand.tmp 130), type := 3, pos := "laws.go:489", after := #[{ on := 50, ground := Ground.data }, { on := 49, ground := Ground.guard }], guard := some (49, true) }) (v := .int .i64 cb) rfl (by kernel_rfl) (by kernel_rfl) (by kernel_rfl) (fun _ _ _ h => h) (by rfl) (fun w hSw => by (try dsimp only at hSw); go_simp) (by assumption) ?_
              try simp only [Act.put, List.setIfInBounds_toArray, List.set_cons_zero, List.set_cons_succ]
              refine take_yes (i := 52) (oi := { dst := some 132, op := Op.fieldAddr 33 (Operand.tmp 8) 2, type := 0, pos := "laws.go:489", after := #[{ on := 49, ground := Ground.guard }], guard := some (49, true) }) (v := .pointer (some ⟨g8, 2, none⟩)) rfl (by kernel_rfl) (by kernel_rfl) (by kernel_rfl) (fun _ _ _ h => h) (by rfl) (fun w hSw => by (try dsimp only at hSw); go_simp) (by assumption) ?_
              try simp only [Act.put, List.setIfInBounds_toArray, List.set_cons_zero, List.set_cons_succ]
              refine take_yes (i := 53) (oi := { dst := some 133, op := Op.load 3 (Operand.tmp 132), type := 3, pos := "laws.go:489", after := #[{ on := 52, ground := Ground.data }, { on := 49, ground := Ground.guard }], guard := some (49, true) }) (v := .int .i64 cb) rfl (by kernel_rfl) (by kernel_rfl) (by kernel_rfl) (fun _ _ _ h => h) (by rfl) (fun w hSw => by (try dsimp only at hSw); go_simp) (by assumption) ?_
              try simp only [Act.put, List.setIfInBounds_toArray, List.set_cons_zero, List.set_cons_succ]
              refine take_yes (i := 54) (oi := { dst := some 134, op := Op.binOp BinOp.eql 3 (Operand.tmp 131) (Operand.tmp 133) 3, type := 4, pos := "laws.go:489", after := #[{ on := 51, ground := Ground.data }, { on := 53, ground := Ground.data }, { on := 49, ground := Ground.guard }], guard := some (49, true) }) (v := .bool true) rfl (by kernel_rfl) (by kernel_rfl) (by kernel_rfl) (fun _ _ _ h => h) (by rfl) (fun w hSw => by (try dsimp only at hSw); go_simp) (by assumption) ?_
              try simp only [Act.put, List.setIfInBounds_toArray, List.set_cons_zero, List.set_cons_succ]
              refine take_yes (i := 55) (oi := { dst := some 135, op := Op.pick (Operand.tmp 129) (Operand.tmp 134) (Operand.const (Value.bool false)), type := 4, pos := "laws.go:489", after := #[{ on := 49, ground := Ground.data }, { on := 54, ground := Ground.data }, { on := 45, ground := Ground.guard }], guard := some (45, false) }) (v := .bool true) rfl (by kernel_rfl) (by kernel_rfl) (by kernel_rfl) (fun _ _ _ h => h) (by rfl) (fun w hSw => by (try dsimp only at hSw); go_simp) (by assumption) ?_
              try simp only [Act.put, List.setIfInBounds_toArray, List.set_cons_zero, List.set_cons_succ]
              refine take_yes (i := 56) (oi := { dst := some 136, op := Op.pick (Operand.tmp 125) (Operand.const (Value.bool true)) (Operand.tmp 135), type := 4, pos := "laws.go:489", after := #[{ on := 45, ground := Ground.data }, { on := 55, ground := Ground.data }, { on := 40, ground := Ground.guard }], guard := some (40, true) }) (v := .bool true) rfl (by kernel_rfl) (by kernel_rfl) (by kernel_rfl) (fun _ _ _ h => h) (by rfl) (fun w hSw => by (try dsimp only at hSw); go_simp) (by assumption) ?_
              try simp only [Act.put, List.setIfInBounds_toArray, List.set_cons_zero, List.set_cons_succ]
              refine take_yes (i := 57) (oi := { dst := some 137, op := Op.pick (Operand.tmp 120) (Operand.tmp 136) (Operand.const (Value.bool false)), type := 4, pos := "laws.go:489", after := #[{ on := 40, ground := Ground.data }, { on := 56, ground := Ground.data }], guard := none }) (v := .bool true) rfl (by kernel_rfl) (by kernel_rfl) (by kernel_rfl) (fun _ _ _ h => h) (by rfl) (fun w hSw => by (try dsimp only at hSw); go_simp) (by assumption) ?_
              try simp only [Act.put, List.setIfInBounds_toArray, List.set_cons_zero, List.set_cons_succ]
              refine take_yes (i := 58) (oi := { dst := some 138, op := Op.move (Operand.tmp 137), type := 4, pos := "laws.go:489", after := #[{ on := 57, ground := Ground.data }, { on := 49, ground := Ground.chain }], guard := none }) (v := .bool true) rfl (by kernel_rfl) (by kernel_rfl) (by kernel_rfl) (fun _ _ _ h => h) (by rfl) (fun w hSw => by (try dsimp only at hSw); go_simp) (by assumption) ?_
              try simp only [Act.put, List.setIfInBounds_toArray, List.set_cons_zero, List.set_cons_succ]
              refine take_yes (i := 59) (oi := { dst := some 139, op := Op.load 33 (Operand.tmp 12), type := 33, pos := "laws.go:489", after := #[{ on := 58, ground := Ground.guard }], guard := some (58, true) }) (v := .agg #[.string ⟨#[]⟩, .int .i64 cb, .int .i64 cs, .int .i64 cr]) rfl (by kernel_rfl) (by kernel_rfl) (by kernel_rfl) (fun _ _ _ h => h) (by rfl) (fun w hSw => by (try dsimp only at hSw); go_simp) (by assumption) ?_
              try simp only [Act.put, List.setIfInBounds_toArray, List.set_cons_zero, List.set_cons_succ]
              refine wpAnyH_ready (rs := [60]) (by kernel_rfl) (by simp) ?_
              refine AllReadyH.cons (o := { dst := some 140, op := Op.call { callee := Callee.value (Operand.func 25), args := #[Operand.tmp 139], argTypes := #[33] }, type := 4, pos := "laws.go:489", after := #[{ on := 59, ground := Ground.data }, { on := 58, ground := Ground.chain }, { on := 58, ground := Ground.guard }], guard := some (58, true) }) rfl (fun K hK => ?_) AllReadyH.nil
              go_simp
              with_reducible refine (cO _).mono ?_
              rintro e wZ ⟨rfl, hbZ⟩
              have KZ := Lib.hid (KE.out.1.kept hbZ)
              have e1 := KZ.out.cells12 (KE.out.2.kept hbZ)
              clear hbZ KE cO
              refine hK.out _ _ e1 (fun hHeldN => ?_)
              clear hK K hHeld
              have hHeld := hHeldN
              clear hHeldN
              try simp only [Act.put, List.setIfInBounds_toArray, List.set_cons_zero, List.set_cons_succ]
              refine take_yes (i := 61) (oi := { dst := some 141, op := Op.pick (Operand.tmp 138) (Operand.tmp 140) (Operand.const (Value.bool false)), type := 4, pos := "laws.go:489", after := #[{ on := 58, ground := Ground.data }, { on := 60, ground := Ground.data }], guard := none }) (v := .bool true) rfl (by kernel_rfl) (by kernel_rfl) (by kernel_rfl) (fun _ _ _ h => h) (by rfl) (fun w hSw => by (try dsimp only at hSw); go_simp) (by assumption) ?_
              try simp only [Act.put, List.setIfInBounds_toArray, List.set_cons_zero, List.set_cons_succ]
              refine take_yes (i := 62) (oi := { dst := some 2, op := Op.assign (Operand.tmp 141), type := 4, pos := "laws.go:489", after := #[{ on := 61, ground := Ground.data }, { on := 60, ground := Ground.chain }, { on := 0, ground := Ground.phase }, { on := 1, ground := Ground.phase }, { on := 2, ground := Ground.phase }, { on := 3, ground := Ground.phase }, { on := 4, ground := Ground.phase }, { on := 5, ground := Ground.phase }, { on := 6, ground := Ground.phase }, { on := 7, ground := Ground.phase }, { on := 8, ground := Ground.phase }, { on := 9, ground := Ground.phase }, { on := 10, ground := Ground.phase }, { on := 11, ground := Ground.phase }, { on := 12, ground := Ground.phase }, { on := 13, ground := Ground.phase }, { on := 14, ground := Ground.phase }, { on := 15, ground := Ground.phase }, { on := 16, ground := Ground.phase }, { on := 17, ground := Ground.phase }, { on := 18, ground := Ground.phase }, { on := 19, ground := Ground.phase }, { on := 20, ground := Ground.phase }, { on := 21, ground := Ground.phase }, { on := 22, ground := Ground.phase }, { on := 23, ground := Ground.phase }, { on := 24, ground := Ground.phase }, { on := 25, ground := Ground.phase }, { on := 26, ground := Ground.phase }, { on := 27, ground := Ground.phase }, { on := 28, ground := Ground.phase }, { on := 29, ground := Ground.phase }, { on := 30, ground := Ground.phase }, { on := 31, ground := Ground.phase }, { on := 32, ground := Ground.phase }, { on := 33, ground := Ground.phase }, { on := 34, ground := Ground.phase }, { on := 35, ground := Ground.phase }, { on := 36, ground := Ground.phase }, { on := 37, ground := Ground.phase }, { on := 38, ground := Ground.phase }, { on := 39, ground := Ground.phase }, { on := 40, ground := Ground.phase }, { on := 41, ground := Ground.phase }, { on := 42, ground := Ground.phase }, { on := 43, ground := Ground.phase }, { on := 44, ground := Ground.phase }, { on := 45, ground := Ground.phase }, { on := 46, ground := Ground.phase }, { on := 47, ground := Ground.phase }, { on := 48, ground := Ground.phase }, { on := 49, ground := Ground.phase }, { on := 50, ground := Ground.phase }, { on := 51, ground := Ground.phase }, { on := 52, ground := Ground.phase }, { on := 53, ground := Ground.phase }, { on := 54, ground := Ground.phase }, { on := 55, ground := Ground.phase }, { on := 56, ground := Ground.phase }, { on := 57, ground := Ground.phase }, { on := 58, ground := Ground.phase }, { on := 59, ground := Ground.phase }, { on := 60, ground := Ground.phase }, { on := 61, ground := Ground.phase }], guard := none }) (v := .bool true) rfl (by kernel_rfl) (by kernel_rfl) (by kernel_rfl) (fun _ _ _ h => h) (by rfl) (fun w hSw => by (try dsimp only at hSw); go_simp) (by assumption) ?_
              try simp only [Act.put, List.setIfInBounds_toArray, List.set_cons_zero, List.set_cons_succ]
              refine wpAnyH_done (by kernel_rfl) ?_ _
              clear hHeld
              clear e0 e1
              go_wp2_with (fail)
              go_ret
              exact ⟨rfl, KZ.out.bl⟩
          · have x1 : (nn == (x.size : Int)) = false := by simpa using hx1
            have hur := hc1.resolve_left hx1
            have x3 : ((u.size : Int) == r) = true := by simpa using hur
            clear hc1 hx1 hur
            by_cases hz : u.size = 0
            · have x2 : ((u.size : Int) == 0) = true := by simpa using hz
              clear hz ok2
              refine wp_region_held_drew (S := fun W => W.cell? ⟨g3, 0, none⟩ = some (.string t) ∧ W.cell? ⟨g3, 3, none⟩ = some (.int .i64 r) ∧ W.cell? ⟨g5, 0, none⟩ = some (.string u) ∧ W.cell? ⟨g5, 1, none⟩ = some (.int .i64 b) ∧ W.cell? ⟨g8, 2, none⟩ = some (.int .i64 en) ∧ W.cell? ⟨g12, 0, none⟩ = some (.string ct) ∧ W.cell? ⟨g12, 1, none⟩ = some (.int .i64 cb) ∧ W.cell? ⟨g12, 2, none⟩ = some (.int .i64 cs) ∧ W.cell? ⟨g12, 3, none⟩ = some (.int .i64 cr)) (by kernel_rfl) e0 (fun hHeld => ?_)
              refine take_yes (i := 0) (oi := { dst := some 80, op := Op.fieldAddr 33 (Operand.tmp 5) 0, type := 0, pos := "laws.go:489", after := #[], guard := none }) (v := .pointer (some ⟨g5, 0, none⟩)) rfl (by kernel_rfl) (by kernel_rfl) (by kernel_rfl) (fun _ _ _ h => h) (by rfl) (fun w hSw => by (try dsimp only at hSw); go_simp) (by assumption) ?_
              try simp only [Act.put, List.setIfInBounds_toArray, List.set_cons_zero, List.set_cons_succ]
              refine take_yes (i := 1) (oi := { dst := some 81, op := Op.load 9 (Operand.tmp 80), type := 9, pos := "laws.go:489", after := #[{ on := 0, ground := Ground.data }], guard := none }) (v := .string u) rfl (by kernel_rfl) (by kernel_rfl) (by kernel_rfl) (fun _ _ _ h => h) (by rfl) (fun w hSw => by (try dsimp only at hSw); go_simp) (by assumption) ?_
              try simp only [Act.put, List.setIfInBounds_toArray, List.set_cons_zero, List.set_cons_succ]
              refine take_yes (i := 2) (oi := { dst := some 82, op := Op.fieldAddr 33 (Operand.tmp 3) 0, type := 0, pos := "laws.go:489", after := #[], guard := none }) (v := .pointer (some ⟨g3, 0, none⟩)) rfl (by kernel_rfl) (by kernel_rfl) (by kernel_rfl) (fun _ _ _ h => h) (by rfl) (fun w hSw => by (try dsimp only at hSw); go_simp) (by assumption) ?_
              try simp only [Act.put, List.setIfInBounds_toArray, List.set_cons_zero, List.set_cons_succ]
              refine take_yes (i := 3) (oi := { dst := some 83, op := Op.load 9 (Operand.tmp 82), type := 9, pos := "laws.go:489", after := #[{ on := 2, ground := Ground.data }], guard := none }) (v := .string t) rfl (by kernel_rfl) (by kernel_rfl) (by kernel_rfl) (fun _ _ _ h => h) (by rfl) (fun w hSw => by (try dsimp only at hSw); go_simp) (by assumption) ?_
              try simp only [Act.put, List.setIfInBounds_toArray, List.set_cons_zero, List.set_cons_succ]
              refine take_yes (i := 4) (oi := { dst := some 84, op := Op.move (Operand.tmp 4), type := 9, pos := "laws.go:489", after := #[], guard := none }) (v := .string x) rfl (by kernel_rfl) (by kernel_rfl) (by kernel_rfl) (fun _ _ _ h => h) (by rfl) (fun w hSw => by (try dsimp only at hSw); go_simp) (by assumption) ?_
              try simp only [Act.put, List.setIfInBounds_toArray, List.set_cons_zero, List.set_cons_succ]
              refine take_yes (i := 5) (oi := { dst := some 85, op := Op.move (Operand.tmp 6), type := 3, pos := "laws.go:489", after := #[], guard := none }) (v := .int .i64 nn) rfl (by kernel_rfl) (by kernel_rfl) (by kernel_rfl) (fun _ _ _ h => h) (by rfl) (fun w hSw => by (try dsimp only at hSw); go_simp) (by assumption) ?_
              try simp only [Act.put, List.setIfInBounds_toArray, List.set_cons_zero, List.set_cons_succ]
              refine take_yes (i := 6) (oi := { dst := some 86, op := Op.slice 9 (Operand.tmp 84) none (some (Operand.tmp 85)) none, type := 9, pos := "laws.go:489", after := #[{ on := 4, ground := Ground.data }, { on := 5, ground := Ground.data }], guard := none }) (v := .string y) rfl (by kernel_rfl) (by kernel_rfl) (by kernel_rfl) (fun _ _ _ h => h) (by rfl) (fun w hSw => by (try dsimp only at hSw); go_simp) (by assumption) ?_
              try simp only [Act.put, List.setIfInBounds_toArray, List.set_cons_zero, List.set_cons_succ]
              refine take_yes (i := 7) (oi := { dst := some 87, op := Op.binOp BinOp.add 9 (Operand.tmp 83) (Operand.tmp 86) 9, type := 9, pos := "laws.go:489", after := #[{ on := 3, ground := Ground.data }, { on := 6, ground := Ground.data }], guard := none }) (v := .string u) rfl (by kernel_rfl) (by kernel_rfl) (by kernel_rfl) (fun _ _ _ h => h) (by rfl) (fun w hSw => by (try dsimp only at hSw); go_simp) (by assumption) ?_
              try simp only [Act.put, List.setIfInBounds_toArray, List.set_cons_zero, List.set_cons_succ]
              refine take_yes (i := 8) (oi := { dst := some 88, op := Op.binOp BinOp.eql 9 (Operand.tmp 81) (Operand.tmp 87) 9, type := 4, pos := "laws.go:489", after := #[{ on := 1, ground := Ground.data }, { on := 7, ground := Ground.data }], guard := none }) (v := .bool true) rfl (by kernel_rfl) (by kernel_rfl) (by kernel_rfl) (fun _ _ _ h => h) (by rfl) (fun w hSw => by (try dsimp only at hSw); go_simp) (by assumption) ?_
              try simp only [Act.put, List.setIfInBounds_toArray, List.set_cons_zero, List.set_cons_succ]
              refine take_yes (i := 9) (oi := { dst := some 89, op := Op.move (Operand.tmp 88), type := 4, pos := "laws.go:489", after := #[{ on := 8, ground := Ground.data }], guard := none }) (v := .bool true) rfl (by kernel_rfl) (by kernel_rfl) (by kernel_rfl) (fun _ _ _ h => h) (by rfl) (fun w hSw => by (try dsimp only at hSw); go_simp) (by assumption) ?_
              try simp only [Act.put, List.setIfInBounds_toArray, List.set_cons_zero, List.set_cons_succ]
              refine take_yes (i := 10) (oi := { dst := some 90, op := Op.move (Operand.tmp 6), type := 3, pos := "laws.go:489", after := #[{ on := 9, ground := Ground.guard }], guard := some (9, true) }) (v := .int .i64 nn) rfl (by kernel_rfl) (by kernel_rfl) (by kernel_rfl) (fun _ _ _ h => h) (by rfl) (fun w hSw => by (try dsimp only at hSw); go_simp) (by assumption) ?_
              try simp only [Act.put, List.setIfInBounds_toArray, List.set_cons_zero, List.set_cons_succ]
              refine take_yes (i := 11) (oi := { dst := some 91, op := Op.move (Operand.tmp 4), type := 9, pos := "laws.go:489", after := #[{ on := 9, ground := Ground.guard }], guard := some (9, true) }) (v := .string x) rfl (by kernel_rfl) (by kernel_rfl) (by kernel_rfl) (fun _ _ _ h => h) (by rfl) (fun w hSw => by (try dsimp only at hSw); go_simp) (by assumption) ?_
              try simp only [Act.put, List.setIfInBounds_toArray, List.set_cons_zero, List.set_cons_succ]
              refine take_yes (i := 12) (oi := { dst := some 92, op := Op.call { callee := Callee.builtin Builtin.len, args := #[Operand.tmp 91], argTypes := #[9] }, type := 3, pos := "laws.go:489", after := #[{ on := 11, ground := Ground.data }, { on := 9, ground := Ground.guard }], guard := some (9, true) }) (v := .int .i64 (x.size : Int)) rfl (by kernel_rfl) (by kernel_rfl) (by kernel_rfl) (fun _ _ _ h => h) (by rfl) (fun w hSw => by (try dsimp only at hSw); go_simp) (by assumption) ?_
              try simp only [Act.put, List.setIfInBounds_toArray, List.set_cons_zero, List.set_cons_succ]
              refine take_yes (i := 13) (oi := { dst := some 93, op := Op.binOp BinOp.eql 3 (Operand.tmp 90) (Operand.tmp 92) 3, type := 4, pos := "laws.go:489", after := #[{ on := 10, ground := Ground.data }, { on := 12, ground := Ground.data }, { on := 9, ground := Ground.guard }], guard := some (9, true) }) (v := .bool false) rfl (by kernel_rfl) (by kernel_rfl) (by kernel_rfl) (fun _ _ _ h => h) (by rfl) (fun w hSw => by (try dsimp only at hSw); go_simp) (by assumption) ?_
              try simp only [Act.put, List.setIfInBounds_toArray, List.set_cons_zero, List.set_cons_succ]
              refine take_yes (i := 14) (oi := { dst := some 94, op := Op.move (Operand.tmp 93), type := 4, pos := "laws.go:489", after := #[{ on := 13, ground := Ground.data }, { on := 9, ground := Ground.chain }, { on := 9, ground := Ground.guard }], guard := some (9, true) }) (v := .bool false) rfl (by kernel_rfl) (by kernel_rfl) (by kernel_rfl) (fun _ _ _ h => h) (by rfl) (fun w hSw => by (try dsimp only at hSw); go_simp) (by assumption) ?_
              try simp only [Act.put, List.setIfInBounds_toArray, List.set_cons_zero, List.set_cons_succ]
              refine take_yes (i := 15) (oi := { dst := some 95, op := Op.fieldAddr 33 (Operand.tmp 5) 0, type := 0, pos := "laws.go:489", after := #[{ on := 14, ground := Ground.guard }], guard := some (14, false) }) (v := .pointer (some ⟨g5, 0, none⟩)) rfl (by kernel_rfl) (by kernel_rfl) (by kernel_rfl) (fun _ _ _ h => h) (by rfl) (fun w hSw => by (try dsimp only at hSw); go_simp) (by assumption) ?_
              try simp only [Act.put, List.setIfInBounds_toArray, List.set_cons_zero, List.set_cons_succ]
              refine take_yes (i := 16) (oi := { dst := some 96, op := Op.load 9 (Operand.tmp 95), type := 9, pos := "laws.go:489", after := #[{ on := 15, ground := Ground.data }, { on := 14, ground := Ground.guard }], guard := some (14, false) }) (v := .string u) rfl (by kernel_rfl) (by kernel_rfl) (by kernel_rfl) (fun _ _ _ h => h) (by rfl) (fun w hSw => by (try dsimp only at hSw); go_simp) (by assumption) ?_
              try simp only [Act.put, List.setIfInBounds_toArray, List.set_cons_zero, List.set_cons_succ]
              refine take_yes (i := 17) (oi := { dst := some 97, op := Op.call { callee := Callee.builtin Builtin.len, args := #[Operand.tmp 96], argTypes := #[9] }, type := 3, pos := "laws.go:489", after := #[{ on := 16, ground := Ground.data }, { on := 14, ground := Ground.guard }], guard := some (14, false) }) (v := .int .i64 (u.size : Int)) rfl (by kernel_rfl) (by kernel_rfl) (by kernel_rfl) (fun _ _ _ h => h) (by rfl) (fun w hSw => by (try dsimp only at hSw); go_simp) (by assumption) ?_
              try simp only [Act.put, List.setIfInBounds_toArray, List.set_cons_zero, List.set_cons_succ]
              refine take_yes (i := 18) (oi := { dst := some 98, op := Op.fieldAddr 33 (Operand.tmp 3) 3, type := 0, pos := "laws.go:489", after := #[{ on := 14, ground := Ground.guard }], guard := some (14, false) }) (v := .pointer (some ⟨g3, 3, none⟩)) rfl (by kernel_rfl) (by kernel_rfl) (by kernel_rfl) (fun _ _ _ h => h) (by rfl) (fun w hSw => by (try dsimp only at hSw); go_simp) (by assumption) ?_
              try simp only [Act.put, List.setIfInBounds_toArray, List.set_cons_zero, List.set_cons_succ]
              refine take_yes (i := 19) (oi := { dst := some 99, op := Op.load 3 (Operand.tmp 98), type := 3, pos := "laws.go:489", after := #[{ on := 18, ground := Ground.data }, { on := 14, ground := Ground.guard }], guard := some (14, false) }) (v := .int .i64 r) rfl (by kernel_rfl) (by kernel_rfl) (by kernel_rfl) (fun _ _ _ h => h) (by rfl) (fun w hSw => by (try dsimp only at hSw); go_simp) (by assumption) ?_
              try simp only [Act.put, List.setIfInBounds_toArray, List.set_cons_zero, List.set_cons_succ]
              refine take_yes (i := 20) (oi := { dst := some 100, op := Op.binOp BinOp.eql 3 (Operand.tmp 97) (Operand.tmp 99) 3, type := 4, pos := "laws.go:489", after := #[{ on := 17, ground := Ground.data }, { on := 19, ground := Ground.data }, { on := 14, ground := Ground.guard }], guard := some (14, false) }) (v := .bool true) rfl (by kernel_rfl) (by kernel_rfl) (by kernel_rfl) (fun _ _ _ h => h) (by rfl) (fun w hSw => by (try dsimp only at hSw); go_simp) (by assumption) ?_
              try simp only [Act.put, List.setIfInBounds_toArray, List.set_cons_zero, List.set_cons_succ]
              refine take_yes (i := 21) (oi := { dst := some 101, op := Op.pick (Operand.tmp 94) (Operand.const (Value.bool true)) (Operand.tmp 100), type := 4, pos := "laws.go:489", after := #[{ on := 14, ground := Ground.data }, { on := 20, ground := Ground.data }, { on := 9, ground := Ground.guard }], guard := some (9, true) }) (v := .bool true) rfl (by kernel_rfl) (by kernel_rfl) (by kernel_rfl) (fun _ _ _ h => h) (by rfl) (fun w hSw => by (try dsimp only at hSw); go_simp) (by assumption) ?_
              try simp only [Act.put, List.setIfInBounds_toArray, List.set_cons_zero, List.set_cons_succ]
              refine take_yes (i := 22) (oi := { dst := some 102, op := Op.pick (Operand.tmp 89) (Operand.tmp 101) (Operand.const (Value.bool false)), type := 4, pos := "laws.go:489", after := #[{ on := 9, ground := Ground.data }, { on := 21, ground := Ground.data }], guard := none }) (v := .bool true) rfl (by kernel_rfl) (by kernel_rfl) (by kernel_rfl) (fun _ _ _ h => h) (by rfl) (fun w hSw => by (try dsimp only at hSw); go_simp) (by assumption) ?_
              try simp only [Act.put, List.setIfInBounds_toArray, List.set_cons_zero, List.set_cons_succ]
              refine take_yes (i := 23) (oi := { dst := some 103, op := Op.move (Operand.tmp 102), type := 4, pos := "laws.go:489", after := #[{ on := 22, ground := Ground.data }, { on := 14, ground := Ground.chain }], guard := none }) (v := .bool true) rfl (by kernel_rfl) (by kernel_rfl) (by kernel_rfl) (fun _ _ _ h => h) (by rfl) (fun w hSw => by (try dsimp only at hSw); go_simp) (by assumption) ?_
              try simp only [Act.put, List.setIfInBounds_toArray, List.set_cons_zero, List.set_cons_succ]
              refine take_yes (i := 24) (oi := { dst := some 104, op := Op.move (Operand.tmp 7), type := 9, pos := "laws.go:489", after := #[{ on := 23, ground := Ground.guard }], guard := some (23, true) }) (v := .string u) rfl (by kernel_rfl) (by kernel_rfl) (by kernel_rfl) (fun _ _ _ h => h) (by rfl) (fun w hSw => by (try dsimp only at hSw); go_simp) (by assumption) ?_
              try simp only [Act.put, List.setIfInBounds_toArray, List.set_cons_zero, List.set_cons_succ]
              refine take_yes (i := 25) (oi := { dst := some 105, op := Op.fieldAddr 33 (Operand.tmp 5) 0, type := 0, pos := "laws.go:489", after := #[{ on := 23, ground := Ground.guard }], guard := some (23, true) }) (v := .pointer (some ⟨g5, 0, none⟩)) rfl (by kernel_rfl) (by kernel_rfl) (by kernel_rfl) (fun _ _ _ h => h) (by rfl) (fun w hSw => by (try dsimp only at hSw); go_simp) (by assumption) ?_
              try simp only [Act.put, List.setIfInBounds_toArray, List.set_cons_zero, List.set_cons_succ]
              refine take_yes (i := 26) (oi := { dst := some 106, op := Op.load 9 (Operand.tmp 105), type := 9, pos := "laws.go:489", after := #[{ on := 25, ground := Ground.data }, { on := 23, ground := Ground.guard }], guard := some (23, true) }) (v := .string u) rfl (by kernel_rfl) (by kernel_rfl) (by kernel_rfl) (fun _ _ _ h => h) (by rfl) (fun w hSw => by (try dsimp only at hSw); go_simp) (by assumption) ?_
              try simp only [Act.put, List.setIfInBounds_toArray, List.set_cons_zero, List.set_cons_succ]
              refine take_yes (i := 27) (oi := { dst := some 107, op := Op.binOp BinOp.eql 9 (Operand.tmp 104) (Operand.tmp 106) 9, type := 4, pos := "laws.go:489", after := #[{ on := 24, ground := Ground.data }, { on := 26, ground := Ground.data }, { on := 23, ground := Ground.guard }], guard := some (23, true) }) (v := .bool true) rfl (by kernel_rfl) (by kernel_rfl) (by kernel_rfl) (fun _ _ _ h => h) (by rfl) (fun w hSw => by (try dsimp only at hSw); go_simp) (by assumption) ?_
              try simp only [Act.put, List.setIfInBounds_toArray, List.set_cons_zero, List.set_cons_succ]
              refine take_yes (i := 28) (oi := { dst := some 108, op := Op.pick (Operand.tmp 103) (Operand.tmp 107) (Operand.const (Value.bool false)), type := 4, pos := "laws.go:489", after := #[{ on := 23, ground := Ground.data }, { on := 27, ground := Ground.data }], guard := none }) (v := .bool true) rfl (by kernel_rfl) (by kernel_rfl) (by kernel_rfl) (fun _ _ _ h => h) (by rfl) (fun w hSw => by (try dsimp only at hSw); go_simp) (by assumption) ?_
              try simp only [Act.put, List.setIfInBounds_toArray, List.set_cons_zero, List.set_cons_succ]
              refine take_yes (i := 29) (oi := { dst := some 109, op := Op.move (Operand.tmp 108), type := 4, pos := "laws.go:489", after := #[{ on := 28, ground := Ground.data }, { on := 23, ground := Ground.chain }], guard := none }) (v := .bool true) rfl (by kernel_rfl) (by kernel_rfl) (by kernel_rfl) (fun _ _ _ h => h) (by rfl) (fun w hSw => by (try dsimp only at hSw); go_simp) (by assumption) ?_
              try simp only [Act.put, List.setIfInBounds_toArray, List.set_cons_zero, List.set_cons_succ]
              refine take_yes (i := 30) (oi := { dst := some 110, op := Op.fieldAddr 33 (Operand.tmp 8) 2, type := 0, pos := "laws.go:489", after := #[{ on := 29, ground := Ground.guard }], guard := some (29, true) }) (v := .pointer (some ⟨g8, 2, none⟩)) rfl (by kernel_rfl) (by kernel_rfl) (by kernel_rfl) (fun _ _ _ h => h) (by rfl) (fun w hSw => by (try dsimp only at hSw); go_simp) (by assumption) ?_
              try simp only [Act.put, List.setIfInBounds_toArray, List.set_cons_zero, List.set_cons_succ]
              refine take_yes (i := 31) (oi := { dst := some 111, op := Op.load 3 (Operand.tmp 110), type := 3, pos := "laws.go:489", after := #[{ on := 30, ground := Ground.data }, { on := 29, ground := Ground.guard }], guard := some (29, true) }) (v := .int .i64 en) rfl (by kernel_rfl) (by kernel_rfl) (by kernel_rfl) (fun _ _ _ h => h) (by rfl) (fun w hSw => by (try dsimp only at hSw); go_simp) (by assumption) ?_
              try simp only [Act.put, List.setIfInBounds_toArray, List.set_cons_zero, List.set_cons_succ]
              refine take_yes (i := 32) (oi := { dst := some 112, op := Op.fieldAddr 33 (Operand.tmp 5) 1, type := 0, pos := "laws.go:489", after := #[{ on := 29, ground := Ground.guard }], guard := some (29, true) }) (v := .pointer (some ⟨g5, 1, none⟩)) rfl (by kernel_rfl) (by kernel_rfl) (by kernel_rfl) (fun _ _ _ h => h) (by rfl) (fun w hSw => by (try dsimp only at hSw); go_simp) (by assumption) ?_
              try simp only [Act.put, List.setIfInBounds_toArray, List.set_cons_zero, List.set_cons_succ]
              refine take_yes (i := 33) (oi := { dst := some 113, op := Op.load 3 (Operand.tmp 112), type := 3, pos := "laws.go:489", after := #[{ on := 32, ground := Ground.data }, { on := 29, ground := Ground.guard }], guard := some (29, true) }) (v := .int .i64 b) rfl (by kernel_rfl) (by kernel_rfl) (by kernel_rfl) (fun _ _ _ h => h) (by rfl) (fun w hSw => by (try dsimp only at hSw); go_simp) (by assumption) ?_
              try simp only [Act.put, List.setIfInBounds_toArray, List.set_cons_zero, List.set_cons_succ]
              refine take_yes (i := 34) (oi := { dst := some 114, op := Op.fieldAddr 33 (Operand.tmp 5) 0, type := 0, pos := "laws.go:489", after := #[{ on := 29, ground := Ground.guard }], guard := some (29, true) }) (v := .pointer (some ⟨g5, 0, none⟩)) rfl (by kernel_rfl) (by kernel_rfl) (by kernel_rfl) (fun _ _ _ h => h) (by rfl) (fun w hSw => by (try dsimp only at hSw); go_simp) (by assumption) ?_
              try simp only [Act.put, List.setIfInBounds_toArray, List.set_cons_zero, List.set_cons_succ]
              refine take_yes (i := 35) (oi := { dst := some 115, op := Op.load 9 (Operand.tmp 114), type := 9, pos := "laws.go:489", after := #[{ on := 34, ground := Ground.data }, { on := 29, ground := Ground.guard }], guard := some (29, true) }) (v := .string u) rfl (by kernel_rfl) (by kernel_rfl) (by kernel_rfl) (fun _ _ _ h => h) (by rfl) (fun w hSw => by (try dsimp only at hSw); go_simp) (by assumption) ?_
              try simp only [Act.put, List.setIfInBounds_toArray, List.set_cons_zero, List.set_cons_succ]
              refine take_yes (i := 36) (oi := { dst := some 116, op := Op.call { callee := Callee.builtin Builtin.len, args := #[Operand.tmp 115], argTypes := #[9] }, type := 3, pos := "laws.go:489", after := #[{ on := 35, ground := Ground.data }, { on := 29, ground := Ground.guard }], guard := some (29, true) }) (v := .int .i64 (u.size : Int)) rfl (by kernel_rfl) (by kernel_rfl) (by kernel_rfl) (fun _ _ _ h => h) (by rfl) (fun w hSw => by (try dsimp only at hSw); go_simp) (by assumption) ?_
              try simp only [Act.put, List.setIfInBounds_toArray, List.set_cons_zero, List.set_cons_succ]
              refine take_yes (i := 37) (oi := { dst := some 117, op := Op.binOp BinOp.add 3 (Operand.tmp 113) (Operand.tmp 116) 3, type := 3, pos := "laws.go:489", after := #[{ on := 33, ground := Ground.data }, { on := 36, ground := Ground.data }, { on := 29, ground := Ground.guard }], guard := some (29, true) }) (v := .int .i64 en) rfl (by kernel_rfl) (by kernel_rfl) (by kernel_rfl) (fun _ _ _ h => h) (by rfl) (fun w hSw => by (try dsimp only at hSw); go_simp) (by assumption) ?_
              try simp only [Act.put, List.setIfInBounds_toArray, List.set_cons_zero, List.set_cons_succ]
              refine take_yes (i := 38) (oi := { dst := some 118, op := Op.binOp BinOp.eql 3 (Operand.tmp 111) (Operand.tmp 117) 3, type := 4, pos := "laws.go:489", after := #[{ on := 31, ground := Ground.data }, { on := 37, ground := Ground.data }, { on := 29, ground := Ground.guard }], guard := some (29, true) }) (v := .bool true) rfl (by kernel_rfl) (by kernel_rfl) (by kernel_rfl) (fun _ _ _ h => h) (by rfl) (fun w hSw => by (try dsimp only at hSw); go_simp) (by assumption) ?_
              try simp only [Act.put, List.setIfInBounds_toArray, List.set_cons_zero, List.set_cons_succ]
              refine take_yes (i := 39) (oi := { dst := some 119, op := Op.pick (Operand.tmp 109) (Operand.tmp 118) (Operand.const (Value.bool false)), type := 4, pos := "laws.go:489", after := #[{ on := 29, ground := Ground.data }, { on := 38, ground := Ground.data }], guard := none }) (v := .bool true) rfl (by kernel_rfl) (by kernel_rfl) (by kernel_rfl) (fun _ _ _ h => h) (by rfl) (fun w hSw => by (try dsimp only at hSw); go_simp) (by assumption) ?_
              try simp only [Act.put, List.setIfInBounds_toArray, List.set_cons_zero, List.set_cons_succ]
              refine take_yes (i := 40) (oi := { dst := some 120, op := Op.move (Operand.tmp 119), type := 4, pos := "laws.go:489", after := #[{ on := 39, ground := Ground.data }, { on := 29, ground := Ground.chain }], guard := none }) (v := .bool true) rfl (by kernel_rfl) (by kernel_rfl) (by kernel_rfl) (fun _ _ _ h => h) (by rfl) (fun w hSw => by (try dsimp only at hSw); go_simp) (by assumption) ?_
              try simp only [Act.put, List.setIfInBounds_toArray, List.set_cons_zero, List.set_cons_succ]
              refine take_yes (i := 41) (oi := { dst := some 121, op := Op.fieldAddr 33 (Operand.tmp 5) 0, type := 0, pos := "laws.go:489", after := #[{ on := 40, ground := Ground.guard }], guard := some (40, true) }) (v := .pointer (some ⟨g5, 0, none⟩)) rfl (by kernel_rfl) (by kernel_rfl) (by kernel_rfl) (fun _ _ _ h => h) (by rfl) (fun w hSw => by (try dsimp only at hSw); go_simp) (by assumption) ?_
              try simp only [Act.put, List.setIfInBounds_toArray, List.set_cons_zero, List.set_cons_succ]
              refine take_yes (i := 42) (oi := { dst := some 122, op := Op.load 9 (Operand.tmp 121), type := 9, pos := "laws.go:489", after := #[{ on := 41, ground := Ground.data }, { on := 40, ground := Ground.guard }], guard := some (40, true) }) (v := .string u) rfl (by kernel_rfl) (by kernel_rfl) (by kernel_rfl) (fun _ _ _ h => h) (by rfl) (fun w hSw => by (try dsimp only at hSw); go_simp) (by assumption) ?_
              try simp only [Act.put, List.setIfInBounds_toArray, List.set_cons_zero, List.set_cons_succ]
              refine take_yes (i := 43) (oi := { dst := some 123, op := Op.call { callee := Callee.builtin Builtin.len, args := #[Operand.tmp 122], argTypes := #[9] }, type := 3, pos := "laws.go:489", after := #[{ on := 42, ground := Ground.data }, { on := 40, ground := Ground.guard }], guard := some (40, true) }) (v := .int .i64 (u.size : Int)) rfl (by kernel_rfl) (by kernel_rfl) (by kernel_rfl) (fun _ _ _ h => h) (by rfl) (fun w hSw => by (try dsimp only at hSw); go_simp) (by assumption) ?_
              try simp only [Act.put, List.setIfInBounds_toArray, List.set_cons_zero, List.set_cons_succ]
              refine take_yes (i := 44) (oi := { dst := some 124, op := Op.binOp BinOp.eql 3 (Operand.tmp 123) (Operand.const (Value.int IntKind.i64 0)) 3, type := 4, pos := "laws.go:489", after := #[{ on := 43, ground := Ground.data }, { on := 40, ground := Ground.guard }], guard := some (40, true) }) (v := .bool true) rfl (by kernel_rfl) (by kernel_rfl) (by kernel_rfl) (fun _ _ _ h => h) (by rfl) (fun w hSw => by (try dsimp only at hSw); go_simp) (by assumption) ?_
              try simp only [Act.put, List.setIfInBounds_toArray, List.set_cons_zero, List.set_cons_succ]
              refine take_yes (i := 45) (oi := { dst := some 125, op := Op.move (Operand.tmp 124), type := 4, pos := "laws.go:489", after := #[{ on := 44, ground := Ground.data }, { on := 40, ground := Ground.chain }, { on := 40, ground := Ground.guard }], guard := some (40, true) }) (v := .bool true) rfl (by kernel_rfl) (by kernel_rfl) (by kernel_rfl) (fun _ _ _ h => h) (by rfl) (fun w hSw => by (try dsimp only at hSw); go_simp) (by assumption) ?_
              try simp only [Act.put, List.setIfInBounds_toArray, List.set_cons_zero, List.set_cons_succ]
              refine take_no (i := 46) (oi := { dst := some 126, op := Op.fieldAddr 33 (Operand.tmp 12) 0, type := 0, pos := "laws.go:489", after := #[{ on := 45, ground := Ground.guard }], guard := some (45, false) }) rfl (by kernel_rfl) (by kernel_rfl) (by kernel_rfl) (fun _ _ _ h => h) (by rfl) (by assumption) ?_
              try simp only [Act.put, List.setIfInBounds_toArray, List.set_cons_zero, List.set_cons_succ]
              refine take_no (i := 47) (oi := { dst := some 127, op := Op.load 9 (Operand.tmp 126), type := 9, pos := "laws.go:489", after := #[{ on := 46, ground := Ground.data }, { on := 45, ground := Ground.guard }], guard := some (45, false) }) rfl (by kernel_rfl) (by kernel_rfl) (by kernel_rfl) (fun _ _ _ h => h) (by rfl) (by assumption) ?_
              try simp only [Act.put, List.setIfInBounds_toArray, List.set_cons_zero, List.set_cons_succ]
              refine take_no (i := 48) (oi := { dst := some 128, op := Op.binOp BinOp.eql 9 (Operand.tmp 127) (Operand.const (Value.string { data := #[] })) 9, type := 4, pos := "laws.go:489", after := #[{ on := 47, ground := Ground.data }, { on := 45, ground := Ground.guard }], guard := some (45, false) }) rfl (by kernel_rfl) (by kernel_rfl) (by kernel_rfl) (fun _ _ _ h => h) (by rfl) (by assumption) ?_
              try simp only [Act.put, List.setIfInBounds_toArray, List.set_cons_zero, List.set_cons_succ]
              refine take_no (i := 49) (oi := { dst := some 129, op := Op.move (Operand.tmp 128), type := 4, pos := "laws.go:489", after := #[{ on := 48, ground := Ground.data }, { on := 45, ground := Ground.chain }, { on := 45, ground := Ground.guard }], guard := some (45, false) }) rfl (by kernel_rfl) (by kernel_rfl) (by kernel_rfl) (fun _ _ _ h => h) (by rfl) (by assumption) ?_
              try simp only [Act.put, List.setIfInBounds_toArray, List.set_cons_zero, List.set_cons_succ]
              refine take_no (i := 50) (oi := { dst := some 130, op := Op.fieldAddr 33 (Operand.tmp 12) 1, type := 0, pos := "laws.go:489", after := #[{ on := 49, ground := Ground.guard }], guard := some (49, true) }) rfl (by kernel_rfl) (by kernel_rfl) (by kernel_rfl) (fun _ _ _ h => h) (by rfl) (by assumption) ?_
              try simp only [Act.put, List.setIfInBounds_toArray, List.set_cons_zero, List.set_cons_succ]
              refine take_no (i := 51) (oi := { dst := some 131, op := Op.load 3 (Operand.tmp 130), type := 3, pos := "laws.go:489", after := #[{ on := 50, ground := Ground.data }, { on := 49, ground := Ground.guard }], guard := some (49, true) }) rfl (by kernel_rfl) (by kernel_rfl) (by kernel_rfl) (fun _ _ _ h => h) (by rfl) (by assumption) ?_
              try simp only [Act.put, List.setIfInBounds_toArray, List.set_cons_zero, List.set_cons_succ]
              refine take_no (i := 52) (oi := { dst := some 132, op := Op.fieldAddr 33 (Operand.tmp 8) 2, type := 0, pos := "laws.go:489", after := #[{ on := 49, ground := Ground.guard }], guard := some (49, true) }) rfl (by kernel_rfl) (by kernel_rfl) (by kernel_rfl) (fun _ _ _ h => h) (by rfl) (by assumption) ?_
              try simp only [Act.put, List.setIfInBounds_toArray, List.set_cons_zero, List.set_cons_succ]
              refine take_no (i := 53) (oi := { dst := some 133, op := Op.load 3 (Operand.tmp 132), type := 3, pos := "laws.go:489", after := #[{ on := 52, ground := Ground.data }, { on := 49, ground := Ground.guard }], guard := some (49, true) }) rfl (by kernel_rfl) (by kernel_rfl) (by kernel_rfl) (fun _ _ _ h => h) (by rfl) (by assumption) ?_
              try simp only [Act.put, List.setIfInBounds_toArray, List.set_cons_zero, List.set_cons_succ]
              refine take_no (i := 54) (oi := { dst := some 134, op := Op.binOp BinOp.eql 3 (Operand.tmp 131) (Operand.tmp 133) 3, type := 4, pos := "laws.go:489", after := #[{ on := 51, ground := Ground.data }, { on := 53, ground := Ground.data }, { on := 49, ground := Ground.guard }], guard := some (49, true) }) rfl (by kernel_rfl) (by kernel_rfl) (by kernel_rfl) (fun _ _ _ h => h) (by rfl) (by assumption) ?_
              try simp only [Act.put, List.setIfInBounds_toArray, List.set_cons_zero, List.set_cons_succ]
              refine take_no (i := 55) (oi := { dst := some 135, op := Op.pick (Operand.tmp 129) (Operand.tmp 134) (Operand.const (Value.bool false)), type := 4, pos := "laws.go:489", after := #[{ on := 49, ground := Ground.data }, { on := 54, ground := Ground.data }, { on := 45, ground := Ground.guard }], guard := some (45, false) }) rfl (by kernel_rfl) (by kernel_rfl) (by kernel_rfl) (fun _ _ _ h => h) (by rfl) (by assumption) ?_
              try simp only [Act.put, List.setIfInBounds_toArray, List.set_cons_zero, List.set_cons_succ]
              refine take_yes (i := 56) (oi := { dst := some 136, op := Op.pick (Operand.tmp 125) (Operand.const (Value.bool true)) (Operand.tmp 135), type := 4, pos := "laws.go:489", after := #[{ on := 45, ground := Ground.data }, { on := 55, ground := Ground.data }, { on := 40, ground := Ground.guard }], guard := some (40, true) }) (v := .bool true) rfl (by kernel_rfl) (by kernel_rfl) (by kernel_rfl) (fun _ _ _ h => h) (by rfl) (fun w hSw => by (try dsimp only at hSw); go_simp) (by assumption) ?_
              try simp only [Act.put, List.setIfInBounds_toArray, List.set_cons_zero, List.set_cons_succ]
              refine take_yes (i := 57) (oi := { dst := some 137, op := Op.pick (Operand.tmp 120) (Operand.tmp 136) (Operand.const (Value.bool false)), type := 4, pos := "laws.go:489", after := #[{ on := 40, ground := Ground.data }, { on := 56, ground := Ground.data }], guard := none }) (v := .bool true) rfl (by kernel_rfl) (by kernel_rfl) (by kernel_rfl) (fun _ _ _ h => h) (by rfl) (fun w hSw => by (try dsimp only at hSw); go_simp) (by assumption) ?_
              try simp only [Act.put, List.setIfInBounds_toArray, List.set_cons_zero, List.set_cons_succ]
              refine take_yes (i := 58) (oi := { dst := some 138, op := Op.move (Operand.tmp 137), type := 4, pos := "laws.go:489", after := #[{ on := 57, ground := Ground.data }, { on := 49, ground := Ground.chain }], guard := none }) (v := .bool true) rfl (by kernel_rfl) (by kernel_rfl) (by kernel_rfl) (fun _ _ _ h => h) (by rfl) (fun w hSw => by (try dsimp only at hSw); go_simp) (by assumption) ?_
              try simp only [Act.put, List.setIfInBounds_toArray, List.set_cons_zero, List.set_cons_succ]
              refine take_yes (i := 59) (oi := { dst := some 139, op := Op.load 33 (Operand.tmp 12), type := 33, pos := "laws.go:489", after := #[{ on := 58, ground := Ground.guard }], guard := some (58, true) }) (v := .agg #[.string ct, .int .i64 cb, .int .i64 cs, .int .i64 cr]) rfl (by kernel_rfl) (by kernel_rfl) (by kernel_rfl) (fun _ _ _ h => h) (by rfl) (fun w hSw => by (try dsimp only at hSw); go_simp) (by assumption) ?_
              try simp only [Act.put, List.setIfInBounds_toArray, List.set_cons_zero, List.set_cons_succ]
              refine wpAnyH_ready (rs := [60]) (by kernel_rfl) (by simp) ?_
              refine AllReadyH.cons (o := { dst := some 140, op := Op.call { callee := Callee.value (Operand.func 25), args := #[Operand.tmp 139], argTypes := #[33] }, type := 4, pos := "laws.go:489", after := #[{ on := 59, ground := Ground.data }, { on := 58, ground := Ground.chain }, { on := 58, ground := Ground.guard }], guard := some (58, true) }) rfl (fun K hK => ?_) AllReadyH.nil
              go_simp
              with_reducible refine (cO _).mono ?_
              rintro e wZ ⟨rfl, hbZ⟩
              have KZ := Lib.hid (KE.out.1.kept hbZ)
              have e1 := KZ.out.cells12 (KE.out.2.kept hbZ)
              clear hbZ KE cO
              refine hK.out _ _ e1 (fun hHeldN => ?_)
              clear hK K hHeld
              have hHeld := hHeldN
              clear hHeldN
              try simp only [Act.put, List.setIfInBounds_toArray, List.set_cons_zero, List.set_cons_succ]
              refine take_yes (i := 61) (oi := { dst := some 141, op := Op.pick (Operand.tmp 138) (Operand.tmp 140) (Operand.const (Value.bool false)), type := 4, pos := "laws.go:489", after := #[{ on := 58, ground := Ground.data }, { on := 60, ground := Ground.data }], guard := none }) (v := .bool true) rfl (by kernel_rfl) (by kernel_rfl) (by kernel_rfl) (fun _ _ _ h => h) (by rfl) (fun w hSw => by (try dsimp only at hSw); go_simp) (by assumption) ?_
              try simp only [Act.put, List.setIfInBounds_toArray, List.set_cons_zero, List.set_cons_succ]
              refine take_yes (i := 62) (oi := { dst := some 2, op := Op.assign (Operand.tmp 141), type := 4, pos := "laws.go:489", after := #[{ on := 61, ground := Ground.data }, { on := 60, ground := Ground.chain }, { on := 0, ground := Ground.phase }, { on := 1, ground := Ground.phase }, { on := 2, ground := Ground.phase }, { on := 3, ground := Ground.phase }, { on := 4, ground := Ground.phase }, { on := 5, ground := Ground.phase }, { on := 6, ground := Ground.phase }, { on := 7, ground := Ground.phase }, { on := 8, ground := Ground.phase }, { on := 9, ground := Ground.phase }, { on := 10, ground := Ground.phase }, { on := 11, ground := Ground.phase }, { on := 12, ground := Ground.phase }, { on := 13, ground := Ground.phase }, { on := 14, ground := Ground.phase }, { on := 15, ground := Ground.phase }, { on := 16, ground := Ground.phase }, { on := 17, ground := Ground.phase }, { on := 18, ground := Ground.phase }, { on := 19, ground := Ground.phase }, { on := 20, ground := Ground.phase }, { on := 21, ground := Ground.phase }, { on := 22, ground := Ground.phase }, { on := 23, ground := Ground.phase }, { on := 24, ground := Ground.phase }, { on := 25, ground := Ground.phase }, { on := 26, ground := Ground.phase }, { on := 27, ground := Ground.phase }, { on := 28, ground := Ground.phase }, { on := 29, ground := Ground.phase }, { on := 30, ground := Ground.phase }, { on := 31, ground := Ground.phase }, { on := 32, ground := Ground.phase }, { on := 33, ground := Ground.phase }, { on := 34, ground := Ground.phase }, { on := 35, ground := Ground.phase }, { on := 36, ground := Ground.phase }, { on := 37, ground := Ground.phase }, { on := 38, ground := Ground.phase }, { on := 39, ground := Ground.phase }, { on := 40, ground := Ground.phase }, { on := 41, ground := Ground.phase }, { on := 42, ground := Ground.phase }, { on := 43, ground := Ground.phase }, { on := 44, ground := Ground.phase }, { on := 45, ground := Ground.phase }, { on := 46, ground := Ground.phase }, { on := 47, ground := Ground.phase }, { on := 48, ground := Ground.phase }, { on := 49, ground := Ground.phase }, { on := 50, ground := Ground.phase }, { on := 51, ground := Ground.phase }, { on := 52, ground := Ground.phase }, { on := 53, ground := Ground.phase }, { on := 54, ground := Ground.phase }, { on := 55, ground := Ground.phase }, { on := 56, ground := Ground.phase }, { on := 57, ground := Ground.phase }, { on := 58, ground := Ground.phase }, { on := 59, ground := Ground.phase }, { on := 60, ground := Ground.phase }, { on := 61, ground := Ground.phase }], guard := none }) (v := .bool true) rfl (by kernel_rfl) (by kernel_rfl) (by kernel_rfl) (fun _ _ _ h => h) (by rfl) (fun w hSw => by (try dsimp only at hSw); go_simp) (by assumption) ?_
              try simp only [Act.put, List.setIfInBounds_toArray, List.set_cons_zero, List.set_cons_succ]
              refine wpAnyH_done (by kernel_rfl) ?_ _
              clear hHeld
              clear e0 e1
              go_wp2_with (fail)
              go_ret
              exact ⟨rfl, KZ.out.bl⟩
            · have x2 : ((u.size : Int) == 0) = false := by simpa using hz
              obtain ⟨rfl, rfl⟩ := ok2 hz
              clear hz
              refine wp_region_held_drew (S := fun W => W.cell? ⟨g3, 0, none⟩ = some (.string t) ∧ W.cell? ⟨g3, 3, none⟩ = some (.int .i64 r) ∧ W.cell? ⟨g5, 0, none⟩ = some (.string u) ∧ W.cell? ⟨g5, 1, none⟩ = some (.int .i64 b) ∧ W.cell? ⟨g8, 2, none⟩ = some (.int .i64 cb) ∧ W.cell? ⟨g12, 0, none⟩ = some (.string ⟨#[]⟩) ∧ W.cell? ⟨g12, 1, none⟩ = some (.int .i64 cb) ∧ W.cell? ⟨g12, 2, none⟩ = some (.int .i64 cs) ∧ W.cell? ⟨g12, 3, none⟩ = some (.int .i64 cr)) (by kernel_rfl) e0 (fun hHeld => ?_)
              refine take_yes (i := 0) (oi := { dst := some 80, op := Op.fieldAddr 33 (Operand.tmp 5) 0, type := 0, pos := "laws.go:489", after := #[], guard := none }) (v := .pointer (some ⟨g5, 0, none⟩)) rfl (by kernel_rfl) (by kernel_rfl) (by kernel_rfl) (fun _ _ _ h => h) (by rfl) (fun w hSw => by (try dsimp only at hSw); go_simp) (by assumption) ?_
              try simp only [Act.put, List.setIfInBounds_toArray, List.set_cons_zero, List.set_cons_succ]
              refine take_yes (i := 1) (oi := { dst := some 81, op := Op.load 9 (Operand.tmp 80), type := 9, pos := "laws.go:489", after := #[{ on := 0, ground := Ground.data }], guard := none }) (v := .string u) rfl (by kernel_rfl) (by kernel_rfl) (by kernel_rfl) (fun _ _ _ h => h) (by rfl) (fun w hSw => by (try dsimp only at hSw); go_simp) (by assumption) ?_
              try simp only [Act.put, List.setIfInBounds_toArray, List.set_cons_zero, List.set_cons_succ]
              refine take_yes (i := 2) (oi := { dst := some 82, op := Op.fieldAddr 33 (Operand.tmp 3) 0, type := 0, pos := "laws.go:489", after := #[], guard := none }) (v := .pointer (some ⟨g3, 0, none⟩)) rfl (by kernel_rfl) (by kernel_rfl) (by kernel_rfl) (fun _ _ _ h => h) (by rfl) (fun w hSw => by (try dsimp only at hSw); go_simp) (by assumption) ?_
              try simp only [Act.put, List.setIfInBounds_toArray, List.set_cons_zero, List.set_cons_succ]
              refine take_yes (i := 3) (oi := { dst := some 83, op := Op.load 9 (Operand.tmp 82), type := 9, pos := "laws.go:489", after := #[{ on := 2, ground := Ground.data }], guard := none }) (v := .string t) rfl (by kernel_rfl) (by kernel_rfl) (by kernel_rfl) (fun _ _ _ h => h) (by rfl) (fun w hSw => by (try dsimp only at hSw); go_simp) (by assumption) ?_
              try simp only [Act.put, List.setIfInBounds_toArray, List.set_cons_zero, List.set_cons_succ]
              refine take_yes (i := 4) (oi := { dst := some 84, op := Op.move (Operand.tmp 4), type := 9, pos := "laws.go:489", after := #[], guard := none }) (v := .string x) rfl (by kernel_rfl) (by kernel_rfl) (by kernel_rfl) (fun _ _ _ h => h) (by rfl) (fun w hSw => by (try dsimp only at hSw); go_simp) (by assumption) ?_
              try simp only [Act.put, List.setIfInBounds_toArray, List.set_cons_zero, List.set_cons_succ]
              refine take_yes (i := 5) (oi := { dst := some 85, op := Op.move (Operand.tmp 6), type := 3, pos := "laws.go:489", after := #[], guard := none }) (v := .int .i64 nn) rfl (by kernel_rfl) (by kernel_rfl) (by kernel_rfl) (fun _ _ _ h => h) (by rfl) (fun w hSw => by (try dsimp only at hSw); go_simp) (by assumption) ?_
              try simp only [Act.put, List.setIfInBounds_toArray, List.set_cons_zero, List.set_cons_succ]
              refine take_yes (i := 6) (oi := { dst := some 86, op := Op.slice 9 (Operand.tmp 84) none (some (Operand.tmp 85)) none, type := 9, pos := "laws.go:489", after := #[{ on := 4, ground := Ground.data }, { on := 5, ground := Ground.data }], guard := none }) (v := .string y) rfl (by kernel_rfl) (by kernel_rfl) (by kernel_rfl) (fun _ _ _ h => h) (by rfl) (fun w hSw => by (try dsimp only at hSw); go_simp) (by assumption) ?_
              try simp only [Act.put, List.setIfInBounds_toArray, List.set_cons_zero, List.set_cons_succ]
              refine take_yes (i := 7) (oi := { dst := some 87, op := Op.binOp BinOp.add 9 (Operand.tmp 83) (Operand.tmp 86) 9, type := 9, pos := "laws.go:489", after := #[{ on := 3, ground := Ground.data }, { on := 6, ground := Ground.data }], guard := none }) (v := .string u) rfl (by kernel_rfl) (by kernel_rfl) (by kernel_rfl) (fun _ _ _ h => h) (by rfl) (fun w hSw => by (try dsimp only at hSw); go_simp) (by assumption) ?_
              try simp only [Act.put, List.setIfInBounds_toArray, List.set_cons_zero, List.set_cons_succ]
              refine take_yes (i := 8) (oi := { dst := some 88, op := Op.binOp BinOp.eql 9 (Operand.tmp 81) (Operand.tmp 87) 9, type := 4, pos := "laws.go:489", after := #[{ on := 1, ground := Ground.data }, { on := 7, ground := Ground.data }], guard := none }) (v := .bool true) rfl (by kernel_rfl) (by kernel_rfl) (by kernel_rfl) (fun _ _ _ h => h) (by rfl) (fun w hSw => by (try dsimp only at hSw); go_simp) (by assumption) ?_
              try simp only [Act.put, List.setIfInBounds_toArray, List.set_cons_zero, List.set_cons_succ]
              refine take_yes (i := 9) (oi := { dst := some 89, op := Op.move (Operand.tmp 88), type := 4, pos := "laws.go:489", after := #[{ on := 8, ground := Ground.data }], guard := none }) (v := .bool true) rfl (by kernel_rfl) (by kernel_rfl) (by kernel_rfl) (fun _ _ _ h => h) (by rfl) (fun w hSw => by (try dsimp only at hSw); go_simp) (by assumption) ?_
              try simp only [Act.put, List.setIfInBounds_toArray, List.set_cons_zero, List.set_cons_succ]
              refine take_yes (i := 10) (oi := { dst := some 90, op := Op.move (Operand.tmp 6), type := 3, pos := "laws.go:489", after := #[{ on := 9, ground := Ground.guard }], guard := some (9, true) }) (v := .int .i64 nn) rfl (by kernel_rfl) (by kernel_rfl) (by kernel_rfl) (fun _ _ _ h => h) (by rfl) (fun w hSw => by (try dsimp only at hSw); go_simp) (by assumption) ?_
              try simp only [Act.put, List.setIfInBounds_toArray, List.set_cons_zero, List.set_cons_succ]
              refine take_yes (i := 11) (oi := { dst := some 91, op := Op.move (Operand.tmp 4), type := 9, pos := "laws.go:489", after := #[{ on := 9, ground := Ground.guard }], guard := some (9, true) }) (v := .string x) rfl (by kernel_rfl) (by kernel_rfl) (by kernel_rfl) (fun _ _ _ h => h) (by rfl) (fun w hSw => by (try dsimp only at hSw); go_simp) (by assumption) ?_
              try simp only [Act.put, List.setIfInBounds_toArray, List.set_cons_zero, List.set_cons_succ]
              refine take_yes (i := 12) (oi := { dst := some 92, op := Op.call { callee := Callee.builtin Builtin.len, args := #[Operand.tmp 91], argTypes := #[9] }, type := 3, pos := "laws.go:489", after := #[{ on := 11, ground := Ground.data }, { on := 9, ground := Ground.guard }], guard := some (9, true) }) (v := .int .i64 (x.size : Int)) rfl (by kernel_rfl) (by kernel_rfl) (by kernel_rfl) (fun _ _ _ h => h) (by rfl) (fun w hSw => by (try dsimp only at hSw); go_simp) (by assumption) ?_
              try simp only [Act.put, List.setIfInBounds_toArray, List.set_cons_zero, List.set_cons_succ]
              refine take_yes (i := 13) (oi := { dst := some 93, op := Op.binOp BinOp.eql 3 (Operand.tmp 90) (Operand.tmp 92) 3, type := 4, pos := "laws.go:489", after := #[{ on := 10, ground := Ground.data }, { on := 12, ground := Ground.data }, { on := 9, ground := Ground.guard }], guard := some (9, true) }) (v := .bool false) rfl (by kernel_rfl) (by kernel_rfl) (by kernel_rfl) (fun _ _ _ h => h) (by rfl) (fun w hSw => by (try dsimp only at hSw); go_simp) (by assumption) ?_
              try simp only [Act.put, List.setIfInBounds_toArray, List.set_cons_zero, List.set_cons_succ]
              refine take_yes (i := 14) (oi := { dst := some 94, op := Op.move (Operand.tmp 93), type := 4, pos := "laws.go:489", after := #[{ on := 13, ground := Ground.data }, { on := 9, ground := Ground.chain }, { on := 9, ground := Ground.guard }], guard := some (9, true) }) (v := .bool false) rfl (by kernel_rfl) (by kernel_rfl) (by kernel_rfl) (fun _ _ _ h => h) (by rfl) (fun w hSw => by (try dsimp only at hSw); go_simp) (by assumption) ?_
              try simp only [Act.put, List.setIfInBounds_toArray, List.set_cons_zero, List.set_cons_succ]
              refine take_yes (i := 15) (oi := { dst := some 95, op := Op.fieldAddr 33 (Operand.tmp 5) 0, type := 0, pos := "laws.go:489", after := #[{ on := 14, ground := Ground.guard }], guard := some (14, false) }) (v := .pointer (some ⟨g5, 0, none⟩)) rfl (by kernel_rfl) (by kernel_rfl) (by kernel_rfl) (fun _ _ _ h => h) (by rfl) (fun w hSw => by (try dsimp only at hSw); go_simp) (by assumption) ?_
              try simp only [Act.put, List.setIfInBounds_toArray, List.set_cons_zero, List.set_cons_succ]
              refine take_yes (i := 16) (oi := { dst := some 96, op := Op.load 9 (Operand.tmp 95), type := 9, pos := "laws.go:489", after := #[{ on := 15, ground := Ground.data }, { on := 14, ground := Ground.guard }], guard := some (14, false) }) (v := .string u) rfl (by kernel_rfl) (by kernel_rfl) (by kernel_rfl) (fun _ _ _ h => h) (by rfl) (fun w hSw => by (try dsimp only at hSw); go_simp) (by assumption) ?_
              try simp only [Act.put, List.setIfInBounds_toArray, List.set_cons_zero, List.set_cons_succ]
              refine take_yes (i := 17) (oi := { dst := some 97, op := Op.call { callee := Callee.builtin Builtin.len, args := #[Operand.tmp 96], argTypes := #[9] }, type := 3, pos := "laws.go:489", after := #[{ on := 16, ground := Ground.data }, { on := 14, ground := Ground.guard }], guard := some (14, false) }) (v := .int .i64 (u.size : Int)) rfl (by kernel_rfl) (by kernel_rfl) (by kernel_rfl) (fun _ _ _ h => h) (by rfl) (fun w hSw => by (try dsimp only at hSw); go_simp) (by assumption) ?_
              try simp only [Act.put, List.setIfInBounds_toArray, List.set_cons_zero, List.set_cons_succ]
              refine take_yes (i := 18) (oi := { dst := some 98, op := Op.fieldAddr 33 (Operand.tmp 3) 3, type := 0, pos := "laws.go:489", after := #[{ on := 14, ground := Ground.guard }], guard := some (14, false) }) (v := .pointer (some ⟨g3, 3, none⟩)) rfl (by kernel_rfl) (by kernel_rfl) (by kernel_rfl) (fun _ _ _ h => h) (by rfl) (fun w hSw => by (try dsimp only at hSw); go_simp) (by assumption) ?_
              try simp only [Act.put, List.setIfInBounds_toArray, List.set_cons_zero, List.set_cons_succ]
              refine take_yes (i := 19) (oi := { dst := some 99, op := Op.load 3 (Operand.tmp 98), type := 3, pos := "laws.go:489", after := #[{ on := 18, ground := Ground.data }, { on := 14, ground := Ground.guard }], guard := some (14, false) }) (v := .int .i64 r) rfl (by kernel_rfl) (by kernel_rfl) (by kernel_rfl) (fun _ _ _ h => h) (by rfl) (fun w hSw => by (try dsimp only at hSw); go_simp) (by assumption) ?_
              try simp only [Act.put, List.setIfInBounds_toArray, List.set_cons_zero, List.set_cons_succ]
              refine take_yes (i := 20) (oi := { dst := some 100, op := Op.binOp BinOp.eql 3 (Operand.tmp 97) (Operand.tmp 99) 3, type := 4, pos := "laws.go:489", after := #[{ on := 17, ground := Ground.data }, { on := 19, ground := Ground.data }, { on := 14, ground := Ground.guard }], guard := some (14, false) }) (v := .bool true) rfl (by kernel_rfl) (by kernel_rfl) (by kernel_rfl) (fun _ _ _ h => h) (by rfl) (fun w hSw => by (try dsimp only at hSw); go_simp) (by assumption) ?_
              try simp only [Act.put, List.setIfInBounds_toArray, List.set_cons_zero, List.set_cons_succ]
              refine take_yes (i := 21) (oi := { dst := some 101, op := Op.pick (Operand.tmp 94) (Operand.const (Value.bool true)) (Operand.tmp 100), type := 4, pos := "laws.go:489", after := #[{ on := 14, ground := Ground.data }, { on := 20, ground := Ground.data }, { on := 9, ground := Ground.guard }], guard := some (9, true) }) (v := .bool true) rfl (by kernel_rfl) (by kernel_rfl) (by kernel_rfl) (fun _ _ _ h => h) (by rfl) (fun w hSw => by (try dsimp only at hSw); go_simp) (by assumption) ?_
              try simp only [Act.put, List.setIfInBounds_toArray, List.set_cons_zero, List.set_cons_succ]
              refine take_yes (i := 22) (oi := { dst := some 102, op := Op.pick (Operand.tmp 89) (Operand.tmp 101) (Operand.const (Value.bool false)), type := 4, pos := "laws.go:489", after := #[{ on := 9, ground := Ground.data }, { on := 21, ground := Ground.data }], guard := none }) (v := .bool true) rfl (by kernel_rfl) (by kernel_rfl) (by kernel_rfl) (fun _ _ _ h => h) (by rfl) (fun w hSw => by (try dsimp only at hSw); go_simp) (by assumption) ?_
              try simp only [Act.put, List.setIfInBounds_toArray, List.set_cons_zero, List.set_cons_succ]
              refine take_yes (i := 23) (oi := { dst := some 103, op := Op.move (Operand.tmp 102), type := 4, pos := "laws.go:489", after := #[{ on := 22, ground := Ground.data }, { on := 14, ground := Ground.chain }], guard := none }) (v := .bool true) rfl (by kernel_rfl) (by kernel_rfl) (by kernel_rfl) (fun _ _ _ h => h) (by rfl) (fun w hSw => by (try dsimp only at hSw); go_simp) (by assumption) ?_
              try simp only [Act.put, List.setIfInBounds_toArray, List.set_cons_zero, List.set_cons_succ]
              refine take_yes (i := 24) (oi := { dst := some 104, op := Op.move (Operand.tmp 7), type := 9, pos := "laws.go:489", after := #[{ on := 23, ground := Ground.guard }], guard := some (23, true) }) (v := .string u) rfl (by kernel_rfl) (by kernel_rfl) (by kernel_rfl) (fun _ _ _ h => h) (by rfl) (fun w hSw => by (try dsimp only at hSw); go_simp) (by assumption) ?_
              try simp only [Act.put, List.setIfInBounds_toArray, List.set_cons_zero, List.set_cons_succ]
              refine take_yes (i := 25) (oi := { dst := some 105, op := Op.fieldAddr 33 (Operand.tmp 5) 0, type := 0, pos := "laws.go:489", after := #[{ on := 23, ground := Ground.guard }], guard := some (23, true) }) (v := .pointer (some ⟨g5, 0, none⟩)) rfl (by kernel_rfl) (by kernel_rfl) (by kernel_rfl) (fun _ _ _ h => h) (by rfl) (fun w hSw => by (try dsimp only at hSw); go_simp) (by assumption) ?_
              try simp only [Act.put, List.setIfInBounds_toArray, List.set_cons_zero, List.set_cons_succ]
              refine take_yes (i := 26) (oi := { dst := some 106, op := Op.load 9 (Operand.tmp 105), type := 9, pos := "laws.go:489", after := #[{ on := 25, ground := Ground.data }, { on := 23, ground := Ground.guard }], guard := some (23, true) }) (v := .string u) rfl (by kernel_rfl) (by kernel_rfl) (by kernel_rfl) (fun _ _ _ h => h) (by rfl) (fun w hSw => by (try dsimp only at hSw); go_simp) (by assumption) ?_
              try simp only [Act.put, List.setIfInBounds_toArray, List.set_cons_zero, List.set_cons_succ]
              refine take_yes (i := 27) (oi := { dst := some 107, op := Op.binOp BinOp.eql 9 (Operand.tmp 104) (Operand.tmp 106) 9, type := 4, pos := "laws.go:489", after := #[{ on := 24, ground := Ground.data }, { on := 26, ground := Ground.data }, { on := 23, ground := Ground.guard }], guard := some (23, true) }) (v := .bool true) rfl (by kernel_rfl) (by kernel_rfl) (by kernel_rfl) (fun _ _ _ h => h) (by rfl) (fun w hSw => by (try dsimp only at hSw); go_simp) (by assumption) ?_
              try simp only [Act.put, List.setIfInBounds_toArray, List.set_cons_zero, List.set_cons_succ]
              refine take_yes (i := 28) (oi := { dst := some 108, op := Op.pick (Operand.tmp 103) (Operand.tmp 107) (Operand.const (Value.bool false)), type := 4, pos := "laws.go:489", after := #[{ on := 23, ground := Ground.data }, { on := 27, ground := Ground.data }], guard := none }) (v := .bool true) rfl (by kernel_rfl) (by kernel_rfl) (by kernel_rfl) (fun _ _ _ h => h) (by rfl) (fun w hSw => by (try dsimp only at hSw); go_simp) (by assumption) ?_
              try simp only [Act.put, List.setIfInBounds_toArray, List.set_cons_zero, List.set_cons_succ]
              refine take_yes (i := 29) (oi := { dst := some 109, op := Op.move (Operand.tmp 108), type := 4, pos := "laws.go:489", after := #[{ on := 28, ground := Ground.data }, { on := 23, ground := Ground.chain }], guard := none }) (v := .bool true) rfl (by kernel_rfl) (by kernel_rfl) (by kernel_rfl) (fun _ _ _ h => h) (by rfl) (fun w hSw => by (try dsimp only at hSw); go_simp) (by assumption) ?_
              try simp only [Act.put, List.setIfInBounds_toArray, List.set_cons_zero, List.set_cons_succ]
              refine take_yes (i := 30) (oi := { dst := some 110, op := Op.fieldAddr 33 (Operand.tmp 8) 2, type := 0, pos := "laws.go:489", after := #[{ on := 29, ground := Ground.guard }], guard := some (29, true) }) (v := .pointer (some ⟨g8, 2, none⟩)) rfl (by kernel_rfl) (by kernel_rfl) (by kernel_rfl) (fun _ _ _ h => h) (by rfl) (fun w hSw => by (try dsimp only at hSw); go_simp) (by assumption) ?_
              try simp only [Act.put, List.setIfInBounds_toArray, List.set_cons_zero, List.set_cons_succ]
              refine take_yes (i := 31) (oi := { dst := some 111, op := Op.load 3 (Operand.tmp 110), type := 3, pos := "laws.go:489", after := #[{ on := 30, ground := Ground.data }, { on := 29, ground := Ground.guard }], guard := some (29, true) }) (v := .int .i64 cb) rfl (by kernel_rfl) (by kernel_rfl) (by kernel_rfl) (fun _ _ _ h => h) (by rfl) (fun w hSw => by (try dsimp only at hSw); go_simp) (by assumption) ?_
              try simp only [Act.put, List.setIfInBounds_toArray, List.set_cons_zero, List.set_cons_succ]
              refine take_yes (i := 32) (oi := { dst := some 112, op := Op.fieldAddr 33 (Operand.tmp 5) 1, type := 0, pos := "laws.go:489", after := #[{ on := 29, ground := Ground.guard }], guard := some (29, true) }) (v := .pointer (some ⟨g5, 1, none⟩)) rfl (by kernel_rfl) (by kernel_rfl) (by kernel_rfl) (fun _ _ _ h => h) (by rfl) (fun w hSw => by (try dsimp only at hSw); go_simp) (by assumption) ?_
              try simp only [Act.put, List.setIfInBounds_toArray, List.set_cons_zero, List.set_cons_succ]
              refine take_yes (i := 33) (oi := { dst := some 113, op := Op.load 3 (Operand.tmp 112), type := 3, pos := "laws.go:489", after := #[{ on := 32, ground := Ground.data }, { on := 29, ground := Ground.guard }], guard := some (29, true) }) (v := .int .i64 b) rfl (by kernel_rfl) (by kernel_rfl) (by kernel_rfl) (fun _ _ _ h => h) (by rfl) (fun w hSw => by (try dsimp only at hSw); go_simp) (by assumption) ?_
              try simp only [Act.put, List.setIfInBounds_toArray, List.set_cons_zero, List.set_cons_succ]
              refine take_yes (i := 34) (oi := { dst := some 114, op := Op.fieldAddr 33 (Operand.tmp 5) 0, type := 0, pos := "laws.go:489", after := #[{ on := 29, ground := Ground.guard }], guard := some (29, true) }) (v := .pointer (some ⟨g5, 0, none⟩)) rfl (by kernel_rfl) (by kernel_rfl) (by kernel_rfl) (fun _ _ _ h => h) (by rfl) (fun w hSw => by (try dsimp only at hSw); go_simp) (by assumption) ?_
              try simp only [Act.put, List.setIfInBounds_toArray, List.set_cons_zero, List.set_cons_succ]
              refine take_yes (i := 35) (oi := { dst := some 115, op := Op.load 9 (Operand.tmp 114), type := 9, pos := "laws.go:489", after := #[{ on := 34, ground := Ground.data }, { on := 29, ground := Ground.guard }], guard := some (29, true) }) (v := .string u) rfl (by kernel_rfl) (by kernel_rfl) (by kernel_rfl) (fun _ _ _ h => h) (by rfl) (fun w hSw => by (try dsimp only at hSw); go_simp) (by assumption) ?_
              try simp only [Act.put, List.setIfInBounds_toArray, List.set_cons_zero, List.set_cons_succ]
              refine take_yes (i := 36) (oi := { dst := some 116, op := Op.call { callee := Callee.builtin Builtin.len, args := #[Operand.tmp 115], argTypes := #[9] }, type := 3, pos := "laws.go:489", after := #[{ on := 35, ground := Ground.data }, { on := 29, ground := Ground.guard }], guard := some (29, true) }) (v := .int .i64 (u.size : Int)) rfl (by kernel_rfl) (by kernel_rfl) (by kernel_rfl) (fun _ _ _ h => h) (by rfl) (fun w hSw => by (try dsimp only at hSw); go_simp) (by assumption) ?_
              try simp only [Act.put, List.setIfInBounds_toArray, List.set_cons_zero, List.set_cons_succ]
              refine take_yes (i := 37) (oi := { dst := some 117, op := Op.binOp BinOp.add 3 (Operand.tmp 113) (Operand.tmp 116) 3, type := 3, pos := "laws.go:489", after := #[{ on := 33, ground := Ground.data }, { on := 36, ground := Ground.data }, { on := 29, ground := Ground.guard }], guard := some (29, true) }) (v := .int .i64 cb) rfl (by kernel_rfl) (by kernel_rfl) (by kernel_rfl) (fun _ _ _ h => h) (by rfl) (fun w hSw => by (try dsimp only at hSw); go_simp) (by assumption) ?_
              try simp only [Act.put, List.setIfInBounds_toArray, List.set_cons_zero, List.set_cons_succ]
              refine take_yes (i := 38) (oi := { dst := some 118, op := Op.binOp BinOp.eql 3 (Operand.tmp 111) (Operand.tmp 117) 3, type := 4, pos := "laws.go:489", after := #[{ on := 31, ground := Ground.data }, { on := 37, ground := Ground.data }, { on := 29, ground := Ground.guard }], guard := some (29, true) }) (v := .bool true) rfl (by kernel_rfl) (by kernel_rfl) (by kernel_rfl) (fun _ _ _ h => h) (by rfl) (fun w hSw => by (try dsimp only at hSw); go_simp) (by assumption) ?_
              try simp only [Act.put, List.setIfInBounds_toArray, List.set_cons_zero, List.set_cons_succ]
              refine take_yes (i := 39) (oi := { dst := some 119, op := Op.pick (Operand.tmp 109) (Operand.tmp 118) (Operand.const (Value.bool false)), type := 4, pos := "laws.go:489", after := #[{ on := 29, ground := Ground.data }, { on := 38, ground := Ground.data }], guard := none }) (v := .bool true) rfl (by kernel_rfl) (by kernel_rfl) (by kernel_rfl) (fun _ _ _ h => h) (by rfl) (fun w hSw => by (try dsimp only at hSw); go_simp) (by assumption) ?_
              try simp only [Act.put, List.setIfInBounds_toArray, List.set_cons_zero, List.set_cons_succ]
              refine take_yes (i := 40) (oi := { dst := some 120, op := Op.move (Operand.tmp 119), type := 4, pos := "laws.go:489", after := #[{ on := 39, ground := Ground.data }, { on := 29, ground := Ground.chain }], guard := none }) (v := .bool true) rfl (by kernel_rfl) (by kernel_rfl) (by kernel_rfl) (fun _ _ _ h => h) (by rfl) (fun w hSw => by (try dsimp only at hSw); go_simp) (by assumption) ?_
              try simp only [Act.put, List.setIfInBounds_toArray, List.set_cons_zero, List.set_cons_succ]
              refine take_yes (i := 41) (oi := { dst := some 121, op := Op.fieldAddr 33 (Operand.tmp 5) 0, type := 0, pos := "laws.go:489", after := #[{ on := 40, ground := Ground.guard }], guard := some (40, true) }) (v := .pointer (some ⟨g5, 0, none⟩)) rfl (by kernel_rfl) (by kernel_rfl) (by kernel_rfl) (fun _ _ _ h => h) (by rfl) (fun w hSw => by (try dsimp only at hSw); go_simp) (by assumption) ?_
              try simp only [Act.put, List.setIfInBounds_toArray, List.set_cons_zero, List.set_cons_succ]
              refine take_yes (i := 42) (oi := { dst := some 122, op := Op.load 9 (Operand.tmp 121), type := 9, pos := "laws.go:489", after := #[{ on := 41, ground := Ground.data }, { on := 40, ground := Ground.guard }], guard := some (40, true) }) (v := .string u) rfl (by kernel_rfl) (by kernel_rfl) (by kernel_rfl) (fun _ _ _ h => h) (by rfl) (fun w hSw => by (try dsimp only at hSw); go_simp) (by assumption) ?_
              try simp only [Act.put, List.setIfInBounds_toArray, List.set_cons_zero, List.set_cons_succ]
              refine take_yes (i := 43) (oi := { dst := some 123, op := Op.call { callee := Callee.builtin Builtin.len, args := #[Operand.tmp 122], argTypes := #[9] }, type := 3, pos := "laws.go:489", after := #[{ on := 42, ground := Ground.data }, { on := 40, ground := Ground.guard }], guard := some (40, true) }) (v := .int .i64 (u.size : Int)) rfl (by kernel_rfl) (by kernel_rfl) (by kernel_rfl) (fun _ _ _ h => h) (by rfl) (fun w hSw => by (try dsimp only at hSw); go_simp) (by assumption) ?_
              try simp only [Act.put, List.setIfInBounds_toArray, List.set_cons_zero, List.set_cons_succ]
              refine take_yes (i := 44) (oi := { dst := some 124, op := Op.binOp BinOp.eql 3 (Operand.tmp 123) (Operand.const (Value.int IntKind.i64 0)) 3, type := 4, pos := "laws.go:489", after := #[{ on := 43, ground := Ground.data }, { on := 40, ground := Ground.guard }], guard := some (40, true) }) (v := .bool false) rfl (by kernel_rfl) (by kernel_rfl) (by kernel_rfl) (fun _ _ _ h => h) (by rfl) (fun w hSw => by (try dsimp only at hSw); go_simp) (by assumption) ?_
              try simp only [Act.put, List.setIfInBounds_toArray, List.set_cons_zero, List.set_cons_succ]
              refine take_yes (i := 45) (oi := { dst := some 125, op := Op.move (Operand.tmp 124), type := 4, pos := "laws.go:489", after := #[{ on := 44, ground := Ground.data }, { on := 40, ground := Ground.chain }, { on := 40, ground := Ground.guard }], guard := some (40, true) }) (v := .bool false) rfl (by kernel_rfl) (by kernel_rfl) (by kernel_rfl) (fun _ _ _ h => h) (by rfl) (fun w hSw => by (try dsimp only at hSw); go_simp) (by assumption) ?_
              try simp only [Act.put, List.setIfInBounds_toArray, List.set_cons_zero, List.set_cons_succ]
              refine take_yes (i := 46) (oi := { dst := some 126, op := Op.fieldAddr 33 (Operand.tmp 12) 0, type := 0, pos := "laws.go:489", after := #[{ on := 45, ground := Ground.guard }], guard := some (45, false) }) (v := .pointer (some ⟨g12, 0, none⟩)) rfl (by kernel_rfl) (by kernel_rfl) (by kernel_rfl) (fun _ _ _ h => h) (by rfl) (fun w hSw => by (try dsimp only at hSw); go_simp) (by assumption) ?_
              try simp only [Act.put, List.setIfInBounds_toArray, List.set_cons_zero, List.set_cons_succ]
              refine take_yes (i := 47) (oi := { dst := some 127, op := Op.load 9 (Operand.tmp 126), type := 9, pos := "laws.go:489", after := #[{ on := 46, ground := Ground.data }, { on := 45, ground := Ground.guard }], guard := some (45, false) }) (v := .string ⟨#[]⟩) rfl (by kernel_rfl) (by kernel_rfl) (by kernel_rfl) (fun _ _ _ h => h) (by rfl) (fun w hSw => by (try dsimp only at hSw); go_simp) (by assumption) ?_
              try simp only [Act.put, List.setIfInBounds_toArray, List.set_cons_zero, List.set_cons_succ]
              refine take_yes (i := 48) (oi := { dst := some 128, op := Op.binOp BinOp.eql 9 (Operand.tmp 127) (Operand.const (Value.string { data := #[] })) 9, type := 4, pos := "laws.go:489", after := #[{ on := 47, ground := Ground.data }, { on := 45, ground := Ground.guard }], guard := some (45, false) }) (v := .bool true) rfl (by kernel_rfl) (by kernel_rfl) (by kernel_rfl) (fun _ _ _ h => h) (by rfl) (fun w hSw => by (try dsimp only at hSw); go_simp) (by assumption) ?_
              try simp only [Act.put, List.setIfInBounds_toArray, List.set_cons_zero, List.set_cons_succ]
              refine take_yes (i := 49) (oi := { dst := some 129, op := Op.move (Operand.tmp 128), type := 4, pos := "laws.go:489", after := #[{ on := 48, ground := Ground.data }, { on := 45, ground := Ground.chain }, { on := 45, ground := Ground.guard }], guard := some (45, false) }) (v := .bool true) rfl (by kernel_rfl) (by kernel_rfl) (by kernel_rfl) (fun _ _ _ h => h) (by rfl) (fun w hSw => by (try dsimp only at hSw); go_simp) (by assumption) ?_
              try simp only [Act.put, List.setIfInBounds_toArray, List.set_cons_zero, List.set_cons_succ]
              refine take_yes (i := 50) (oi := { dst := some 130, op := Op.fieldAddr 33 (Operand.tmp 12) 1, type := 0, pos := "laws.go:489", after := #[{ on := 49, ground := Ground.guard }], guard := some (49, true) }) (v := .pointer (some ⟨g12, 1, none⟩)) rfl (by kernel_rfl) (by kernel_rfl) (by kernel_rfl) (fun _ _ _ h => h) (by rfl) (fun w hSw => by (try dsimp only at hSw); go_simp) (by assumption) ?_
              try simp only [Act.put, List.setIfInBounds_toArray, List.set_cons_zero, List.set_cons_succ]
              refine take_yes (i := 51) (oi := { dst := some 131, op := Op.load 3 (Operand.tmp 130), type := 3, pos := "laws.go:489", after := #[{ on := 50, ground := Ground.data }, { on := 49, ground := Ground.guard }], guard := some (49, true) }) (v := .int .i64 cb) rfl (by kernel_rfl) (by kernel_rfl) (by kernel_rfl) (fun _ _ _ h => h) (by rfl) (fun w hSw => by (try dsimp only at hSw); go_simp) (by assumption) ?_
              try simp only [Act.put, List.setIfInBounds_toArray, List.set_cons_zero, List.set_cons_succ]
              refine take_yes (i := 52) (oi := { dst := some 132, op := Op.fieldAddr 33 (Operand.tmp 8) 2, type := 0, pos := "laws.go:489", after := #[{ on := 49, ground := Ground.guard }], guard := some (49, true) }) (v := .pointer (some ⟨g8, 2, none⟩)) rfl (by kernel_rfl) (by kernel_rfl) (by kernel_rfl) (fun _ _ _ h => h) (by rfl) (fun w hSw => by (try dsimp only at hSw); go_simp) (by assumption) ?_
              try simp only [Act.put, List.setIfInBounds_toArray, List.set_cons_zero, List.set_cons_succ]
              refine take_yes (i := 53) (oi := { dst := some 133, op := Op.load 3 (Operand.tmp 132), type := 3, pos := "laws.go:489", after := #[{ on := 52, ground := Ground.data }, { on := 49, ground := Ground.guard }], guard := some (49, true) }) (v := .int .i64 cb) rfl (by kernel_rfl) (by kernel_rfl) (by kernel_rfl) (fun _ _ _ h => h) (by rfl) (fun w hSw => by (try dsimp only at hSw); go_simp) (by assumption) ?_
              try simp only [Act.put, List.setIfInBounds_toArray, List.set_cons_zero, List.set_cons_succ]
              refine take_yes (i := 54) (oi := { dst := some 134, op := Op.binOp BinOp.eql 3 (Operand.tmp 131) (Operand.tmp 133) 3, type := 4, pos := "laws.go:489", after := #[{ on := 51, ground := Ground.data }, { on := 53, ground := Ground.data }, { on := 49, ground := Ground.guard }], guard := some (49, true) }) (v := .bool true) rfl (by kernel_rfl) (by kernel_rfl) (by kernel_rfl) (fun _ _ _ h => h) (by rfl) (fun w hSw => by (try dsimp only at hSw); go_simp) (by assumption) ?_
              try simp only [Act.put, List.setIfInBounds_toArray, List.set_cons_zero, List.set_cons_succ]
              refine take_yes (i := 55) (oi := { dst := some 135, op := Op.pick (Operand.tmp 129) (Operand.tmp 134) (Operand.const (Value.bool false)), type := 4, pos := "laws.go:489", after := #[{ on := 49, ground := Ground.data }, { on := 54, ground := Ground.data }, { on := 45, ground := Ground.guard }], guard := some (45, false) }) (v := .bool true) rfl (by kernel_rfl) (by kernel_rfl) (by kernel_rfl) (fun _ _ _ h => h) (by rfl) (fun w hSw => by (try dsimp only at hSw); go_simp) (by assumption) ?_
              try simp only [Act.put, List.setIfInBounds_toArray, List.set_cons_zero, List.set_cons_succ]
              refine take_yes (i := 56) (oi := { dst := some 136, op := Op.pick (Operand.tmp 125) (Operand.const (Value.bool true)) (Operand.tmp 135), type := 4, pos := "laws.go:489", after := #[{ on := 45, ground := Ground.data }, { on := 55, ground := Ground.data }, { on := 40, ground := Ground.guard }], guard := some (40, true) }) (v := .bool true) rfl (by kernel_rfl) (by kernel_rfl) (by kernel_rfl) (fun _ _ _ h => h) (by rfl) (fun w hSw => by (try dsimp only at hSw); go_simp) (by assumption) ?_
              try simp only [Act.put, List.setIfInBounds_toArray, List.set_cons_zero, List.set_cons_succ]
              refine take_yes (i := 57) (oi := { dst := some 137, op := Op.pick (Operand.tmp 120) (Operand.tmp 136) (Operand.const (Value.bool false)), type := 4, pos := "laws.go:489", after := #[{ on := 40, ground := Ground.data }, { on := 56, ground := Ground.data }], guard := none }) (v := .bool true) rfl (by kernel_rfl) (by kernel_rfl) (by kernel_rfl) (fun _ _ _ h => h) (by rfl) (fun w hSw => by (try dsimp only at hSw); go_simp) (by assumption) ?_
              try simp only [Act.put, List.setIfInBounds_toArray, List.set_cons_zero, List.set_cons_succ]
              refine take_yes (i := 58) (oi := { dst := some 138, op := Op.move (Operand.tmp 137), type := 4, pos := "laws.go:489", after := #[{ on := 57, ground := Ground.data }, { on := 49, ground := Ground.chain }], guard := none }) (v := .bool true) rfl (by kernel_rfl) (by kernel_rfl) (by kernel_rfl) (fun _ _ _ h => h) (by rfl) (fun w hSw => by (try dsimp only at hSw); go_simp) (by assumption) ?_
              try simp only [Act.put, List.setIfInBounds_toArray, List.set_cons_zero, List.set_cons_succ]
              refine take_yes (i := 59) (oi := { dst := some 139, op := Op.load 33 (Operand.tmp 12), type := 33, pos := "laws.go:489", after := #[{ on := 58, ground := Ground.guard }], guard := some (58, true) }) (v := .agg #[.string ⟨#[]⟩, .int .i64 cb, .int .i64 cs, .int .i64 cr]) rfl (by kernel_rfl) (by kernel_rfl) (by kernel_rfl) (fun _ _ _ h => h) (by rfl) (fun w hSw => by (try dsimp only at hSw); go_simp) (by assumption) ?_
              try simp only [Act.put, List.setIfInBounds_toArray, List.set_cons_zero, List.set_cons_succ]
              refine wpAnyH_ready (rs := [60]) (by kernel_rfl) (by simp) ?_
              refine AllReadyH.cons (o := { dst := some 140, op := Op.call { callee := Callee.value (Operand.func 25), args := #[Operand.tmp 139], argTypes := #[33] }, type := 4, pos := "laws.go:489", after := #[{ on := 59, ground := Ground.data }, { on := 58, ground := Ground.chain }, { on := 58, ground := Ground.guard }], guard := some (58, true) }) rfl (fun K hK => ?_) AllReadyH.nil
              go_simp
              with_reducible refine (cO _).mono ?_
              rintro e wZ ⟨rfl, hbZ⟩
              have KZ := Lib.hid (KE.out.1.kept hbZ)
              have e1 := KZ.out.cells12 (KE.out.2.kept hbZ)
              clear hbZ KE cO
              refine hK.out _ _ e1 (fun hHeldN => ?_)
              clear hK K hHeld
              have hHeld := hHeldN
              clear hHeldN
              try simp only [Act.put, List.setIfInBounds_toArray, List.set_cons_zero, List.set_cons_succ]
              refine take_yes (i := 61) (oi := { dst := some 141, op := Op.pick (Operand.tmp 138) (Operand.tmp 140) (Operand.const (Value.bool false)), type := 4, pos := "laws.go:489", after := #[{ on := 58, ground := Ground.data }, { on := 60, ground := Ground.data }], guard := none }) (v := .bool true) rfl (by kernel_rfl) (by kernel_rfl) (by kernel_rfl) (fun _ _ _ h => h) (by rfl) (fun w hSw => by (try dsimp only at hSw); go_simp) (by assumption) ?_
              try simp only [Act.put, List.setIfInBounds_toArray, List.set_cons_zero, List.set_cons_succ]
              refine take_yes (i := 62) (oi := { dst := some 2, op := Op.assign (Operand.tmp 141), type := 4, pos := "laws.go:489", after := #[{ on := 61, ground := Ground.data }, { on := 60, ground := Ground.chain }, { on := 0, ground := Ground.phase }, { on := 1, ground := Ground.phase }, { on := 2, ground := Ground.phase }, { on := 3, ground := Ground.phase }, { on := 4, ground := Ground.phase }, { on := 5, ground := Ground.phase }, { on := 6, ground := Ground.phase }, { on := 7, ground := Ground.phase }, { on := 8, ground := Ground.phase }, { on := 9, ground := Ground.phase }, { on := 10, ground := Ground.phase }, { on := 11, ground := Ground.phase }, { on := 12, ground := Ground.phase }, { on := 13, ground := Ground.phase }, { on := 14, ground := Ground.phase }, { on := 15, ground := Ground.phase }, { on := 16, ground := Ground.phase }, { on := 17, ground := Ground.phase }, { on := 18, ground := Ground.phase }, { on := 19, ground := Ground.phase }, { on := 20, ground := Ground.phase }, { on := 21, ground := Ground.phase }, { on := 22, ground := Ground.phase }, { on := 23, ground := Ground.phase }, { on := 24, ground := Ground.phase }, { on := 25, ground := Ground.phase }, { on := 26, ground := Ground.phase }, { on := 27, ground := Ground.phase }, { on := 28, ground := Ground.phase }, { on := 29, ground := Ground.phase }, { on := 30, ground := Ground.phase }, { on := 31, ground := Ground.phase }, { on := 32, ground := Ground.phase }, { on := 33, ground := Ground.phase }, { on := 34, ground := Ground.phase }, { on := 35, ground := Ground.phase }, { on := 36, ground := Ground.phase }, { on := 37, ground := Ground.phase }, { on := 38, ground := Ground.phase }, { on := 39, ground := Ground.phase }, { on := 40, ground := Ground.phase }, { on := 41, ground := Ground.phase }, { on := 42, ground := Ground.phase }, { on := 43, ground := Ground.phase }, { on := 44, ground := Ground.phase }, { on := 45, ground := Ground.phase }, { on := 46, ground := Ground.phase }, { on := 47, ground := Ground.phase }, { on := 48, ground := Ground.phase }, { on := 49, ground := Ground.phase }, { on := 50, ground := Ground.phase }, { on := 51, ground := Ground.phase }, { on := 52, ground := Ground.phase }, { on := 53, ground := Ground.phase }, { on := 54, ground := Ground.phase }, { on := 55, ground := Ground.phase }, { on := 56, ground := Ground.phase }, { on := 57, ground := Ground.phase }, { on := 58, ground := Ground.phase }, { on := 59, ground := Ground.phase }, { on := 60, ground := Ground.phase }, { on := 61, ground := Ground.phase }], guard := none }) (v := .bool true) rfl (by kernel_rfl) (by kernel_rfl) (by kernel_rfl) (fun _ _ _ h => h) (by rfl) (fun w hSw => by (try dsimp only at hSw); go_simp) (by assumption) ?_
              try simp only [Act.put, List.setIfInBounds_toArray, List.set_cons_zero, List.set_cons_succ]
              refine wpAnyH_done (by kernel_rfl) ?_ _
              clear hHeld
              clear e0 e1
              go_wp2_with (fail)
              go_ret
              exact ⟨rfl, KZ.out.bl⟩
    · rw [decide_eq_false hok] at cS
      rw [acc_none _ x hok] at cA
      simp only at cA
      have hq := fun W => eql_out ⟨t, b, s, r⟩ ⟨t, b, s, r⟩ W true (by simp)
      simp only at hq
      clear hok hbb ht hx
      obtain ⟨a0, a1, a2, a3⟩ := cel4 K1.out.2.1
      go_wp2_with (fail)
      with_reducible refine (cA _).mono ?_
      rintro e w3 ⟨rfl, hb3⟩
      have hB3 := Below.then_ K1.out.1 hb3
      have hC3 := K1.out.2.1.kept hb3
      have hbn := below_new w3 (.cells #[.string t, .int .i64 b, .int .i64 s, .int .i64 r] 33)
      have K4 := Lib.hid (And.intro (Below.then_ hB3 hbn) (And.intro (hC3.kept hbn) (Cel.new w3 33 #[.string t, .int .i64 b, .int .i64 s, .int .i64 r])))
      clear K1 cA hb3 hB3 hC3 hbn a0 a1 a2 a3
      go_upto_region 5 with (fail)
      obtain ⟨g5, hg⟩ : ∃ g5, w3.heap.size = g5 := ⟨_, rfl⟩
      rw [hg] at K4 ⊢
      generalize w3.alloc (.cells #[.string t, .int .i64 b, .int .i64 s, .int .i64 r] 33) = w4 at *
      clear hg
      obtain ⟨a0, a1, a2, a3⟩ := cel4 K4.out.2.1
      go_wp2_with (fail)
      with_reducible refine (cS _).mono ?_
      rintro e w5 ⟨rfl, hb5⟩
      have K5 := Lib.hid (And.intro (Below.then_ K4.out.1 hb5) (And.intro (K4.out.2.1.kept hb5) (K4.out.2.2.kept hb5)))
      clear K4 cS hb5 a0 a1 a2 a3
      obtain ⟨a0, a1, a2, a3⟩ := cel4 K5.out.2.1
      obtain ⟨d0, d1, d2, d3⟩ := cel4 K5.out.2.2
      have HB := Lib.hid K5.out.1
      clear K5
      go_wp2_with (fail)
      go_ret
      exact ⟨rfl, HB.out⟩
end Go.Proofs.Ytdajfnonehianaa
