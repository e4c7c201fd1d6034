import Derived.Test.YtoeflkmhofkiaaaLsp
import Derived.Test.YtoeflkmhofkiaaaLar
import Derived.Test.YtoeflkmhofkiaaaTyn
namespace Go.Proofs.Ytoeflkmhofkiaaa
open Go.RowKit
set_option maxRecDepth 100000

/-- A message's size within what is left. -/
theorem sz_letter (m : Lv) (left : Int) (w : World) (hs : m.text.size ≤ 9223372036854775807) (h0 : 0 ≤ left) (h1 : left ≤ 1048576) :
    Calls Try.prog 34 #[.agg (lvC m), .int .i64 left] w fun e w' => e = .returned (.int .i64 (if left - (m.text.size : Int) < 0 then -1 else left - (m.text.size : Int))) ∧ Below w.heap.size w w' := by
  rw [lvC_eq]
  have hb := below_new w (.cells #[.int .i64 m.kind, .int .i64 m.frm, .int .i64 m.to, .int .i64 m.port, .int .i64 m.key, .int .i64 m.token, .int .i64 m.nonce, .int .i64 m.give, .int .i64 m.sign, .int .i64 m.tag.kind, .int .i64 m.tag.one, .int .i64 m.tag.two, .int .i64 m.tag.a, .int .i64 m.tag.b, .int .i64 m.id, .int .i64 m.addr, .bool m.spare, .int .i64 m.pos, .string m.text] 61)
  have k14 : (w.alloc (.cells #[.int .i64 m.kind, .int .i64 m.frm, .int .i64 m.to, .int .i64 m.port, .int .i64 m.key, .int .i64 m.token, .int .i64 m.nonce, .int .i64 m.give, .int .i64 m.sign, .int .i64 m.tag.kind, .int .i64 m.tag.one, .int .i64 m.tag.two, .int .i64 m.tag.a, .int .i64 m.tag.b, .int .i64 m.id, .int .i64 m.addr, .bool m.spare, .int .i64 m.pos, .string m.text] 61)).cell? ⟨w.heap.size, 18, none⟩ = some (.string m.text) := (Cel.new w 61 #[.int .i64 m.kind, .int .i64 m.frm, .int .i64 m.to, .int .i64 m.port, .int .i64 m.key, .int .i64 m.token, .int .i64 m.nonce, .int .i64 m.give, .int .i64 m.sign, .int .i64 m.tag.kind, .int .i64 m.tag.one, .int .i64 m.tag.two, .int .i64 m.tag.a, .int .i64 m.tag.b, .int .i64 m.id, .int .i64 m.addr, .bool m.spare, .int .i64 m.pos, .string m.text]).cell 18
  have HB := Lib.hid hb
  have e1 : IntKind.i64.wrap (left - (m.text.size : Int)) = left - (m.text.size : Int) := IntWalk.i64_in _ (by omega)
  clear hb
  by_cases hl : left - (m.text.size : Int) < 0
  · rw [if_pos hl]
    go_enter Try.func34, Try.ntmps34
    go_wp2_with (fail)
    go_ret
    exact ⟨rfl, HB.out⟩
  · rw [if_neg hl]
    go_enter Try.func34, Try.ntmps34
    go_wp2_with (fail)
    go_ret
    exact ⟨rfl, HB.out⟩

set_option linter.unusedSimpArgs false in
set_option maxRecDepth 100000 in
set_option maxHeartbeats 8000000 in
theorem letterok_law0 (m : Lv) (w : World) (hs : m.text.size ≤ 9223372036854775807) (cI : ∀ W, Calls Try.prog 24 #[.agg (lvC m)] W fun e w' => e = .returned (.bool (okL m)) ∧ Below W.heap.size W w') :
    Calls Try.prog 7 #[.agg (lvC m)] w fun e w' => e = .returned (.bool true) ∧ Below w.heap.size w w' := by
  have hb0 := below_new w (.cells (lvC m) 61)
  have hC : (w.alloc (.cells (lvC m) 61)).heap[w.heap.size]? = some (.cells (lvC m) 61 (0, 0)) := Cel.new w 61 (lvC m)
  have hszL : (Try.prog.info? 61).map (·.size) = some (lvC m).size := by rw [lvC_eq]; show _ = some 19; kernel_rfl
  obtain ⟨W0, hW0⟩ : ∃ W0, w.alloc (.cells (lvC m) 61) = W0 := ⟨_, rfl⟩
  rw [hW0] at hb0 hC
  have HW := Lib.hid hW0
  have HD := Lib.hid (show ∀ W, Below W0.heap.size W0 W → Below w.heap.size w W ∧ W.heap[w.heap.size]? = some (.cells (lvC m) 61 (0, 0)) from fun W h => ⟨Below.then_ hb0 h, Cel.kept (t := 61) hC h⟩)
  clear hb0 hC hW0
  have cZ := fun W => sz_letter m 1048576 W hs (by omega) (by omega)
  have cL := fun W => to_letter m W
  rw [← lvC_eq] at cL
  obtain ⟨r9, hr9⟩ : ∃ r9 : Int, (if (1048576 : Int) - (m.text.size : Int) < 0 then -1 else (1048576 : Int) - (m.text.size : Int)) = r9 := ⟨_, rfl⟩
  rw [hr9] at cZ
  clear hr9
  have cS := fun W => spec_letterOk m W hs
  rw [← lvC_eq] at cS
  generalize okL m = ok at *
  clear hs
  go_enter Try.func7, Try.ntmps7
  go_upto_region 1 with (fail)
  rw [HW.out]
  clear HW
  have HB0 := Lib.hid (Below.refl W0.heap.size W0)
  have hcell := (HD.out _ HB0.out).2
  go_wp2_with (first | (with_reducible refine wpList_load_row rfl 61 _ rfl _ rfl 61 _ (0, 0) _ hcell Try.underlying61 rfl hszL ?_))
  with_reducible refine (cZ _).mono ?_
  rintro e w1 ⟨rfl, b1⟩
  have HB1 := Lib.hid (Below.then_ HB0.out b1)
  clear b1 HB0 cZ hcell
  by_cases q9 : r9 < 0
  · have HE := Lib.hid (HD.out _ HB1.out).1
    clear HD HB1
    go_wp2_with (fail)
    go_ret
    exact ⟨rfl, HE.out⟩
  · have hcell := (HD.out _ HB1.out).2
    go_wp2_with (first | (with_reducible refine wpList_load_row rfl 61 _ rfl _ rfl 61 _ (0, 0) _ hcell Try.underlying61 rfl hszL ?_))
    with_reducible refine (cL _).mono ?_
    rintro e w2 ⟨rfl, b2⟩
    have HB2 := Lib.hid (Below.then_ HB1.out b2)
    clear b2 HB1
    clear hcell
    go_wp2_with (fail)
    with_reducible refine (cS _).mono ?_
    rintro e w3 ⟨rfl, b3⟩
    have HB3 := Lib.hid (Below.then_ HB2.out b3)
    clear b3 HB2
    have hcell := (HD.out _ HB3.out).2
    go_wp2_with (first | (with_reducible refine wpList_load_row rfl 61 _ rfl _ rfl 61 _ (0, 0) _ hcell Try.underlying61 rfl hszL ?_))
    with_reducible refine (cL _).mono ?_
    rintro e w4 ⟨rfl, b4⟩
    have HB4 := Lib.hid (Below.then_ HB3.out b4)
    clear b4 HB3
    clear hcell
    go_wp2_with (fail)
    with_reducible refine (cI _).mono ?_
    rintro e w5 ⟨rfl, b5⟩
    have HB5 := Lib.hid (Below.then_ HB4.out b5)
    clear b5 HB4
    have HE := Lib.hid (HD.out _ HB5.out).1
    clear HD HB5
    go_wp2_with (fail)
    go_ret
    exact ⟨rfl, HE.out⟩

set_option linter.unusedSimpArgs false in
set_option maxRecDepth 100000 in
set_option maxHeartbeats 8000000 in
theorem roadof_law0 (m : Lv) (w : World) (hs : m.text.size ≤ 9223372036854775807) (cI : ∀ W, Calls Try.prog 22 #[.agg (lvC m)] W fun e w' => e = .returned (.agg #[.int .i64 m.to, .int .i64 m.frm, .int .i64 m.port]) ∧ Below W.heap.size W w') :
    Calls Try.prog 8 #[.agg (lvC m)] w fun e w' => e = .returned (.bool true) ∧ Below w.heap.size w w' := by
  have hb0 := below_new w (.cells (lvC m) 61)
  have hC : (w.alloc (.cells (lvC m) 61)).heap[w.heap.size]? = some (.cells (lvC m) 61 (0, 0)) := Cel.new w 61 (lvC m)
  have hszL : (Try.prog.info? 61).map (·.size) = some (lvC m).size := by rw [lvC_eq]; show _ = some 19; kernel_rfl
  obtain ⟨W0, hW0⟩ : ∃ W0, w.alloc (.cells (lvC m) 61) = W0 := ⟨_, rfl⟩
  rw [hW0] at hb0 hC
  have HW := Lib.hid hW0
  have HD := Lib.hid (show ∀ W, Below W0.heap.size W0 W → Below w.heap.size w W ∧ W.heap[w.heap.size]? = some (.cells (lvC m) 61 (0, 0)) from fun W h => ⟨Below.then_ hb0 h, Cel.kept (t := 61) hC h⟩)
  clear hb0 hC hW0
  have cZ := fun W => sz_letter m 1048576 W hs (by omega) (by omega)
  have cL := fun W => to_letter m W
  rw [← lvC_eq] at cL
  obtain ⟨r9, hr9⟩ : ∃ r9 : Int, (if (1048576 : Int) - (m.text.size : Int) < 0 then -1 else (1048576 : Int) - (m.text.size : Int)) = r9 := ⟨_, rfl⟩
  rw [hr9] at cZ
  clear hr9
  have cS := fun W => spec_roadOf m W
  rw [← lvC_eq] at cS
  have cE := fun W => eq_road ⟨m.to, m.frm, m.port⟩ W
  dsimp only at cE
  clear hs
  go_enter Try.func8, Try.ntmps8
  go_upto_region 1 with (fail)
  rw [HW.out]
  clear HW
  have HB0 := Lib.hid (Below.refl W0.heap.size W0)
  have hcell := (HD.out _ HB0.out).2
  go_wp2_with (first | (with_reducible refine wpList_load_row rfl 61 _ rfl _ rfl 61 _ (0, 0) _ hcell Try.underlying61 rfl hszL ?_))
  with_reducible refine (cZ _).mono ?_
  rintro e w1 ⟨rfl, b1⟩
  have HB1 := Lib.hid (Below.then_ HB0.out b1)
  clear b1 HB0 cZ hcell
  by_cases q9 : r9 < 0
  · have HE := Lib.hid (HD.out _ HB1.out).1
    clear HD HB1
    go_wp2_with (fail)
    go_ret
    exact ⟨rfl, HE.out⟩
  · have hcell := (HD.out _ HB1.out).2
    go_wp2_with (first | (with_reducible refine wpList_load_row rfl 61 _ rfl _ rfl 61 _ (0, 0) _ hcell Try.underlying61 rfl hszL ?_))
    with_reducible refine (cL _).mono ?_
    rintro e w2 ⟨rfl, b2⟩
    have HB2 := Lib.hid (Below.then_ HB1.out b2)
    clear b2 HB1
    clear hcell
    go_wp2_with (fail)
    with_reducible refine (cS _).mono ?_
    rintro e w3 ⟨rfl, b3⟩
    have hbx := below_new w3 (.cells #[.int .i64 m.to, .int .i64 m.frm, .int .i64 m.port] 26)
    have HX := Lib.hid (And.intro (Below.then_ (Below.then_ HB2.out b3) hbx) (Cel.new w3 26 #[.int .i64 m.to, .int .i64 m.frm, .int .i64 m.port]))
    clear b3 HB2 hbx
    go_upto_region 6 with (fail)
    generalize w3.alloc (.cells #[.int .i64 m.to, .int .i64 m.frm, .int .i64 m.port] 26) = y3 at *
    generalize w3.heap.size = g3 at *
    have hcell := (HD.out _ HX.out.1).2
    go_wp2_with (first | (with_reducible refine wpList_load_row rfl 61 _ rfl _ rfl 61 _ (0, 0) _ hcell Try.underlying61 rfl hszL ?_))
    with_reducible refine (cL _).mono ?_
    rintro e w4 ⟨rfl, b4⟩
    have HX4 := Lib.hid (And.intro (Below.then_ HX.out.1 b4) (HX.out.2.kept b4))
    clear HX b4 hcell
    go_wp2_with (fail)
    with_reducible refine (cI _).mono ?_
    rintro e w5 ⟨rfl, b5⟩
    have hby := below_new w5 (.cells #[.int .i64 m.to, .int .i64 m.frm, .int .i64 m.port] 26)
    have HX5 := Lib.hid (And.intro (Below.then_ (Below.then_ HX4.out.1 b5) hby) (And.intro ((HX4.out.2.kept b5).kept hby) (Cel.new w5 26 #[.int .i64 m.to, .int .i64 m.frm, .int .i64 m.port])))
    clear b5 HX4 hby
    go_upto_region 7 with (fail)
    generalize w5.alloc (.cells #[.int .i64 m.to, .int .i64 m.frm, .int .i64 m.port] 26) = y5 at *
    generalize w5.heap.size = g5 at *
    obtain ⟨c0, c1, c2⟩ := cel3r HX5.out.2.1
    obtain ⟨d0, d1, d2⟩ := cel3r HX5.out.2.2
    go_wp2_with (fail)
    with_reducible refine (cE _).mono ?_
    rintro e w6 ⟨rfl, b6⟩
    have HE := Lib.hid (HD.out _ (Below.then_ HX5.out.1 b6)).1
    clear HD HX5 b6 c0 c1 c2 d0 d1 d2
    go_wp2_with (fail)
    go_ret
    exact ⟨rfl, HE.out⟩

set_option linter.unusedSimpArgs false in
set_option maxRecDepth 100000 in
set_option maxHeartbeats 8000000 in
theorem onroad_law0 (k : Int) (w : World) (cI : ∀ W, Calls Try.prog 26 #[.int .i64 k] W fun e w' => e = .returned (.bool (inN k 7 13)) ∧ Below W.heap.size W w') :
    Calls Try.prog 9 #[.int .i64 k] w fun e w' => e = .returned (.bool true) ∧ Below w.heap.size w w' := by
  have cS := fun W => spec_onRoad k W
  generalize inN k 7 13 = r at *
  go_enter Try.func9, Try.ntmps9
  go_wp2_with (fail)
  with_reducible refine (cS _).mono ?_
  rintro e w1 ⟨rfl, rfl⟩
  go_wp2_with (fail)
  with_reducible refine (cI _).mono ?_
  rintro e w2 ⟨rfl, b2⟩
  have HE := Lib.hid b2
  clear b2
  go_wp2_with (fail)
  go_ret
  exact ⟨rfl, HE.out⟩
end Go.Proofs.Ytoeflkmhofkiaaa
