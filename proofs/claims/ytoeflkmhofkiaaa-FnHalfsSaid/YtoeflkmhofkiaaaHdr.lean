import Derived.Test.YtoeflkmhofkiaaaDgw
import Derived.Test.YtoeflkmhofkiaaaHsq
namespace Go.Proofs.Ytoeflkmhofkiaaa
open Go.RowKit
set_option maxRecDepth 100000

theorem below_sets3 (w W : World) (x0 x1 x2 : Value) : Below w.heap.size W (((W.setCell ⟨w.heap.size, 0, none⟩ (x0)).setCell ⟨w.heap.size, 1, none⟩ (x1)).setCell ⟨w.heap.size, 2, none⟩ (x2)) :=
  ((((Below.refl _ _).setCell (p := ⟨w.heap.size, 0, none⟩) (Nat.le_refl _) _).setCell (p := ⟨w.heap.size, 1, none⟩) (Nat.le_refl _) _).setCell (p := ⟨w.heap.size, 2, none⟩) (Nat.le_refl _) _)
theorem below_sets8 (w W : World) (x0 x1 x2 x3 x4 x5 x6 x7 : Value) : Below w.heap.size W ((((((((W.setCell ⟨w.heap.size, 0, none⟩ (x0)).setCell ⟨w.heap.size, 1, none⟩ (x1)).setCell ⟨w.heap.size, 2, none⟩ (x2)).setCell ⟨w.heap.size, 3, none⟩ (x3)).setCell ⟨w.heap.size, 4, none⟩ (x4)).setCell ⟨w.heap.size, 5, none⟩ (x5)).setCell ⟨w.heap.size, 6, none⟩ (x6)).setCell ⟨w.heap.size, 7, none⟩ (x7)) :=
  (((((((((Below.refl _ _).setCell (p := ⟨w.heap.size, 0, none⟩) (Nat.le_refl _) _).setCell (p := ⟨w.heap.size, 1, none⟩) (Nat.le_refl _) _).setCell (p := ⟨w.heap.size, 2, none⟩) (Nat.le_refl _) _).setCell (p := ⟨w.heap.size, 3, none⟩) (Nat.le_refl _) _).setCell (p := ⟨w.heap.size, 4, none⟩) (Nat.le_refl _) _).setCell (p := ⟨w.heap.size, 5, none⟩) (Nat.le_refl _) _).setCell (p := ⟨w.heap.size, 6, none⟩) (Nat.le_refl _) _).setCell (p := ⟨w.heap.size, 7, none⟩) (Nat.le_refl _) _)

set_option maxHeartbeats 2000000 in
set_option maxRecDepth 100000 in
theorem road_dr (g : Nat) (v : Value) (n : Nat) (w : World) (hd : Dr w g v n) :
    Calls Try.prog 53 #[.pointer (some ⟨g, 0, none⟩)] w fun e w' => ∃ m : Rv, e = .returned (.agg #[.int .i64 m.own, .int .i64 m.far, .int .i64 m.port]) ∧ Dr w' g v n ∧ Grew g w w' := by
  have hg := hd.blk
  have hb0 := below_new w (.cells #[.int .i64 0, .int .i64 0, .int .i64 0] 26)
  have hd0 := hd.kept hb0
  have hC0 := Cel.new w 26 #[.int .i64 0, .int .i64 0, .int .i64 0]
  have c3 := fun W h => bel_dr g v n 3 3 rfl W h (by omega) (by omega)
  have HE := Lib.hid (And.intro hC0 (Grew.then (Grew.refl g w) hb0))
  clear hb0 hC0 hd
  go_enter Try.func53, Try.ntmps53
  go_wp2_with (fail)
  with_reducible refine (c3 _ hd0).mono ?_
  rintro e w1 ⟨r1, hr1, rfl, d1, o1⟩
  have HE1 := Lib.hid (And.intro (HE.out.1.only o1 (by omega)) (HE.out.2.only o1))
  have e1 : IntKind.i64.wrap (11 + (r1 : Int)) = 11 + (r1 : Int) := IntWalk.i64_in _ (by omega)
  clear HE o1 hd0
  go_wp2_with (fail)
  with_reducible refine (c3 _ d1).mono ?_
  rintro e w2 ⟨r2, hr2, rfl, d2, o2⟩
  have HE2 := Lib.hid (And.intro (HE1.out.1.only o2 (by omega)) (HE1.out.2.only o2))
  have e2 : IntKind.i64.wrap (21 + (r2 : Int)) = 21 + (r2 : Int) := IntWalk.i64_in _ (by omega)
  clear HE1 o2 d1
  go_wp2_with (fail)
  with_reducible refine (c3 _ d2).mono ?_
  rintro e w3 ⟨r3, hr3, rfl, d3, o3⟩
  have hC3 := HE2.out.1.only o3 (by omega)
  obtain ⟨k0, k1, k2⟩ := cel3r hC3
  have f0 := hC3.frozen 0
  have f1 := hC3.frozen 1
  have f2 := hC3.frozen 2
  have HG := Lib.hid (And.intro (HE2.out.2.only o3) d3)
  clear HE2 o3 d2 c3 hC3 d3
  go_wp2_with (fail)
  have hB5 := below_sets3 w w3 (.int .i64 (11 + (r1 : Int))) (.int .i64 (21 + (r2 : Int))) (.int .i64 (r3 : Int))
  exact bodyPost_ret (v := .agg #[.int .i64 (11 + (r1 : Int)), .int .i64 (21 + (r2 : Int)), .int .i64 (r3 : Int)]) (by simp [results, Try.results53, go_sem, k0, k1, k2]) rfl ⟨⟨11 + (r1 : Int), 21 + (r2 : Int), r3⟩, rfl, HG.out.2.below hB5 hg, HG.out.1.then hB5⟩

set_option maxHeartbeats 4000000 in
set_option maxRecDepth 100000 in
theorem half_dr (g : Nat) (v : Value) (n : Nat) (w : World) (hd : Dr w g v n) :
    Calls Try.prog 44 #[.pointer (some ⟨g, 0, none⟩)] w fun e w' => ∃ m : Hv, e = .returned (.agg #[.int .i64 m.road.own, .int .i64 m.road.far, .int .i64 m.road.port, .int .i64 m.theirs, .int .i64 m.mine, .int .i64 m.give, .int .i64 m.take, .int .i64 m.till]) ∧ (0 ≤ m.till ∧ m.till ≤ 8) ∧ Dr w' g v n ∧ Grew g w w' := by
  have hg := hd.blk
  have hb0 := below_new w (.cells #[.int .i64 0, .int .i64 0, .int .i64 0, .int .i64 0, .int .i64 0, .int .i64 0, .int .i64 0, .int .i64 0] 28)
  have hd0 := hd.kept hb0
  have hC0 := Cel.new w 28 #[.int .i64 0, .int .i64 0, .int .i64 0, .int .i64 0, .int .i64 0, .int .i64 0, .int .i64 0, .int .i64 0]
  have cR := fun W h => road_dr g v n W h
  have c9 := fun W h => bel_dr g v n 9 9 rfl W h (by omega) (by omega)
  have HE0 := Lib.hid (And.intro hC0 (Grew.then (Grew.refl g w) hb0))
  clear hb0 hC0 hd
  go_enter Try.func44, Try.ntmps44
  go_wp2_with (fail)
  with_reducible refine (cR _ hd0).mono ?_
  rintro e w1 ⟨rd, rfl, d1, g1⟩
  have HE1 := Lib.hid (And.intro (HE0.out.1.grew g1 (by omega)) (HE0.out.2.trans g1))
  clear HE0 g1 hd0 cR
  go_wp2_with (fail)
  with_reducible refine (c9 _ d1).mono ?_
  rintro e w2 ⟨r2, hr2, rfl, d2, o2⟩
  have HE2 := Lib.hid (And.intro (HE1.out.1.only o2 (by omega)) (HE1.out.2.only o2))
  clear HE1 o2 d1
  go_wp2_with (fail)
  with_reducible refine (c9 _ d2).mono ?_
  rintro e w3 ⟨r3, hr3, rfl, d3, o3⟩
  have HE3 := Lib.hid (And.intro (HE2.out.1.only o3 (by omega)) (HE2.out.2.only o3))
  have e3 : IntKind.i64.wrap (1000 + (r3 : Int)) = 1000 + (r3 : Int) := IntWalk.i64_in _ (by omega)
  clear HE2 o3 d2
  go_wp2_with (fail)
  with_reducible refine (c9 _ d3).mono ?_
  rintro e w4 ⟨r4, hr4, rfl, d4, o4⟩
  have HE4 := Lib.hid (And.intro (HE3.out.1.only o4 (by omega)) (HE3.out.2.only o4))
  have e4 : IntKind.i64.wrap (1000 + (r4 : Int)) = 1000 + (r4 : Int) := IntWalk.i64_in _ (by omega)
  clear HE3 o4 d3
  go_wp2_with (fail)
  with_reducible refine (c9 _ d4).mono ?_
  rintro e w5 ⟨r5, hr5, rfl, d5, o5⟩
  have HE5 := Lib.hid (And.intro (HE4.out.1.only o5 (by omega)) (HE4.out.2.only o5))
  clear HE4 o5 d4
  go_wp2_with (fail)
  with_reducible refine (c9 _ d5).mono ?_
  rintro e w6 ⟨r6, hr6, rfl, d6, o6⟩
  have HE6 := Lib.hid (And.intro (HE5.out.1.only o6 (by omega)) (HE5.out.2.only o6))
  clear HE5 o6 d5
  have hC := HE6.out.1
  obtain ⟨k0, k1, k2, k3, k4, k5, k6, k7⟩ := cel8hv hC
  have f0 := hC.frozen 0
  have f1 := hC.frozen 1
  have f2 := hC.frozen 2
  have f3 := hC.frozen 3
  have f4 := hC.frozen 4
  have f5 := hC.frozen 5
  have f6 := hC.frozen 6
  have f7 := hC.frozen 7
  have HG := Lib.hid (And.intro HE6.out.2 (And.intro d6 (show (0 : Int) ≤ (r6 : Int) ∧ (r6 : Int) ≤ 8 by omega)))
  clear HE6 hC d6 c9
  go_wp2_with (fail)
  have hB5 := below_sets8 w w6 (.int .i64 rd.own) (.int .i64 rd.far) (.int .i64 rd.port) (.int .i64 (r2 : Int)) (.int .i64 (1000 + (r3 : Int))) (.int .i64 (1000 + (r4 : Int))) (.int .i64 (r5 : Int)) (.int .i64 (r6 : Int))
  exact bodyPost_ret (v := .agg #[.int .i64 rd.own, .int .i64 rd.far, .int .i64 rd.port, .int .i64 (r2 : Int), .int .i64 (1000 + (r3 : Int)), .int .i64 (1000 + (r4 : Int)), .int .i64 (r5 : Int), .int .i64 (r6 : Int)]) (by simp [results, Try.results44, go_sem, k0, k1, k2, k3, k4, k5, k6, k7]) rfl ⟨⟨⟨rd.own, rd.far, rd.port⟩, r2, 1000 + (r3 : Int), 1000 + (r4 : Int), r5, r6⟩, rfl, HG.out.2.2, HG.out.2.1.below hB5 hg, HG.out.1.then hB5⟩

end Go.Proofs.Ytoeflkmhofkiaaa
