import Derived.Test.YtmokepopmfcdnaaRms
import Derived.Test.YtmokepopmfcdnaaRwf
import Derived.Test.YtmokepopmfcdnaaRmk
import Derived.Test.YtmokepopmfcdnaaRqd
namespace Go.Proofs.Ytmokepopmfcdnaa
open Go.RowKit

set_option maxRecDepth 100000 in
set_option maxHeartbeats 1000000 in
theorem roadback_law (m : Rv) (w : World) :
    Calls Try.prog 7 #[.agg #[.int .i64 m.own, .int .i64 m.far, .int .i64 m.port]] w fun e w' => e = .returned (.bool true) ∧ Below w.heap.size w w' := by
  have cT := fun W => to_road m W
  have cS := fun W => spec_roadBack m W
  have cI := fun W => impl_roadBack m W
  have cE := fun W => eq_road (backR m) W
  have hb0 : Below w.heap.size w (w.alloc (.cells #[.int .i64 m.own, .int .i64 m.far, .int .i64 m.port] 53)) := below_new _ _
  obtain ⟨c0, c1, c2⟩ := cel3r (Cel.new w 53 #[.int .i64 m.own, .int .i64 m.far, .int .i64 m.port])
  have HB := Lib.hid hb0
  clear hb0
  go_enter Try.func7, Try.ntmps7
  go_wp2_with (fail)
  with_reducible refine (cT _).mono ?_
  rintro e w1 ⟨rfl, h1⟩
  go_wp2_with (fail)
  with_reducible refine (cS _).mono ?_
  rintro e w2 ⟨rfl, h2⟩
  have h12 := Below.then_ (Below.then_ h1 h2) (below_rv w2 (backR m))
  have d0 := keepc' c0 h12
  have d1 := keepc' c1 h12
  have d2 := keepc' c2 h12
  have HB2 := Lib.hid (And.intro (Below.then_ HB.out h12) (Cel.new w2 34 #[.int .i64 (backR m).own, .int .i64 (backR m).far, .int .i64 (backR m).port]))
  clear h1 h2 h12 c0 c1 c2 HB
  go_wp2_with (fail)
  with_reducible refine (cT _).mono ?_
  rintro e w3 ⟨rfl, h3⟩
  go_wp2_with (fail)
  with_reducible refine (cI _).mono ?_
  rintro e w4 ⟨rfl, h4⟩
  have h34 := Below.then_ (Below.then_ h3 h4) (below_rv w4 (backR m))
  obtain ⟨e0, e1, e2⟩ := cel3r (HB2.out.2.kept h34)
  obtain ⟨f0, f1, f2⟩ := cel3r (Cel.new w4 34 #[.int .i64 (backR m).own, .int .i64 (backR m).far, .int .i64 (backR m).port])
  have HB4 := Lib.hid (Below.then_ HB2.out.1 h34)
  clear h3 h4 h34 d0 d1 d2
  go_wp2_with (fail)
  with_reducible refine (cE _).mono ?_
  rintro e w5 ⟨rfl, h5⟩
  have HB3 := Lib.hid (Below.then_ HB4.out h5)
  clear h5 e0 e1 e2 f0 f1 f2
  go_wp2_with (fail)
  go_ret
  exact ⟨rfl, HB3.out⟩

set_option maxRecDepth 100000 in
set_option maxHeartbeats 1000000 in
theorem policyok_law (kd mn : Int) (w : World) :
    Calls Try.prog 4 #[.agg #[.int .i64 kd, .int .i64 mn]] w fun e w' => e = .returned (.bool true) ∧ Below w.heap.size w w' := by
  have cT := fun W => to_policy kd mn W
  have cS := fun W => spec_policyOk kd mn W
  have cI := fun W => impl_policyOk kd mn W
  have hb0 : Below w.heap.size w (w.alloc (.cells #[.int .i64 kd, .int .i64 mn] 39)) := below_new _ _
  obtain ⟨c0, c1⟩ := cel2a (Cel.new w 39 #[.int .i64 kd, .int .i64 mn])
  have HB := Lib.hid hb0
  clear hb0
  generalize polOk kd mn = r at *
  go_enter Try.func4, Try.ntmps4
  go_wp2_with (fail)
  with_reducible refine (cT _).mono ?_
  rintro e w1 ⟨rfl, h1⟩
  go_wp2_with (fail)
  with_reducible refine (cS _).mono ?_
  rintro e w2 ⟨rfl, h2⟩
  have h12 := Below.then_ h1 h2
  have d0 := keepc' c0 h12
  have d1 := keepc' c1 h12
  have HB2 := Lib.hid (Below.then_ HB.out h12)
  clear h1 h2 h12 c0 c1 HB
  go_wp2_with (fail)
  with_reducible refine (cT _).mono ?_
  rintro e w3 ⟨rfl, h3⟩
  go_wp2_with (fail)
  with_reducible refine (cI _).mono ?_
  rintro e w4 ⟨rfl, h4⟩
  have HB3 := Lib.hid (Below.then_ HB2.out (Below.then_ h3 h4))
  clear h3 h4 d0 d1
  go_wp2_with (fail)
  go_ret
  exact ⟨rfl, HB3.out⟩
end Go.Proofs.Ytmokepopmfcdnaa
