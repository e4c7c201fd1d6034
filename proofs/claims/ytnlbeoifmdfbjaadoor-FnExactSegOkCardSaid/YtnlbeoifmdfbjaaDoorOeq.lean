import Derived.Test.YtnlbeoifmdfbjaaDoorOv
import Derived.Lib.Hide
namespace Go.Proofs.YtnlbeoifmdfbjaaDoor
open Go.RowKit

set_option maxRecDepth 100000 in
set_option maxHeartbeats 1000000 in
theorem eq_opt (o : Ov) (v u : Value) (w : World) (hv : Rd w v o.ids) (hu : Rd w u o.ids) (hn : o.ids.length ≤ 1048576) :
    Calls Tryd.prog 28 #[.agg (o.cells v), .agg (o.cells u)] w fun e w' => e = .returned (.bool true) ∧ Below w.heap.size w w' := by
  have hB : Below w.heap.size w ((w.alloc (.cells (o.cells v) 39)).alloc (.cells (o.cells u) 39)) := ((Below.refl _ _).alloc (Nat.le_refl _) _).alloc (by simp) _
  have c1 := eq_ints v u o.ids _ (hv.below hB) (hu.below hB) hn
  obtain ⟨va, vc, rfl, -⟩ := hv
  obtain ⟨ua, uc, rfl, -⟩ := hu
  obtain ⟨a0, a1, a2, a3, a4, a5, a6, a7, a8, a9, a10, a11, a12, a13⟩ := o.ats (.slice va o.ids.length vc)
  obtain ⟨b0, b1, b2, b3, b4, b5, b6, b7, b8, b9, b10, b11, b12, b13⟩ := o.ats (.slice ua o.ids.length uc)
  go_enter Tryd.func28, Tryd.ntmps28
  go_wp2_with (fail)
  with_reducible refine c1.mono ?_
  rintro e w1 ⟨rfl, m, rfl⟩
  go_wp2_with (fail)
  go_ret
  exact ⟨rfl, ⟨hB.os, hB.tape, hB.output, hB.size, hB.block⟩⟩
end Go.Proofs.YtnlbeoifmdfbjaaDoor
