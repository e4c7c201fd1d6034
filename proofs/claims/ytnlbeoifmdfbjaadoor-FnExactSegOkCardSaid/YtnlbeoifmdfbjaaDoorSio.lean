import Derived.Test.YtnlbeoifmdfbjaaDoorSgb
import Derived.Test.YtnlbeoifmdfbjaaDoorSgk
import Derived.Test.YtnlbeoifmdfbjaaDoorAsf
namespace Go.Proofs.YtnlbeoifmdfbjaaDoor
open Go.RowKit
attribute [-go_sem] loadCells loadCellsFrom

set_option maxRecDepth 100000 in
set_option maxHeartbeats 1000000 in
theorem impl_segOk (x : Sv) (v : Value) (w : World) (hv : RdO w v x.opts) (hE : ErrT w) (hn : x.opts.length ≤ 1048576) (hd : x.data.size ≤ 1048576) (hbig : ∀ o ∈ x.opts, o.ids.length ≤ 1048576) :
    Calls Tryd.prog 7 #[.agg (x.cells v)] w fun e w' => e = .returned (.bool (segB x)) ∧ Below w.heap.size w w' := by
  have hB0 := below_new w (.cells (x.cells v) 29)
  have c1 := impl_segBytes x v _ (hv.below hB0) hn hd hbig
  obtain ⟨va, vc, rfl⟩ : ∃ a c, v = .slice a x.opts.length c := by obtain ⟨a, c, h, -⟩ := hv; exact ⟨a, c, h⟩
  have hC0 : Cel (w.alloc (.cells (x.cells (.slice va x.opts.length vc)) 29)) w.heap.size 29 (x.cells (.slice va x.opts.length vc)) := Cel.new _ _ _
  have f0 := Cel.loadRow hC0 9 (Sv.cells_size _ _) (P := Tryd.prog)
  generalize segTx x = r at *
  by_cases hg : segGood x
  · rw [(segB_iff x).2 hg]
    have HG := Lib.hid hg
    clear hg
    go_enter Tryd.func7, Tryd.ntmps7
    go_wp2_with (fail)
    with_reducible refine c1.mono ?_
    rintro e w1 ⟨ev, rfl, h1, -, hb1⟩
    obtain rfl := h1 HG.out
    clear h1 f0
    have c2 := fault_nil w1
    go_wp2_with (fail)
    with_reducible refine c2.mono ?_
    rintro e w2 ⟨rfl, hb2⟩
    go_wp2_with (fail)
    go_ret
    exact ⟨rfl, Below.then_ (Below.then_ hB0 hb1) hb2⟩
  · rw [segB_no x hg]
    have HG := Lib.hid hg
    clear hg
    go_enter Tryd.func7, Tryd.ntmps7
    go_wp2_with (fail)
    with_reducible refine c1.mono ?_
    rintro e w1 ⟨ev, rfl, -, h1, hb1⟩
    obtain ⟨n, hn9, rfl⟩ := h1 HG.out
    clear h1 f0
    have hB1 := Below.then_ hB0 hb1
    have c2 := fault_hit (n : Int) w1 (hE.below hB1 hE.lt)
    have q : ¬ (n : Int) < 0 := by omega
    clear hE
    go_wp2_with (fail)
    with_reducible refine c2.mono ?_
    rintro e w2 ⟨rfl, hb2⟩
    go_wp2_with (fail)
    go_ret
    exact ⟨rfl, Below.then_ hB1 hb2⟩
end Go.Proofs.YtnlbeoifmdfbjaaDoor
