import Derived.Test.YtoeflkmhofkiaaaLbw
import Derived.Test.YtoeflkmhofkiaaaLim
namespace Go.Proofs.Ytoeflkmhofkiaaa
open Go.RowKit
set_option maxRecDepth 100000

/-! The laws of chapter 16, with the program's own contracts (text Lim: impl_letterOk, impl_roadOf, impl_onRoad, impl_between, in closed form). -/
theorem letterok_law (m : Lv) (w : World) (hs : m.text.size ≤ 9223372036854775807) :
    Calls Try.prog 7 #[.agg (lvC m)] w fun e w' => e = .returned (.bool true) ∧ Below w.heap.size w w' := letterok_law0 m w hs fun W => impl_letterOk m W hs
theorem roadof_law (m : Lv) (w : World) (hs : m.text.size ≤ 9223372036854775807) :
    Calls Try.prog 8 #[.agg (lvC m)] w fun e w' => e = .returned (.bool true) ∧ Below w.heap.size w w' := roadof_law0 m w hs fun W => impl_roadOf m W
theorem onroad_law (k : Int) (w : World) :
    Calls Try.prog 9 #[.int .i64 k] w fun e w' => e = .returned (.bool true) ∧ Below w.heap.size w w' := onroad_law0 k w fun W => impl_onRoad k W
theorem between_law (r : Rv) (m : Lv) (w : World) (hs : m.text.size ≤ 9223372036854775807) :
    Calls Try.prog 10 #[.agg #[.int .i64 r.own, .int .i64 r.far, .int .i64 r.port], .agg (lvC m)] w fun e w' => e = .returned (.bool true) ∧ Below w.heap.size w w' := between_law0 r m (betweenL r m) rfl w hs fun h W => impl_between r m W h
end Go.Proofs.Ytoeflkmhofkiaaa
