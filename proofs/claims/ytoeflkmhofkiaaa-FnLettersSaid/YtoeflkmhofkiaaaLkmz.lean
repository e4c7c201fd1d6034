import Derived.Test.YtoeflkmhofkiaaaLflz
import Derived.Test.YtoeflkmhofkiaaaLimz
namespace Go.Proofs.Ytoeflkmhofkiaaa
open Go.RowKit
set_option maxRecDepth 100000

theorem letters_law (v : Value) (w : World) (n : Nat) (hr : RdB w v n) :
    Calls Try.prog 4 #[v] w fun e w' => e = .returned (.bool true) ∧ Below w.heap.size w w' := letters_law0 v w n hr impl_between impl_roadOf impl_letterOk impl_onRoad
end Go.Proofs.Ytoeflkmhofkiaaa

