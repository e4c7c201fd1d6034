import Derived.Test.YtoeflkmhofkiaaaAos
import Derived.Test.YtoeflkmhofkiaaaAmk
namespace Go.Proofs.Ytoeflkmhofkiaaa
open Go.RowKit
set_option maxRecDepth 100000

theorem sz_lawA (ms : List Av) (h : ¬ (1048576 : Int) - (ms.length : Int) < 0) : ms.length ≤ 1048576 := by omega

section
variable {α : Type} {K : EK α} {w W W' : World} {b0 b1 b2 b3 : Nat} {u x g : Value} {os gs : List α} {xs ys : List Av} {zs : List α}
end
end Go.Proofs.Ytoeflkmhofkiaaa
