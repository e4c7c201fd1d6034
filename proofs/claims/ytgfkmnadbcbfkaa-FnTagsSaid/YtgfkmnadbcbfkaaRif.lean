import Derived.Test.YtgfkmnadbcbfkaaRto
import Derived.Laws.StructEq
import Derived.BigQuiet
import Derived.Deep.QuietTactic
namespace Go.Proofs.Ytgfkmnadbcbfkaa
open Go.RowKit

theorem dN_rbelow (W : World) (n : Nat) : Below W.heap.size W (W.drewN n) := ⟨rfl, rfl, rfl, Nat.le_refl _, fun _ _ => rfl⟩

end Go.Proofs.Ytgfkmnadbcbfkaa
