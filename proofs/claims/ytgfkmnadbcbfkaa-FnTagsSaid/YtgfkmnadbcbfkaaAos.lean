import Derived.Test.YtgfkmnadbcbfkaaAoi
import Derived.BigQuiet
import Derived.Deep.QuietTactic
namespace Go.Proofs.Ytgfkmnadbcbfkaa
open Go.RowKit

theorem below_dN (W : World) (n : Nat) : Below W.heap.size W (W.drewN n) := ⟨rfl, rfl, rfl, Nat.le_refl _, fun _ _ => rfl⟩

end Go.Proofs.Ytgfkmnadbcbfkaa
