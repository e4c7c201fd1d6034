import Derived.Test.YtihogaabojnbpaaAoi
import Derived.BigQuiet
import Derived.Deep.QuietTactic
namespace Go.Proofs.Ytihogaabojnbpaa
open Go.RowKit

theorem below_dN (W : World) (n : Nat) : Below W.heap.size W (W.drewN n) := ⟨rfl, rfl, rfl, Nat.le_refl _, fun _ _ => rfl⟩

end Go.Proofs.Ytihogaabojnbpaa
