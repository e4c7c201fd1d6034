import Derived.Test.YtoeflkmhofkiaaaRows
import Derived.WalkKit
import Derived.Below
import Derived.Test.YtoeflkmhofkiaaaClone
import Derived.Test.YtoeflkmhofkiaaaPart
import Derived.Lib.Hide
namespace Go.Proofs.Ytoeflkmhofkiaaa
open Go.RowKit
set_option maxRecDepth 100000


theorem clone_call (s : ByteArray) (w : World) (hs : s.size ≤ 281474976710656) :
    Calls Try.prog 55 #[.string s] w fun e w' => e = .returned (.string s) ∧ Below w.heap.size w w' := by
  have c1 := fun W => Try.stringslite_Clone s W hs
  go_enter Try.func55, Try.ntmps55
  go_wp2_with (go_at_call 71; (with_reducible refine (c1 _).mono ?_); rintro e w1 ⟨rfl, hb1⟩)
  go_ret
  exact ⟨rfl, hb1⟩

end Go.Proofs.Ytoeflkmhofkiaaa
