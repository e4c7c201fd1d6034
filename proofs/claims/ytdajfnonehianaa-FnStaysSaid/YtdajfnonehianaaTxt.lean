import Derived.Test.YtdajfnonehianaaRows
import Derived.WalkKit
import Derived.Below
import Derived.Test.YtdajfnonehianaaClone
import Derived.Test.YtdajfnonehianaaPart
import Derived.Lib.Hide
namespace Go.Proofs.Ytdajfnonehianaa
open Go.RowKit


theorem clone_call (s : ByteArray) (w : World) (hs : s.size ≤ 281474976710656) :
    Calls Try.prog 57 #[.string s] w fun e w' => e = .returned (.string s) ∧ Below w.heap.size w w' := by
  have c1 := fun W => Try.stringslite_Clone s W hs
  go_enter Try.func57, Try.ntmps57
  go_wp2_with (go_at_call 65; (with_reducible refine (c1 _).mono ?_); rintro e w1 ⟨rfl, hb1⟩)
  go_ret
  exact ⟨rfl, hb1⟩

end Go.Proofs.Ytdajfnonehianaa
