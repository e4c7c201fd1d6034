import Derived.Test.YtoeflkmhofkiaaaHsp
import Derived.Test.YtoeflkmhofkiaaaHmk
namespace Go.Proofs.Ytoeflkmhofkiaaa
open Go.RowKit
set_option maxRecDepth 100000

theorem drop_out {hs : List Hv} {r : Rv} (h : ¬ plH r hs < hs.length) : dropH hs r = hs := by
  have := plH_le r hs
  unfold dropH
  rw [show plH r hs = hs.length by omega, List.take_length, List.drop_eq_nil_of_le (by omega), List.append_nil]

end Go.Proofs.Ytoeflkmhofkiaaa
