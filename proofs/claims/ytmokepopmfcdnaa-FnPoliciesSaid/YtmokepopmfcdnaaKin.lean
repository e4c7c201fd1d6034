import Derived.Test.YtmokepopmfcdnaaAcv
import Derived.Test.YtmokepopmfcdnaaEk2
import Derived.Lib.AppendZerosOnto
import Derived.Lib.Overlaps
import Derived.Shelf.Spec.SlicesInsert
import Derived.Deep.RegionLawGrows
namespace Go.Proofs.Ytmokepopmfcdnaa
open Go.RowKit

theorem goInt_natK (k : Nat) : goInt k = .int .i64 (k : Int) := rfl

end Go.Proofs.Ytmokepopmfcdnaa
