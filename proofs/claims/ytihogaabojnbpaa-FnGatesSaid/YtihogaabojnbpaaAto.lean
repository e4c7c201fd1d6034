import Derived.Test.YtihogaabojnbpaaAcv
import Derived.StillTailTactics
import Derived.Deep.RegionHeld3
import Derived.Deep.Cut
namespace Go.Proofs.Ytihogaabojnbpaa
open Go.RowKit

attribute [-go_sem] loadCells loadCellsFrom

end Go.Proofs.Ytihogaabojnbpaa
