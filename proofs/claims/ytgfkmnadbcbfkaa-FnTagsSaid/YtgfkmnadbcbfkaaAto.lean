import Derived.Test.YtgfkmnadbcbfkaaAcv
import Derived.StillTailTactics
import Derived.Deep.RegionHeld3
import Derived.Deep.Cut
namespace Go.Proofs.Ytgfkmnadbcbfkaa
open Go.RowKit

attribute [-go_sem] loadCells loadCellsFrom

end Go.Proofs.Ytgfkmnadbcbfkaa
