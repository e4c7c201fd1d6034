import Derived.Test.YtoeflkmhofkiaaaAcv
import Derived.StillTailTactics
import Derived.Deep.RegionHeld3
import Derived.Deep.Cut
namespace Go.Proofs.Ytoeflkmhofkiaaa
open Go.RowKit
set_option maxRecDepth 100000

attribute [-go_sem] loadCells loadCellsFrom

end Go.Proofs.Ytoeflkmhofkiaaa
