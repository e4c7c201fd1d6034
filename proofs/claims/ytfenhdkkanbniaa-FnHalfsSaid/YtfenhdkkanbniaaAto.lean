import Derived.Test.YtfenhdkkanbniaaAcv
import Derived.StillTailTactics
import Derived.Deep.RegionHeld3
import Derived.Deep.Cut
namespace Go.Proofs.Ytfenhdkkanbniaa
open Go.RowKit

attribute [-go_sem] loadCells loadCellsFrom

end Go.Proofs.Ytfenhdkkanbniaa
