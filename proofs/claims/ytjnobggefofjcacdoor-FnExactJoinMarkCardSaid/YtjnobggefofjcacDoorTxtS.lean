import Derived.Test.YtjnobggefofjcacDoorPart
import Derived.Test.YtjnobggefofjcacDoorIn
namespace Go.Proofs.YtjnobggefofjcacDoor
open Go.RowKit

end Go.Proofs.YtjnobggefofjcacDoor
