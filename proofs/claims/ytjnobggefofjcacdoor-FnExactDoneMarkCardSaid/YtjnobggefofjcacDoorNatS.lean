import Derived.Test.YtjnobggefofjcacDoorNat
import Derived.Test.YtjnobggefofjcacDoorTxtS
namespace Go.Proofs.YtjnobggefofjcacDoor
open Go.RowKit

end Go.Proofs.YtjnobggefofjcacDoor
