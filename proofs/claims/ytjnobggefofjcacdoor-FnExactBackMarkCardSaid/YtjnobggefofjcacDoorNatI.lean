import Derived.Test.YtjnobggefofjcacDoorNat
namespace Go.Proofs.YtjnobggefofjcacDoor
open Go.RowKit

end Go.Proofs.YtjnobggefofjcacDoor
