import Derived.Test.YtkpajakangaekabPart
import Derived.Test.YtkpajakangaekabIn
import Derived.Test.YtkpajakangaekabNat
namespace Go.Proofs.Ytkpajakangaekab
open Go.RowKit

end Go.Proofs.Ytkpajakangaekab

namespace Go.Proofs.Ytkpajakangaekab
open Go.RowKit

end Go.Proofs.Ytkpajakangaekab

