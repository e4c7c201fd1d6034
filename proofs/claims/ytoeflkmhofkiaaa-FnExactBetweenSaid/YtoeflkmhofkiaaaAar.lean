import Derived.Test.YtoeflkmhofkiaaaEar
import Derived.Test.YtoeflkmhofkiaaaAcv
namespace Go.Proofs.Ytoeflkmhofkiaaa
open Go.Joins Go.ChangeShapes Go.WideShapes Go.RowKit Go.Deep
set_option maxRecDepth 100000

theorem ecellsBool : Try.prog.cellsOf 4 = 1 := by kernel_rfl

end Go.Proofs.Ytoeflkmhofkiaaa
