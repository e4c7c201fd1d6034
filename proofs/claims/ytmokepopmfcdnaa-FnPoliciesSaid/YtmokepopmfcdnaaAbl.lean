import Derived.Test.YtmokepopmfcdnaaAoi
import Derived.Test.YtmokepopmfcdnaaAki
import Derived.Test.YtmokepopmfcdnaaAbk
import Derived.Test.YtmokepopmfcdnaaKin
namespace Go.Proofs.Ytmokepopmfcdnaa
open Go.RowKit

section
variable {W W' : World} {B bb bm n : Nat} {u : Value} {order : List Kk} {F : Kk → Option Av}
end
theorem okK_zero {id : Int} (h : (Lit.int .i64 id).wf = true) : OkK (id, 0) := ⟨h, by show (Lit.int .i64 ((0 : Nat) : Int)).wf = true; exact WalkArith.wf_i64 (by omega)⟩

end Go.Proofs.Ytmokepopmfcdnaa
