import Derived.Test.YtlkhgamhhblmgaaDoorMarkL
import Derived.Test.YtlkhgamhhblmgaaDoorMtab0
import Derived.Test.YtlkhgamhhblmgaaDoorMtab1
import Derived.Test.YtlkhgamhhblmgaaDoorMtab20
import Derived.Test.YtlkhgamhhblmgaaDoorMtab32
import Derived.Test.YtlkhgamhhblmgaaDoorMtab63
import Derived.Test.YtlkhgamhhblmgaaDoorMtab64
import Derived.Test.YtlkhgamhhblmgaaDoorMtab65
import Derived.Test.YtlkhgamhhblmgaaDoorMtab100
namespace Go.Proofs.YtlkhgamhhblmgaaDoor
open Go.RowKit

theorem lens_apart (L : Nat) (h : (L : Int) ∈ keyLens) : ApartAt L := by
  have hc : L = 0 ∨ L = 1 ∨ L = 20 ∨ L = 32 ∨ L = 63 ∨ L = 64 ∨ L = 65 ∨ L = 100 := by
    simp only [keyLens, List.mem_cons, List.not_mem_nil, or_false] at h
    omega
  rcases hc with rfl | rfl | rfl | rfl | rfl | rfl | rfl | rfl
  · exact mtab0
  · exact mtab1
  · exact mtab20
  · exact mtab32
  · exact mtab63
  · exact mtab64
  · exact mtab65
  · exact mtab100

theorem marks_all (v : Value) (w : World) (hk : Keys w) (hst : Starts w) (n : Nat) (hr : RdB w v n) :
    Calls Tryd.prog 5 #[v] w fun e w' => e = .returned (.bool true) ∧ Below w.heap.size w w' :=
  marks_law v w hk hst n hr lens_apart

end Go.Proofs.YtlkhgamhhblmgaaDoor
