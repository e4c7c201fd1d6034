import Derived.Test.YtmokepopmfcdnaaAbq
import Derived.Test.YtmokepopmfcdnaaAos
namespace Go.Proofs.Ytmokepopmfcdnaa
open Go.RowKit

theorem mt_own (W : World) (B : Nat) (h : B ≤ W.heap.size) : OwnV (W.alloc (.cells #[] 32)) B (W.alloc (.cells #[] 32)).heap.size (.slice (some ⟨W.heap.size, 0, none⟩) 0 0) [] :=
  (eown_empty avK W).mono h (Nat.le_refl _)
theorem bd_grown {B : Nat} {w W W' : World} {v : Value} {L : List Av} (hb : Below B w W) (ho : OwnV W B W.heap.size v L) (hB : B ≤ W.heap.size) (hg : W.grownBy W' v.ownBlock) : Below B w W' := hb.grown hg hB (fun g hv => (ho.block g hv).1)

end Go.Proofs.Ytmokepopmfcdnaa
