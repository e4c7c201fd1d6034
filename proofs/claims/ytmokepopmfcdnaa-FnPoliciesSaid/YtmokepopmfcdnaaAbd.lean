import Derived.Test.YtmokepopmfcdnaaAbl
namespace Go.Proofs.Ytmokepopmfcdnaa
open Go.RowKit

theorem BkW.turned {w W W' : World} {B bm : Nat} (hb : Below B w W) (hg : W.grownBy W' (some bm)) (hB : B ≤ W.heap.size) (hm : B ≤ bm) : Below B w W' := hb.grown hg hB (fun k hk => by injection hk with hk; omega)
end Go.Proofs.Ytmokepopmfcdnaa
