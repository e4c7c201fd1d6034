import Derived.Test.YtoeflkmhofkiaaaTcl
import Derived.Test.YtoeflkmhofkiaaaRcl
namespace Go.Proofs.Ytoeflkmhofkiaaa
set_option maxRecDepth 100000

/-! Messages (chapter 16). -/
structure Lv where
  kind : Int
  frm : Int
  to : Int
  port : Int
  key : Int
  token : Int
  nonce : Int
  give : Int
  sign : Int
  tag : Tv
  id : Int
  addr : Int
  spare : Bool
  pos : Int
  text : ByteArray
def Lv.zero : Lv := ⟨0, 0, 0, 0, 0, 0, 0, 0, 0, Tv.zero, 0, 0, false, 0, ⟨#[]⟩⟩
instance : Inhabited Lv := ⟨Lv.zero⟩
def inN (n lo hi : Int) : Bool := decide (lo ≤ n ∧ n ≤ hi)
def numsL (x : Lv) : List Int := [x.frm, x.to, x.port, x.key, x.token, x.nonce, x.give, x.sign, x.id, x.addr, x.pos, x.tag.kind, x.tag.one, x.tag.two, x.tag.a, x.tag.b]
def okL (x : Lv) : Bool := inN x.kind 1 13 && decide (x.text.size ≤ 20) && (numsL x).all fun n => inN n 0 1000000000
def roadL (x : Lv) : Rv := ⟨x.to, x.frm, x.port⟩
def betweenL (r : Rv) (x : Lv) : Lv := { x with frm := r.own, to := r.far, port := r.port }
end Go.Proofs.Ytoeflkmhofkiaaa
