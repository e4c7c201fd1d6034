import Derived.Test.YtmokepopmfcdnaaAbd
namespace Go.Proofs.Ytmokepopmfcdnaa
open Go.RowKit

section
variable {w W W' : World} {B bb bm ba bk n : Nat} {u u' : Value} {order order' : List Kk} {F : Kk → Option Av} {a : Av}
theorem Cel.types {g1 g2 : Nat} {t1 t2 : TypeId} {c1 c2 : Array Value} (h1 : Cel W g1 t1 c1) (h2 : Cel W g2 t2 c2) (ht : t1 ≠ t2) : g1 ≠ g2 := by
  rintro rfl
  have e1 : W.heap[g1]? = _ := h1
  have e2 : W.heap[g1]? = _ := h2
  rw [e1] at e2
  injection e2 with e2
  injection e2 with _ e2
  exact ht e2
end
theorem ok_ins {order : List Kk} {k : Kk} (h : ∀ x ∈ order, OkK x) (hk : OkK k) (p : Nat) : ∀ x ∈ order.take p ++ k :: order.drop p, OkK x := fun x hx => by
  rcases List.mem_append.1 hx with hx | hx
  · exact h x (List.mem_of_mem_take hx)
  · rcases List.mem_cons.1 hx with rfl | hx
    · exact hk
    · exact h x (List.mem_of_mem_drop hx)
/-- The book's keys once an Id was put. -/
def orderP (order : List Kk) (id : Int) : List Kk := if (id, 0) ∈ order then order else order.take (placeK id order) ++ (id, 0) :: order.drop (placeK id order)
theorem orderP_len (order : List Kk) (id : Int) : (orderP order id).length ≤ order.length + 1 := by
  unfold orderP
  have := placeK_le id order
  split
  · omega
  · simp; omega

end Go.Proofs.Ytmokepopmfcdnaa
