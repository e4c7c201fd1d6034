import Derived.Test.YtmokepopmfcdnaaAbp
namespace Go.Proofs.Ytmokepopmfcdnaa
open Go.RowKit Go.Maps

theorem TurnAt.ne {w : World} {b n g : Nat} {f : Int → Nat} {c : Array Value} {t : TypeId} {z : Nat × Nat} (h : TurnAt w b n f) (hg : w.heap[g]? = some (.cells c t z)) : g ≠ b := by
  rintro rfl
  obtain ⟨D, ⟨es, clock, h1, -⟩, -⟩ := h
  rw [hg] at h1
  cases h1

section
variable {w W W' : World} {bb bm bt rb ba bk n n' : Nat} {u u' : Value} {order order' : List Kk} {F F' : Kk → Option Av} {f f' : Int → Nat} {a : Av} {c : Nat}
end
theorem count_snoc (ms : List Av) (k : Nat) (h : k < ms.length) (z : Int) : ((ms.take (k + 1)).map (·.id)).count z = if z = ms[k].id then ((ms.take k).map (·.id)).count ms[k].id + 1 else ((ms.take k).map (·.id)).count z := by
  rw [List.take_succ_eq_append_getElem h, List.map_append, List.count_append]
  simp only [List.map_cons, List.map_nil, List.count_singleton]
  by_cases e : z = ms[k].id
  · subst e
    simp
  · rw [if_neg e]
    simp [show ¬ ms[k].id = z from fun h => e h.symm]
theorem keyAt_eq (ms : List Av) (k : Nat) (h : k < ms.length) : keyAt ms k = (ms[k].id, ((ms.take k).map (·.id)).count ms[k].id) := by
  unfold keyAt
  simp [List.getD, List.getElem?_eq_getElem h]
theorem count_le (ms : List Av) (k : Nat) (z : Int) : ((ms.take k).map (·.id)).count z ≤ k := by
  refine Nat.le_trans List.count_le_length ?_
  rw [List.length_map, List.length_take]
  omega

end Go.Proofs.Ytmokepopmfcdnaa
