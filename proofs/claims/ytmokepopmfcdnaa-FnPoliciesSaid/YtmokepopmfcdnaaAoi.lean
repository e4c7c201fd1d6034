import Derived.Test.YtmokepopmfcdnaaAok
import Derived.Test.YtmokepopmfcdnaaTyn
import Derived.Deep.Cut
namespace Go.Proofs.Ytmokepopmfcdnaa
open Go.RowKit

theorem vd_keep {w W W' : World} {bx B C : Nat} {m : Av} {v : Value} {ms : List Av} (h : W.cell? ⟨bx, 0, none⟩ = some (.int .i64 m.id) ∧ W.cell? ⟨bx, 1, none⟩ = some (.int .i64 m.addr) ∧ LieE avK W B C v ms ∧ Below w.heap.size w W) (hb : Below W.heap.size W W') :
    W'.cell? ⟨bx, 0, none⟩ = some (.int .i64 m.id) ∧ W'.cell? ⟨bx, 1, none⟩ = some (.int .i64 m.addr) ∧ LieE avK W' B C v ms ∧ Below w.heap.size w W' :=
  ⟨keepc' h.1 hb, keepc' h.2.1 hb, h.2.2.1.below hb, Below.then_ h.2.2.2 hb⟩
theorem addrs_take (ms : List Av) (k : Nat) (h : k < ms.length) : (ms.take (k + 1)).map (·.addr) = (ms.take k).map (·.addr) ++ [ms[k].addr] := by
  rw [List.take_succ_eq_append_getElem h, List.map_append]
  rfl
theorem okGo_cons (least : Int) (seen : List Int) (x : Av) (r : List Av) : okGo least seen (x :: r) = (decide (least ≤ x.id ∧ x.id ≤ 255) && decide (1 ≤ x.addr ∧ x.addr ≤ 65535) && !decide (x.addr ∈ seen) && okGo (x.id + 1) (seen ++ [x.addr]) r) := by
  rw [okGo, Bool.eq_iff_iff]
  simp only [Bool.and_eq_true, decide_eq_true_eq, Bool.not_eq_true', decide_eq_false_iff_not]
  constructor
  · rintro ⟨⟨h1, h2, h3, h4, h5⟩, h6⟩
    exact ⟨⟨⟨⟨h1, h2⟩, h3, h4⟩, h5⟩, h6⟩
  · rintro ⟨⟨⟨⟨h1, h2⟩, h3, h4⟩, h5⟩, h6⟩
    exact ⟨⟨h1, h2, h3, h4, h5⟩, h6⟩

end Go.Proofs.Ytmokepopmfcdnaa
