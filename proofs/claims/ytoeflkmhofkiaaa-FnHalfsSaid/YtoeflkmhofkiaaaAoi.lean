import Derived.Test.YtoeflkmhofkiaaaAok
import Derived.Test.YtoeflkmhofkiaaaTyn
import Derived.Deep.Cut
namespace Go.Proofs.Ytoeflkmhofkiaaa
open Go.RowKit
set_option maxRecDepth 100000

theorem addrs_take (ms : List Av) (k : Nat) (h : k < ms.length) : (ms.take (k + 1)).map (·.addr) = (ms.take k).map (·.addr) ++ [ms[k].addr] := by
  rw [List.take_succ_eq_append_getElem h, List.map_append]
  rfl
theorem okGo_cons (least : Int) (seen : List Int) (x : Av) (r : List Av) : okGo least seen (x :: r) = (decide (least ≤ x.id ∧ x.id ≤ 255) && decide (1 ≤ x.addr ∧ x.addr ≤ 65535) && !decide (x.addr ∈ seen) && okGo (x.id + 1) (seen ++ [x.addr]) r) := by
  rw [okGo, Bool.eq_iff_iff]
  simp only [Bool.and_eq_true, decide_eq_true_eq, Bool.not_eq_true', decide_eq_false_iff_not]
  constructor
  · rintro ⟨⟨h1, h2, h3, h4, h5⟩, h6⟩
    exact ⟨⟨⟨⟨h1, h2⟩, h3, h4⟩, h5⟩, h6⟩
  · rintro ⟨⟨⟨⟨h1, h2⟩, h3, h4⟩, h5⟩, h6⟩
    exact ⟨⟨h1, h2, h3, h4, h5⟩, h6⟩

end Go.Proofs.Ytoeflkmhofkiaaa
