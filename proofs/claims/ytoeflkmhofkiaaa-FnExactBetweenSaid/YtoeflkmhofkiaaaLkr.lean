import Derived.Test.YtoeflkmhofkiaaaLar
import Derived.Test.YtoeflkmhofkiaaaLto
namespace Go.Proofs.Ytoeflkmhofkiaaa
open Go.Joins Go.ChangeShapes Go.WideShapes Go.RowKit Go.Deep
set_option maxRecDepth 100000

/-- A message that came in, in closed form. -/
theorem open_letterC {H : Type} {enc : TypeId × Value → H} {W : World} {base : Nat} {v : Value} {d : DataW H} {p : List MemPlace} (hval : Value.okWide Try.prog W .any base 61 v)
    (h : DataW.Trod enc Try.prog W 0 (fun _ => true) true 61 v d p) : ∃ m : Lv, v = .agg (lvC m) ∧ m.text.size ≤ maxLen := by
  obtain ⟨m, hm, hs⟩ := open_letter hval h
  exact ⟨m, by rw [hm, lvC_eq], hs⟩
end Go.Proofs.Ytoeflkmhofkiaaa
