import Derived.Test.YtnlbeoifmdfbjaaDoorAsf
import Derived.LaidLaws
import Derived.LaidHandle
namespace Go.Proofs.YtnlbeoifmdfbjaaDoor
open Go.ChangeShapes Go.WideShapes Go.RowKit

theorem errV_et : Tryd.prog.globalNamed "errors.errorType" = some 0 := by kernel_rfl
theorem errV_rt : (Tryd.prog.cutTypes.find? (·.1 == "internal/reflectlite.rtype")).map (·.2) = some 109 := by kernel_rfl
theorem errV_oneRow : ((List.range 166).filter fun t => Tryd.prog.rowNamed t [101, 114, 114, 111, 114]) = [42] := by kernel_rfl
theorem errV_size : Tryd.prog.types.size = 166 := by kernel_rfl

/-- What the listed variable gives a walk: its one cell. -/
theorem errT_of_laid {W : World} (h : laidMetH Tryd.prog [("errors.errorType", Rows.laid_errors_errorType)] W) : ErrT W := by
  have h' : laidMet Tryd.prog [] W ∧ handlesMet Tryd.prog [("errors.errorType", Rows.laid_errors_errorType)] W := h
  obtain ⟨name, u, ty, e1, e2, e3, e4, e5⟩ := h'.2 _ (List.mem_singleton.2 rfl)
  have en : name = [101, 114, 114, 111, 114] := (Option.some.inj e1).symm
  subst en
  obtain rfl := Option.some.inj (errV_rt.symm.trans e2)
  have hm : ty ∈ (List.range 166).filter fun t => Tryd.prog.rowNamed t [101, 114, 114, 111, 114] := List.mem_filter.2 ⟨List.mem_range.2 (by rw [← errV_size]; exact e3), e4⟩
  rw [errV_oneRow] at hm
  obtain rfl := List.mem_singleton.1 hm
  have hh : typeHandle Tryd.prog 42 = .pointer (some ⟨2, 42, none⟩) := by kernel_rfl
  rw [hh] at e5
  unfold ErrT
  simpa using World.var?_cell errV_et e5 0
end Go.Proofs.YtnlbeoifmdfbjaaDoor
