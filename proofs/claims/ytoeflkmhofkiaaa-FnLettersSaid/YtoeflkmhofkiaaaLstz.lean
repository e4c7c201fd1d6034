import Derived.Test.YtoeflkmhofkiaaaZ2
import Derived.Test.YtoeflkmhofkiaaaLspz
namespace Go.Proofs.Ytoeflkmhofkiaaa
open Go.RowKit
set_option maxRecDepth 100000

/-- The whole of a message stored into its block. -/
theorem lv_store {W : World} {g : Nat} {old : Array Value} (m : Lv) (h : Cel W g 41 old) (hn : old.size = 19) : (storeCells ⟨g, 0, none⟩ (lvC m).toList 0).run Try.prog W = .ok () (W.setRow g (lvC m)) := by
  have := run_storeCells_at Try.prog g 0 41 (lvC m).toList 0 _ W h (by rw [Array.length_toList, lvC_size, hn]; exact Nat.le_refl _) (fun v hv => Array.all_eq_true_iff_forall_mem.1 (lvC_all m) v (by simpa using hv))
  rw [this]
  congr 2
  rw [Nat.zero_add, List.take_zero, List.nil_append, List.drop_of_length_le (by rw [Array.length_toList, Array.length_toList, lvC_size, hn]; exact Nat.le_refl _), List.append_nil, Array.toArray_toList]
theorem lvC_kind (m : Lv) (x : Int) : (lvC m).setIfInBounds 0 (.int .i64 x) = lvC { m with kind := x } := by rw [lvC_eq, lvC_eq]; rfl
theorem lvC_sign (m : Lv) (x : Int) : (lvC m).setIfInBounds 8 (.int .i64 x) = lvC { m with sign := x } := by rw [lvC_eq, lvC_eq]; rfl
theorem lvC_text (m : Lv) (x : ByteArray) : (lvC m).setIfInBounds 18 (.string x) = lvC { m with text := x } := by rw [lvC_eq, lvC_eq]; rfl
theorem lvC_taga (m : Lv) (x : Int) : (lvC m).setIfInBounds 12 (.int .i64 x) = lvC { m with tag := { m.tag with a := x } } := by rw [lvC_eq, lvC_eq]; rfl
theorem lvC_tag (m : Lv) (t : Tv) : ((((((lvC m).setIfInBounds 9 (.int .i64 t.kind)).setIfInBounds 10 (.int .i64 t.one)).setIfInBounds 11 (.int .i64 t.two)).setIfInBounds 12 (.int .i64 t.a)).setIfInBounds 13 (.int .i64 t.b)) = lvC { m with tag := t } := by rw [lvC_eq, lvC_eq]; rfl
theorem lvC_frm (m : Lv) (x : Int) : (lvC m).setIfInBounds 1 (.int .i64 x) = lvC { m with frm := x } := by rw [lvC_eq, lvC_eq]; rfl
theorem lvC_to (m : Lv) (x : Int) : (lvC m).setIfInBounds 2 (.int .i64 x) = lvC { m with to := x } := by rw [lvC_eq, lvC_eq]; rfl
theorem lvC_port (m : Lv) (x : Int) : (lvC m).setIfInBounds 3 (.int .i64 x) = lvC { m with port := x } := by rw [lvC_eq, lvC_eq]; rfl
end Go.Proofs.Ytoeflkmhofkiaaa

