import Derived.Test.YtoeflkmhofkiaaaTcv
import Derived.Test.YtoeflkmhofkiaaaRto
import Derived.StillTailTactics
import Derived.Deep.RegionHeld3
import Derived.Deep.Cut
namespace Go.Proofs.Ytoeflkmhofkiaaa
open Go.RowKit
set_option maxRecDepth 100000

set_option maxRecDepth 100000 in
set_option maxHeartbeats 2000000 in
theorem to_tag_x (m : Tv) (w : World) :
    Calls Try.prog 60 #[.agg #[.int .i64 m.kind, .int .i64 m.one, .int .i64 m.two, .int .i64 m.a, .int .i64 m.b]] w fun e w' => e = .returned (.agg #[.int .i64 m.kind, .int .i64 m.one, .int .i64 m.two, .int .i64 m.a, .int .i64 m.b]) ∧ w' = (((w.alloc (.cells #[.int .i64 m.kind, .int .i64 m.one, .int .i64 m.two, .int .i64 m.a, .int .i64 m.b] 59)).alloc (.cells #[.int .i64 m.kind, .int .i64 m.one, .int .i64 m.two, .int .i64 m.a, .int .i64 m.b] 39)).alloc (.cells #[.int .i64 m.kind, .int .i64 m.one, .int .i64 m.two, .int .i64 m.a, .int .i64 m.b] 39)) := by
  obtain ⟨wf, hwf⟩ : ∃ wf, wf = (((w.alloc (.cells #[.int .i64 m.kind, .int .i64 m.one, .int .i64 m.two, .int .i64 m.a, .int .i64 m.b] 59)).alloc (.cells #[.int .i64 m.kind, .int .i64 m.one, .int .i64 m.two, .int .i64 m.a, .int .i64 m.b] 39)).alloc (.cells #[.int .i64 m.kind, .int .i64 m.one, .int .i64 m.two, .int .i64 m.a, .int .i64 m.b] 39)) := ⟨_, rfl⟩
  rw [← hwf]
  have HW := Lib.hid hwf
  clear hwf
  go_enter Try.func60, Try.ntmps60
  go_wp2_with (fail)
  exact bodyPost_ret (v := .agg #[.int .i64 m.kind, .int .i64 m.one, .int .i64 m.two, .int .i64 m.a, .int .i64 m.b]) (by simp [results, Try.results60, go_sem]) rfl ⟨rfl, HW.out.symm⟩
theorem to_tag_below (m : Tv) (w : World) : Below w.heap.size w (((w.alloc (.cells #[.int .i64 m.kind, .int .i64 m.one, .int .i64 m.two, .int .i64 m.a, .int .i64 m.b] 59)).alloc (.cells #[.int .i64 m.kind, .int .i64 m.one, .int .i64 m.two, .int .i64 m.a, .int .i64 m.b] 39)).alloc (.cells #[.int .i64 m.kind, .int .i64 m.one, .int .i64 m.two, .int .i64 m.a, .int .i64 m.b] 39)) := ((((Below.refl _ _).alloc (Nat.le_refl _) _).alloc (by simp) _).alloc (by simp; omega) _)
theorem to_tag (m : Tv) (w : World) :
    Calls Try.prog 60 #[.agg #[.int .i64 m.kind, .int .i64 m.one, .int .i64 m.two, .int .i64 m.a, .int .i64 m.b]] w fun e w' => e = .returned (.agg #[.int .i64 m.kind, .int .i64 m.one, .int .i64 m.two, .int .i64 m.a, .int .i64 m.b]) ∧ Below w.heap.size w w' :=
  (to_tag_x m w).mono fun _ _ h => ⟨h.1, by rw [h.2]; exact to_tag_below m w⟩

set_option maxRecDepth 100000 in
set_option maxHeartbeats 2000000 in
theorem eq_tag_x (m : Tv) (w : World) :
    Calls Try.prog 61 #[.agg #[.int .i64 m.kind, .int .i64 m.one, .int .i64 m.two, .int .i64 m.a, .int .i64 m.b], .agg #[.int .i64 m.kind, .int .i64 m.one, .int .i64 m.two, .int .i64 m.a, .int .i64 m.b]] w fun e w' => e = .returned (.bool true) ∧ w' = ((w.alloc (.cells #[.int .i64 m.kind, .int .i64 m.one, .int .i64 m.two, .int .i64 m.a, .int .i64 m.b] 39)).alloc (.cells #[.int .i64 m.kind, .int .i64 m.one, .int .i64 m.two, .int .i64 m.a, .int .i64 m.b] 39)) := by
  obtain ⟨wf, hwf⟩ : ∃ wf, wf = ((w.alloc (.cells #[.int .i64 m.kind, .int .i64 m.one, .int .i64 m.two, .int .i64 m.a, .int .i64 m.b] 39)).alloc (.cells #[.int .i64 m.kind, .int .i64 m.one, .int .i64 m.two, .int .i64 m.a, .int .i64 m.b] 39)) := ⟨_, rfl⟩
  rw [← hwf]
  have HW := Lib.hid hwf
  clear hwf
  go_enter Try.func61, Try.ntmps61
  go_wp2_with (fail)
  go_ret
  exact ⟨rfl, HW.out.symm⟩
theorem eq_tag (m : Tv) (w : World) :
    Calls Try.prog 61 #[.agg #[.int .i64 m.kind, .int .i64 m.one, .int .i64 m.two, .int .i64 m.a, .int .i64 m.b], .agg #[.int .i64 m.kind, .int .i64 m.one, .int .i64 m.two, .int .i64 m.a, .int .i64 m.b]] w fun e w' => e = .returned (.bool true) ∧ Below w.heap.size w w' :=
  (eq_tag_x m w).mono fun _ _ h => ⟨h.1, by rw [h.2]; exact (((Below.refl _ _).alloc (Nat.le_refl _) _).alloc (by simp) _)⟩

attribute [-go_sem] loadCells loadCellsFrom

end Go.Proofs.Ytoeflkmhofkiaaa
