import Derived.Test.YtoeflkmhofkiaaaRcv
import Derived.StillTailTactics
import Derived.Deep.RegionHeld3
import Derived.Deep.Cut
namespace Go.Proofs.Ytoeflkmhofkiaaa
open Go.RowKit
set_option maxRecDepth 100000

set_option maxRecDepth 100000 in
theorem to_road (m : Rv) (w : World) :
    Calls Try.prog 40 #[.agg #[.int .i64 m.own, .int .i64 m.far, .int .i64 m.port]] w fun e w' => e = .returned (.agg #[.int .i64 m.own, .int .i64 m.far, .int .i64 m.port]) ∧ Below w.heap.size w w' := by
  have hb : Below w.heap.size w (((w.alloc (.cells #[.int .i64 m.own, .int .i64 m.far, .int .i64 m.port] 53)).alloc (.cells #[.int .i64 m.own, .int .i64 m.far, .int .i64 m.port] 26)).alloc (.cells #[.int .i64 m.own, .int .i64 m.far, .int .i64 m.port] 26)) := (((Below.refl _ _).alloc (Nat.le_refl _) _).alloc (by simp) _).alloc (by simp; omega) _
  have HB := Lib.hid hb
  clear hb
  go_enter Try.func40, Try.ntmps40
  go_wp2_with (fail)
  exact bodyPost_ret (v := .agg #[.int .i64 m.own, .int .i64 m.far, .int .i64 m.port]) (by simp [results, Try.results40, go_sem]) rfl ⟨rfl, HB.out⟩

attribute [-go_sem] loadCells loadCellsFrom

theorem rbox2 (w : World) (m o : Rv) : (fun W : World => Cel W w.heap.size 26 #[.int .i64 m.own, .int .i64 m.far, .int .i64 m.port] ∧ Cel W (w.heap.size + 1) 26 #[.int .i64 o.own, .int .i64 o.far, .int .i64 o.port] ∧ Below w.heap.size w W)
    ((w.alloc (.cells #[.int .i64 m.own, .int .i64 m.far, .int .i64 m.port] 26)).alloc (.cells #[.int .i64 o.own, .int .i64 o.far, .int .i64 o.port] 26)) := by
  refine ⟨(Cel.new w _ _).alloc _, ?_, ((Below.refl _ _).alloc (Nat.le_refl _) _).alloc (by simp) _⟩
  have := Cel.new (w.alloc (.cells #[.int .i64 m.own, .int .i64 m.far, .int .i64 m.port] 26)) 26 #[.int .i64 o.own, .int .i64 o.far, .int .i64 o.port]
  rw [World.size_alloc] at this
  exact this

set_option maxRecDepth 100000 in
theorem eq_road (m : Rv) (w : World) :
    Calls Try.prog 37 #[.agg #[.int .i64 m.own, .int .i64 m.far, .int .i64 m.port], .agg #[.int .i64 m.own, .int .i64 m.far, .int .i64 m.port]] w fun e w' => e = .returned (.bool true) ∧ Below w.heap.size w w' := by
  have HB := Lib.hid (rbox2 w m m).2.2
  go_enter Try.func37, Try.ntmps37
  go_wp2_with (fail)
  go_ret
  exact ⟨rfl, HB.out⟩

end Go.Proofs.Ytoeflkmhofkiaaa
