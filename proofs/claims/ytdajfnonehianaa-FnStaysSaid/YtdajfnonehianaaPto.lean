import Derived.Test.YtdajfnonehianaaPcv
import Derived.StillTailTactics
import Derived.Deep.RegionHeld3
import Derived.Deep.Cut
namespace Go.Proofs.Ytdajfnonehianaa
open Go.RowKit

attribute [-go_sem] loadCells loadCellsFrom

set_option maxRecDepth 100000 in
theorem eq_piece (m : Pc) (w : World) :
    Calls Try.prog 31 #[.agg #[.int .i64 m.pos, .string m.text], .agg #[.int .i64 m.pos, .string m.text]] w fun e w' => e = .returned (.bool true) ∧ Below w.heap.size w w' := by
  have hb : Below w.heap.size w ((w.alloc (.cells #[.int .i64 m.pos, .string m.text] 41)).alloc (.cells #[.int .i64 m.pos, .string m.text] 41)) := ((Below.refl _ _).alloc (Nat.le_refl _) _).alloc (by simp) _
  have HB := Lib.hid hb
  clear hb
  go_enter Try.func31, Try.ntmps31
  go_wp2_with (fail)
  go_ret
  exact ⟨rfl, HB.out⟩

/-- The sizes of a row's pieces, taken off a limit. -/
def szL (left : Int) (n s : Nat) : Int := if left - (n : Int) - (s : Int) < 0 then -1 else left - (n : Int) - (s : Int)

end Go.Proofs.Ytdajfnonehianaa
