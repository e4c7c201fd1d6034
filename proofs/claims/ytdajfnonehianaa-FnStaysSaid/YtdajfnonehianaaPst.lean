import Derived.Test.YtdajfnonehianaaPmk
import Derived.Deep.QuietTactic
import Derived.BigQuiet
import Derived.Deep.RegionHeld3
namespace Go.Proofs.Ytdajfnonehianaa
open Go.RowKit

theorem keep_txt {w W W' : World} {b j : Nat} {y : ByteArray} (h : W.cell? ⟨b, j, none⟩ = some (.string y) ∧ Below w.heap.size w W) (hb : Below W.heap.size W W') : W'.cell? ⟨b, j, none⟩ = some (.string y) ∧ Below w.heap.size w W' :=
  ⟨by rw [hb.cell (World.block_lt_of_cell? _ _ h.1)]; exact h.1, Below.then_ h.2 hb⟩

/-! Whole streams. -/
/-- A struct of three cells, handed back whole. -/
theorem ps_result {W : World} {g : Nat} {r : Int} {t : ByteArray} {v : Value} (h : Cel W g 26 #[.int .i64 r, .string t, v]) {fn : Func} {p : Tmp} (hr : fn.results = #[.cell p 26]) (tmps : Array Value) (hp : tmps.getD p undef = .pointer (some ⟨g, 0, none⟩)) :
    (results fn tmps).run Try.prog W = .ok (.agg #[.int .i64 r, .string t, v]) W :=
  Cel.result h hr tmps hp Try.underlying26 rfl (by show _ = some 3; kernel_rfl)

attribute [-go_sem] loadCells loadCellsFrom

end Go.Proofs.Ytdajfnonehianaa
