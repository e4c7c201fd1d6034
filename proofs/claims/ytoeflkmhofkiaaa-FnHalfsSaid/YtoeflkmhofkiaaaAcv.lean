import Derived.Test.YtoeflkmhofkiaaaEk
import Derived.Test.YtoeflkmhofkiaaaAcl
namespace Go.Proofs.Ytoeflkmhofkiaaa
open Go.RowKit
set_option maxRecDepth 100000

def Av.cells (p : Av) : List Value := [.int .i64 p.id, .int .i64 p.addr, .bool p.spare, .bool p.told]
/-- Integers. -/
def intK : EK Int where
  t := 3
  n := 1
  cs := fun k => [.int .i64 k]
  len := fun _ => rfl
  pos := by decide
  one := fun p u hu => by
    simp only [List.mem_cons, List.not_mem_nil, or_false] at hu
    rcases hu with rfl <;> rfl
  zero := 0
  zv := .int .i64 0
  zcs := rfl
  bytes := 8
  bnd := by decide
  wid := by decide
  info := by kernel_rfl

theorem uIs : Try.prog.underlying 84 = some (.slice 3) := Try.underlying84
theorem cel4a {W : World} {g : Nat} {t : TypeId} {x y z u : Value} (h : Cel W g t #[x, y, z, u]) : W.cell? ⟨g, 0, none⟩ = some x ∧ W.cell? ⟨g, 1, none⟩ = some y ∧ W.cell? ⟨g, 2, none⟩ = some z ∧ W.cell? ⟨g, 3, none⟩ = some u := ⟨h.cell 0, h.cell 1, h.cell 2, h.cell 3⟩
theorem cel2a {W : World} {g : Nat} {t : TypeId} {x y : Value} (h : Cel W g t #[x, y]) : W.cell? ⟨g, 0, none⟩ = some x ∧ W.cell? ⟨g, 1, none⟩ = some y := ⟨h.cell 0, h.cell 1⟩
/-- Whole addresses, at every place of a row, whatever the index. -/
theorem keepc' {W W' : World} {B o : Nat} {u : Value} (h : W.cell? ⟨B, o, none⟩ = some u) (hb : Below W.heap.size W W') : W'.cell? ⟨B, o, none⟩ = some u := by
  rw [hb.cell (p := ⟨B, o, none⟩) (World.block_lt_of_cell? _ _ h)]
  exact h
end Go.Proofs.Ytoeflkmhofkiaaa
