import Derived.Test.YtoeflkmhofkiaaaRows
import Derived.WalkKit
import Derived.Below
import Derived.Lib.Hide
namespace Go.Proofs.Ytoeflkmhofkiaaa
open Go.RowKit
set_option maxRecDepth 100000

theorem slice_part (t : ByteArray) (a b : Int) (h0 : 0 ≤ a) (h1 : a ≤ b) (h2 : b ≤ (t.size : Int)) (W : World) :
    (Instr.slice 9 (.string t) (some (.int .i64 a)) (some (.int .i64 b)) none).run Try.prog W = .ok (.string (t.extract a.toNat b.toNat)) W := by
  have h3 : ((t.size : Nat) : Int) ≤ (t.size : Int) := Int.le_refl _
  have h4 : 0 ≤ b := by omega
  have h5 : ¬ max b 0 < a := by omega
  simp [Instr.slice, run_underlying Try.underlying9, Instr.sliceBounds, Instr.sliceBound, asIntOf, h0, h2, h4, h5]

/-- The bytes that are asked exist. -/
def Part (s : ByteArray) (a m : Int) : Prop := 0 ≤ a ∧ 0 ≤ m ∧ a + m ≤ (s.size : Int)

theorem extract_le (s : ByteArray) (a b : Nat) : (s.extract a b).size ≤ s.size := by
  simp only [ByteArray.size_extract]; omega
end Go.Proofs.Ytoeflkmhofkiaaa
