import Derived.Test.YtoeflkmhofkiaaaRto
import Derived.Laws.StructEq
import Derived.BigQuiet
import Derived.Deep.QuietTactic
namespace Go.Proofs.Ytoeflkmhofkiaaa
open Go.RowKit
set_option maxRecDepth 100000

set_option maxRecDepth 100000 in
theorem eql_rv (o p : Rv) (W : World) (b : Bool) (hb : b = true ↔ o = p) :
    (binOp .eql 26 (.agg #[.int .i64 o.own, .int .i64 o.far, .int .i64 o.port]) (.agg #[.int .i64 p.own, .int .i64 p.far, .int .i64 p.port])).run Try.prog W = .ok (.bool b) W := by
  have u3 := Try.underlying3
  have a3 := Try.isAgg3
  have z3 := Try.sizeOf3
  have hS : Try.prog.underlying 26 = some (.struct (Try.prog.fieldsOf 26)) := by kernel_rfl
  have hp : Try.prog.stoodInHeld 26 = false := by kernel_rfl
  rw [run_eql_struct, show (10000 : Nat) = 9999 + 1 from rfl, run_equalIn_agg W 9999 26 _ _ hS hp]
  simp only [Program.fieldsOf, Try.underlying26]
  obtain ⟨t1, b1, s1⟩ := o
  obtain ⟨t2, b2, s2⟩ := p
  simp only [Rv.mk.injEq] at hb
  go_simp
  by_cases h1 : t1 = t2 <;> by_cases h2 : b1 = b2 <;> by_cases h3 : s1 = s2 <;> simp_all
set_option maxRecDepth 100000 in
theorem neq_rv (o p : Rv) (W : World) (b : Bool) (hb : b = true ↔ ¬ o = p) :
    (binOp .neq 26 (.agg #[.int .i64 o.own, .int .i64 o.far, .int .i64 o.port]) (.agg #[.int .i64 p.own, .int .i64 p.far, .int .i64 p.port])).run Try.prog W = .ok (.bool b) W := by
  have u3 := Try.underlying3
  have a3 := Try.isAgg3
  have z3 := Try.sizeOf3
  have hS : Try.prog.underlying 26 = some (.struct (Try.prog.fieldsOf 26)) := by kernel_rfl
  have hp : Try.prog.stoodInHeld 26 = false := by kernel_rfl
  rw [run_neq_struct, show (10000 : Nat) = 9999 + 1 from rfl, run_equalIn_agg W 9999 26 _ _ hS hp]
  simp only [Program.fieldsOf, Try.underlying26]
  obtain ⟨t1, b1, s1⟩ := o
  obtain ⟨t2, b2, s2⟩ := p
  simp only [Rv.mk.injEq] at hb
  go_simp
  by_cases h1 : t1 = t2 <;> by_cases h2 : b1 = b2 <;> by_cases h3 : s1 = s2 <;> simp_all

theorem dN_rbelow (W : World) (n : Nat) : Below W.heap.size W (W.drewN n) := ⟨rfl, rfl, rfl, Nat.le_refl _, fun _ _ => rfl⟩

end Go.Proofs.Ytoeflkmhofkiaaa
