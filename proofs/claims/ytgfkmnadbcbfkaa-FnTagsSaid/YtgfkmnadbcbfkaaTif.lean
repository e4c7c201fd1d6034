import Derived.Test.YtgfkmnadbcbfkaaTto
import Derived.Test.YtgfkmnadbcbfkaaRif
namespace Go.Proofs.Ytgfkmnadbcbfkaa
open Go.RowKit

set_option maxRecDepth 100000 in
theorem eql_tv (o p : Tv) (W : World) (b : Bool) (hb : b = true ↔ o = p) :
    (binOp .eql 29 (.agg #[.int .i64 o.kind, .int .i64 o.one, .int .i64 o.two, .int .i64 o.a, .int .i64 o.b]) (.agg #[.int .i64 p.kind, .int .i64 p.one, .int .i64 p.two, .int .i64 p.a, .int .i64 p.b])).run Try.prog W = .ok (.bool b) W := by
  have u3 := Try.underlying3
  have a3 := Try.isAgg3
  have z3 := Try.sizeOf3
  have hS : Try.prog.underlying 29 = some (.struct (Try.prog.fieldsOf 29)) := by kernel_rfl
  have hp : Try.prog.stoodInHeld 29 = false := by kernel_rfl
  rw [run_eql_struct, show (10000 : Nat) = 9999 + 1 from rfl, run_equalIn_agg W 9999 29 _ _ hS hp]
  simp only [Program.fieldsOf, Try.underlying29]
  obtain ⟨t1, b1, s1, x1, y1⟩ := o
  obtain ⟨t2, b2, s2, x2, y2⟩ := p
  simp only [Tv.mk.injEq] at hb
  go_simp
  by_cases h1 : t1 = t2 <;> by_cases h2 : b1 = b2 <;> by_cases h3 : s1 = s2 <;> by_cases h4 : x1 = x2 <;> by_cases h5 : y1 = y2 <;> simp_all

set_option maxRecDepth 100000 in
theorem neq_tv (o p : Tv) (W : World) (b : Bool) (hb : b = true ↔ ¬ o = p) :
    (binOp .neq 29 (.agg #[.int .i64 o.kind, .int .i64 o.one, .int .i64 o.two, .int .i64 o.a, .int .i64 o.b]) (.agg #[.int .i64 p.kind, .int .i64 p.one, .int .i64 p.two, .int .i64 p.a, .int .i64 p.b])).run Try.prog W = .ok (.bool b) W := by
  have u3 := Try.underlying3
  have a3 := Try.isAgg3
  have z3 := Try.sizeOf3
  have hS : Try.prog.underlying 29 = some (.struct (Try.prog.fieldsOf 29)) := by kernel_rfl
  have hp : Try.prog.stoodInHeld 29 = false := by kernel_rfl
  rw [run_neq_struct, show (10000 : Nat) = 9999 + 1 from rfl, run_equalIn_agg W 9999 29 _ _ hS hp]
  simp only [Program.fieldsOf, Try.underlying29]
  obtain ⟨t1, b1, s1, x1, y1⟩ := o
  obtain ⟨t2, b2, s2, x2, y2⟩ := p
  simp only [Tv.mk.injEq] at hb
  go_simp
  by_cases h1 : t1 = t2 <;> by_cases h2 : b1 = b2 <;> by_cases h3 : s1 = s2 <;> by_cases h4 : x1 = x2 <;> by_cases h5 : y1 = y2 <;> simp_all

end Go.Proofs.Ytgfkmnadbcbfkaa
