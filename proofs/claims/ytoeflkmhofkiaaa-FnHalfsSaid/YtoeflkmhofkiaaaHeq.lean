import Derived.Test.YtoeflkmhofkiaaaRif
import Derived.Test.YtoeflkmhofkiaaaHcv
import Derived.Laws.StructEq
namespace Go.Proofs.Ytoeflkmhofkiaaa
open Go.RowKit
set_option maxRecDepth 100000

set_option maxRecDepth 100000 in
theorem eqin_rv (m : Rv) (W : World) : (Op.equalIn (9998 + 1) 26 (.agg #[.int .i64 m.own, .int .i64 m.far, .int .i64 m.port]) (.agg #[.int .i64 m.own, .int .i64 m.far, .int .i64 m.port])).run Try.prog W = .ok true W := by
  have u3 := Try.underlying3
  have a3 := Try.isAgg3
  have z3 := Try.sizeOf3
  have hS : Try.prog.underlying 26 = some (.struct (Try.prog.fieldsOf 26)) := by kernel_rfl
  have hp : Try.prog.stoodInHeld 26 = false := by kernel_rfl
  rw [run_equalIn_agg W 9998 26 _ _ hS hp]
  simp only [Program.fieldsOf, Try.underlying26]
  go_simp

set_option maxRecDepth 100000 in
theorem neq_hv_same (m : Hv) (W : World) :
    (binOp .neq 28 (.agg #[.int .i64 m.road.own, .int .i64 m.road.far, .int .i64 m.road.port, .int .i64 m.theirs, .int .i64 m.mine, .int .i64 m.give, .int .i64 m.take, .int .i64 m.till]) (.agg #[.int .i64 m.road.own, .int .i64 m.road.far, .int .i64 m.road.port, .int .i64 m.theirs, .int .i64 m.mine, .int .i64 m.give, .int .i64 m.take, .int .i64 m.till])).run Try.prog W = .ok (.bool false) W := by
  have u3 := Try.underlying3
  have a3 := Try.isAgg3
  have z3 := Try.sizeOf3
  have hS : Try.prog.underlying 28 = some (.struct (Try.prog.fieldsOf 28)) := by kernel_rfl
  have hp : Try.prog.stoodInHeld 28 = false := by kernel_rfl
  rw [run_neq_struct, show (10000 : Nat) = 9999 + 1 from rfl, run_equalIn_agg W 9999 28 _ _ hS hp]
  have h1 := eqin_rv m.road W
  rw [show (9998 + 1 : Nat) = 9999 from rfl] at h1
  simp only [Program.fieldsOf, Try.underlying28]
  clear hS hp
  have a26 := Try.isAgg26
  have z26 := Try.sizeOf26
  rw [Op.eqFields]
  dsimp only
  obtain ⟨F, hF⟩ : ∃ F, Op.equalIn 9999 26 = F := ⟨_, rfl⟩
  rw [hF] at h1 ⊢
  clear hF
  have hpt : (part 26 #[.int .i64 m.road.own, .int .i64 m.road.far, .int .i64 m.road.port, .int .i64 m.theirs, .int .i64 m.mine, .int .i64 m.give, .int .i64 m.take, .int .i64 m.till] 0).run Try.prog W = .ok (.agg #[.int .i64 m.road.own, .int .i64 m.road.far, .int .i64 m.road.port]) W := by
    unfold part
    go_simp
  obtain ⟨p, hp⟩ : ∃ p, part 26 #[Value.int .i64 m.road.own, .int .i64 m.road.far, .int .i64 m.road.port, .int .i64 m.theirs, .int .i64 m.mine, .int .i64 m.give, .int .i64 m.take, .int .i64 m.till] 0 = p := ⟨_, rfl⟩
  rw [hp] at hpt ⊢
  clear hp
  go_simp
end Go.Proofs.Ytoeflkmhofkiaaa
