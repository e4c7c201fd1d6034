import Derived.Test.YtnlbeoifmdfbjaaDoorOv
import Derived.Lib.Hide
namespace Go.Proofs.YtnlbeoifmdfbjaaDoor
open Go.RowKit

/-- An option of this kind, with what the kind has of x. -/
def plain1 (x : Ov) : Ov := { Ov.zero with kind := 1, key := x.key }
/-- An option of this kind, with what the kind has of x. -/
def plain2 (x : Ov) : Ov := { Ov.zero with kind := 2, id := x.id, flag := x.flag, token := x.token, nonce := x.nonce }
/-- An option of this kind, with what the kind has of x. -/
def plain3 (x : Ov) : Ov := { Ov.zero with kind := 3, id := x.id, flag := x.flag, mark := x.mark, nonce := x.nonce }
/-- An option of this kind, with what the kind has of x. -/
def plain4 (x : Ov) : Ov := { Ov.zero with kind := 4, mark := x.mark }
/-- An option of this kind, with what the kind has of x. -/
def plain5 (x : Ov) : Ov := { Ov.zero with kind := 5, ack := x.ack, seq := x.seq, sub := x.sub, len := x.len }
/-- An option of this kind, with what the kind has of x. -/
def plain6 (x : Ov) : Ov := { Ov.zero with kind := 6, id := x.id, addr := x.addr, port := x.port, mark := x.mark }
/-- An option of this kind, with what the kind has of x. -/
def plain7 (x : Ov) : Ov := { Ov.zero with kind := 7, id := x.id, addr := x.addr, port := x.port }
/-- An option of this kind, with what the kind has of x. -/
def plain8 (x : Ov) : Ov := { Ov.zero with kind := 8, ids := x.ids }
/-- An option of this kind, with what the kind has of x. -/
def plain9 (x : Ov) : Ov := { Ov.zero with kind := 9, seq := x.seq }
/-- An option of this kind, with what the kind has of x. -/
def plain10 (x : Ov) : Ov := { Ov.zero with kind := 10, key := x.key }
set_option maxRecDepth 100000 in
set_option maxHeartbeats 1000000 in
theorem plo_1 (x : Ov) (w : World) :
    Calls Tryd.prog 34 #[.iface 90 (.agg #[.string x.key])] w fun e w' => e = .returned (.agg ((plain1 x).cells (.slice none 0 0))) ∧ Below w.heap.size w w' := by
  have k1 := fun W => (show (Instr.typeAssert (.iface 90 (.agg #[.string x.key])) 71 90 true).run Tryd.prog W = .ok (.tuple #[.agg #[.string x.key], .bool true]) W by kernel_rfl)
  go_enter Tryd.func34, Tryd.ntmps34
  go_wp2_with (fail)
  refine bodyPost_ret (Cel.result (g := w.heap.size) (t := 39) (cs := (plain1 x).cells (.slice none 0 0)) ?h rfl _ rfl Tryd.underlying39 rfl (sizeOpt' _ _)) rfl ⟨rfl, ?b⟩
  case h => unfold Ov.cells; first | exact Cel.new _ _ _ | exact (Cel.new _ _ _).alloc _
  case b => first | exact (Below.refl _ _).alloc (Nat.le_refl _) _ | exact ((Below.refl _ _).alloc (Nat.le_refl _) _).alloc (by simp) _

set_option maxRecDepth 100000 in
set_option maxHeartbeats 1000000 in
theorem plo_2 (x : Ov) (w : World) :
    Calls Tryd.prog 34 #[.iface 92 (.agg #[.int .i64 x.id, .bool x.flag, .int .i64 x.token, .int .i64 x.nonce])] w fun e w' => e = .returned (.agg ((plain2 x).cells (.slice none 0 0))) ∧ Below w.heap.size w w' := by
  have k1 := fun W => (show (Instr.typeAssert (.iface 92 (.agg #[.int .i64 x.id, .bool x.flag, .int .i64 x.token, .int .i64 x.nonce])) 71 90 true).run Tryd.prog W = .ok (.tuple #[.agg #[.string ⟨#[]⟩], .bool false]) W by kernel_rfl)
  have k2 := fun W => (show (Instr.typeAssert (.iface 92 (.agg #[.int .i64 x.id, .bool x.flag, .int .i64 x.token, .int .i64 x.nonce])) 71 92 true).run Tryd.prog W = .ok (.tuple #[.agg #[.int .i64 x.id, .bool x.flag, .int .i64 x.token, .int .i64 x.nonce], .bool true]) W by kernel_rfl)
  go_enter Tryd.func34, Tryd.ntmps34
  go_wp2_with (fail)
  refine bodyPost_ret (Cel.result (g := w.heap.size) (t := 39) (cs := (plain2 x).cells (.slice none 0 0)) ?h rfl _ rfl Tryd.underlying39 rfl (sizeOpt' _ _)) rfl ⟨rfl, ?b⟩
  case h => unfold Ov.cells; first | exact Cel.new _ _ _ | exact (Cel.new _ _ _).alloc _
  case b => first | exact (Below.refl _ _).alloc (Nat.le_refl _) _ | exact ((Below.refl _ _).alloc (Nat.le_refl _) _).alloc (by simp) _

set_option maxRecDepth 100000 in
set_option maxHeartbeats 1000000 in
theorem plo_3 (x : Ov) (w : World) :
    Calls Tryd.prog 34 #[.iface 94 (.agg #[.int .i64 x.id, .bool x.flag, .string x.mark, .int .i64 x.nonce])] w fun e w' => e = .returned (.agg ((plain3 x).cells (.slice none 0 0))) ∧ Below w.heap.size w w' := by
  have k1 := fun W => (show (Instr.typeAssert (.iface 94 (.agg #[.int .i64 x.id, .bool x.flag, .string x.mark, .int .i64 x.nonce])) 71 90 true).run Tryd.prog W = .ok (.tuple #[.agg #[.string ⟨#[]⟩], .bool false]) W by kernel_rfl)
  have k2 := fun W => (show (Instr.typeAssert (.iface 94 (.agg #[.int .i64 x.id, .bool x.flag, .string x.mark, .int .i64 x.nonce])) 71 92 true).run Tryd.prog W = .ok (.tuple #[.agg #[.int .i64 0, .bool false, .int .i64 0, .int .i64 0], .bool false]) W by kernel_rfl)
  have k3 := fun W => (show (Instr.typeAssert (.iface 94 (.agg #[.int .i64 x.id, .bool x.flag, .string x.mark, .int .i64 x.nonce])) 71 94 true).run Tryd.prog W = .ok (.tuple #[.agg #[.int .i64 x.id, .bool x.flag, .string x.mark, .int .i64 x.nonce], .bool true]) W by kernel_rfl)
  go_enter Tryd.func34, Tryd.ntmps34
  go_wp2_with (fail)
  refine bodyPost_ret (Cel.result (g := w.heap.size) (t := 39) (cs := (plain3 x).cells (.slice none 0 0)) ?h rfl _ rfl Tryd.underlying39 rfl (sizeOpt' _ _)) rfl ⟨rfl, ?b⟩
  case h => unfold Ov.cells; first | exact Cel.new _ _ _ | exact (Cel.new _ _ _).alloc _
  case b => first | exact (Below.refl _ _).alloc (Nat.le_refl _) _ | exact ((Below.refl _ _).alloc (Nat.le_refl _) _).alloc (by simp) _

set_option maxRecDepth 100000 in
set_option maxHeartbeats 1000000 in
theorem plo_4 (x : Ov) (w : World) :
    Calls Tryd.prog 34 #[.iface 96 (.agg #[.string x.mark])] w fun e w' => e = .returned (.agg ((plain4 x).cells (.slice none 0 0))) ∧ Below w.heap.size w w' := by
  have k1 := fun W => (show (Instr.typeAssert (.iface 96 (.agg #[.string x.mark])) 71 90 true).run Tryd.prog W = .ok (.tuple #[.agg #[.string ⟨#[]⟩], .bool false]) W by kernel_rfl)
  have k2 := fun W => (show (Instr.typeAssert (.iface 96 (.agg #[.string x.mark])) 71 92 true).run Tryd.prog W = .ok (.tuple #[.agg #[.int .i64 0, .bool false, .int .i64 0, .int .i64 0], .bool false]) W by kernel_rfl)
  have k3 := fun W => (show (Instr.typeAssert (.iface 96 (.agg #[.string x.mark])) 71 94 true).run Tryd.prog W = .ok (.tuple #[.agg #[.int .i64 0, .bool false, .string ⟨#[]⟩, .int .i64 0], .bool false]) W by kernel_rfl)
  have k4 := fun W => (show (Instr.typeAssert (.iface 96 (.agg #[.string x.mark])) 71 96 true).run Tryd.prog W = .ok (.tuple #[.agg #[.string x.mark], .bool true]) W by kernel_rfl)
  go_enter Tryd.func34, Tryd.ntmps34
  go_wp2_with (fail)
  refine bodyPost_ret (Cel.result (g := w.heap.size) (t := 39) (cs := (plain4 x).cells (.slice none 0 0)) ?h rfl _ rfl Tryd.underlying39 rfl (sizeOpt' _ _)) rfl ⟨rfl, ?b⟩
  case h => unfold Ov.cells; first | exact Cel.new _ _ _ | exact (Cel.new _ _ _).alloc _
  case b => first | exact (Below.refl _ _).alloc (Nat.le_refl _) _ | exact ((Below.refl _ _).alloc (Nat.le_refl _) _).alloc (by simp) _

set_option maxRecDepth 100000 in
set_option maxHeartbeats 1000000 in
theorem plo_5 (x : Ov) (w : World) :
    Calls Tryd.prog 34 #[.iface 98 (.agg #[.int .i64 x.ack, .int .i64 x.seq, .int .i64 x.sub, .int .i64 x.len])] w fun e w' => e = .returned (.agg ((plain5 x).cells (.slice none 0 0))) ∧ Below w.heap.size w w' := by
  have k1 := fun W => (show (Instr.typeAssert (.iface 98 (.agg #[.int .i64 x.ack, .int .i64 x.seq, .int .i64 x.sub, .int .i64 x.len])) 71 90 true).run Tryd.prog W = .ok (.tuple #[.agg #[.string ⟨#[]⟩], .bool false]) W by kernel_rfl)
  have k2 := fun W => (show (Instr.typeAssert (.iface 98 (.agg #[.int .i64 x.ack, .int .i64 x.seq, .int .i64 x.sub, .int .i64 x.len])) 71 92 true).run Tryd.prog W = .ok (.tuple #[.agg #[.int .i64 0, .bool false, .int .i64 0, .int .i64 0], .bool false]) W by kernel_rfl)
  have k3 := fun W => (show (Instr.typeAssert (.iface 98 (.agg #[.int .i64 x.ack, .int .i64 x.seq, .int .i64 x.sub, .int .i64 x.len])) 71 94 true).run Tryd.prog W = .ok (.tuple #[.agg #[.int .i64 0, .bool false, .string ⟨#[]⟩, .int .i64 0], .bool false]) W by kernel_rfl)
  have k4 := fun W => (show (Instr.typeAssert (.iface 98 (.agg #[.int .i64 x.ack, .int .i64 x.seq, .int .i64 x.sub, .int .i64 x.len])) 71 96 true).run Tryd.prog W = .ok (.tuple #[.agg #[.string ⟨#[]⟩], .bool false]) W by kernel_rfl)
  have k5 := fun W => (show (Instr.typeAssert (.iface 98 (.agg #[.int .i64 x.ack, .int .i64 x.seq, .int .i64 x.sub, .int .i64 x.len])) 71 98 true).run Tryd.prog W = .ok (.tuple #[.agg #[.int .i64 x.ack, .int .i64 x.seq, .int .i64 x.sub, .int .i64 x.len], .bool true]) W by kernel_rfl)
  go_enter Tryd.func34, Tryd.ntmps34
  go_wp2_with (fail)
  refine bodyPost_ret (Cel.result (g := w.heap.size) (t := 39) (cs := (plain5 x).cells (.slice none 0 0)) ?h rfl _ rfl Tryd.underlying39 rfl (sizeOpt' _ _)) rfl ⟨rfl, ?b⟩
  case h => unfold Ov.cells; first | exact Cel.new _ _ _ | exact (Cel.new _ _ _).alloc _
  case b => first | exact (Below.refl _ _).alloc (Nat.le_refl _) _ | exact ((Below.refl _ _).alloc (Nat.le_refl _) _).alloc (by simp) _

set_option maxRecDepth 100000 in
set_option maxHeartbeats 1000000 in
theorem plo_6 (x : Ov) (w : World) :
    Calls Tryd.prog 34 #[.iface 100 (.agg #[.int .i64 x.id, .int .i64 x.addr, .int .i64 x.port, .string x.mark])] w fun e w' => e = .returned (.agg ((plain6 x).cells (.slice none 0 0))) ∧ Below w.heap.size w w' := by
  have k1 := fun W => (show (Instr.typeAssert (.iface 100 (.agg #[.int .i64 x.id, .int .i64 x.addr, .int .i64 x.port, .string x.mark])) 71 90 true).run Tryd.prog W = .ok (.tuple #[.agg #[.string ⟨#[]⟩], .bool false]) W by kernel_rfl)
  have k2 := fun W => (show (Instr.typeAssert (.iface 100 (.agg #[.int .i64 x.id, .int .i64 x.addr, .int .i64 x.port, .string x.mark])) 71 92 true).run Tryd.prog W = .ok (.tuple #[.agg #[.int .i64 0, .bool false, .int .i64 0, .int .i64 0], .bool false]) W by kernel_rfl)
  have k3 := fun W => (show (Instr.typeAssert (.iface 100 (.agg #[.int .i64 x.id, .int .i64 x.addr, .int .i64 x.port, .string x.mark])) 71 94 true).run Tryd.prog W = .ok (.tuple #[.agg #[.int .i64 0, .bool false, .string ⟨#[]⟩, .int .i64 0], .bool false]) W by kernel_rfl)
  have k4 := fun W => (show (Instr.typeAssert (.iface 100 (.agg #[.int .i64 x.id, .int .i64 x.addr, .int .i64 x.port, .string x.mark])) 71 96 true).run Tryd.prog W = .ok (.tuple #[.agg #[.string ⟨#[]⟩], .bool false]) W by kernel_rfl)
  have k5 := fun W => (show (Instr.typeAssert (.iface 100 (.agg #[.int .i64 x.id, .int .i64 x.addr, .int .i64 x.port, .string x.mark])) 71 98 true).run Tryd.prog W = .ok (.tuple #[.agg #[.int .i64 0, .int .i64 0, .int .i64 0, .int .i64 0], .bool false]) W by kernel_rfl)
  have k6 := fun W => (show (Instr.typeAssert (.iface 100 (.agg #[.int .i64 x.id, .int .i64 x.addr, .int .i64 x.port, .string x.mark])) 71 100 true).run Tryd.prog W = .ok (.tuple #[.agg #[.int .i64 x.id, .int .i64 x.addr, .int .i64 x.port, .string x.mark], .bool true]) W by kernel_rfl)
  go_enter Tryd.func34, Tryd.ntmps34
  go_wp2_with (fail)
  refine bodyPost_ret (Cel.result (g := w.heap.size) (t := 39) (cs := (plain6 x).cells (.slice none 0 0)) ?h rfl _ rfl Tryd.underlying39 rfl (sizeOpt' _ _)) rfl ⟨rfl, ?b⟩
  case h => unfold Ov.cells; first | exact Cel.new _ _ _ | exact (Cel.new _ _ _).alloc _
  case b => first | exact (Below.refl _ _).alloc (Nat.le_refl _) _ | exact ((Below.refl _ _).alloc (Nat.le_refl _) _).alloc (by simp) _

set_option maxRecDepth 100000 in
set_option maxHeartbeats 1000000 in
theorem plo_7 (x : Ov) (w : World) :
    Calls Tryd.prog 34 #[.iface 102 (.agg #[.int .i64 x.id, .int .i64 x.addr, .int .i64 x.port])] w fun e w' => e = .returned (.agg ((plain7 x).cells (.slice none 0 0))) ∧ Below w.heap.size w w' := by
  have k1 := fun W => (show (Instr.typeAssert (.iface 102 (.agg #[.int .i64 x.id, .int .i64 x.addr, .int .i64 x.port])) 71 90 true).run Tryd.prog W = .ok (.tuple #[.agg #[.string ⟨#[]⟩], .bool false]) W by kernel_rfl)
  have k2 := fun W => (show (Instr.typeAssert (.iface 102 (.agg #[.int .i64 x.id, .int .i64 x.addr, .int .i64 x.port])) 71 92 true).run Tryd.prog W = .ok (.tuple #[.agg #[.int .i64 0, .bool false, .int .i64 0, .int .i64 0], .bool false]) W by kernel_rfl)
  have k3 := fun W => (show (Instr.typeAssert (.iface 102 (.agg #[.int .i64 x.id, .int .i64 x.addr, .int .i64 x.port])) 71 94 true).run Tryd.prog W = .ok (.tuple #[.agg #[.int .i64 0, .bool false, .string ⟨#[]⟩, .int .i64 0], .bool false]) W by kernel_rfl)
  have k4 := fun W => (show (Instr.typeAssert (.iface 102 (.agg #[.int .i64 x.id, .int .i64 x.addr, .int .i64 x.port])) 71 96 true).run Tryd.prog W = .ok (.tuple #[.agg #[.string ⟨#[]⟩], .bool false]) W by kernel_rfl)
  have k5 := fun W => (show (Instr.typeAssert (.iface 102 (.agg #[.int .i64 x.id, .int .i64 x.addr, .int .i64 x.port])) 71 98 true).run Tryd.prog W = .ok (.tuple #[.agg #[.int .i64 0, .int .i64 0, .int .i64 0, .int .i64 0], .bool false]) W by kernel_rfl)
  have k6 := fun W => (show (Instr.typeAssert (.iface 102 (.agg #[.int .i64 x.id, .int .i64 x.addr, .int .i64 x.port])) 71 100 true).run Tryd.prog W = .ok (.tuple #[.agg #[.int .i64 0, .int .i64 0, .int .i64 0, .string ⟨#[]⟩], .bool false]) W by kernel_rfl)
  have k7 := fun W => (show (Instr.typeAssert (.iface 102 (.agg #[.int .i64 x.id, .int .i64 x.addr, .int .i64 x.port])) 71 102 true).run Tryd.prog W = .ok (.tuple #[.agg #[.int .i64 x.id, .int .i64 x.addr, .int .i64 x.port], .bool true]) W by kernel_rfl)
  go_enter Tryd.func34, Tryd.ntmps34
  go_wp2_with (fail)
  refine bodyPost_ret (Cel.result (g := w.heap.size) (t := 39) (cs := (plain7 x).cells (.slice none 0 0)) ?h rfl _ rfl Tryd.underlying39 rfl (sizeOpt' _ _)) rfl ⟨rfl, ?b⟩
  case h => unfold Ov.cells; first | exact Cel.new _ _ _ | exact (Cel.new _ _ _).alloc _
  case b => first | exact (Below.refl _ _).alloc (Nat.le_refl _) _ | exact ((Below.refl _ _).alloc (Nat.le_refl _) _).alloc (by simp) _

set_option maxRecDepth 100000 in
set_option maxHeartbeats 1000000 in
theorem plo_8 (x : Ov) (a : Option Addr) (n c : Nat) (w : World) :
    Calls Tryd.prog 34 #[.iface 104 (.agg #[.slice a n c])] w fun e w' => e = .returned (.agg ((plain8 x).cells (.slice a n c))) ∧ Below w.heap.size w w' := by
  have k1 := fun W => (show (Instr.typeAssert (.iface 104 (.agg #[.slice a n c])) 71 90 true).run Tryd.prog W = .ok (.tuple #[.agg #[.string ⟨#[]⟩], .bool false]) W by kernel_rfl)
  have k2 := fun W => (show (Instr.typeAssert (.iface 104 (.agg #[.slice a n c])) 71 92 true).run Tryd.prog W = .ok (.tuple #[.agg #[.int .i64 0, .bool false, .int .i64 0, .int .i64 0], .bool false]) W by kernel_rfl)
  have k3 := fun W => (show (Instr.typeAssert (.iface 104 (.agg #[.slice a n c])) 71 94 true).run Tryd.prog W = .ok (.tuple #[.agg #[.int .i64 0, .bool false, .string ⟨#[]⟩, .int .i64 0], .bool false]) W by kernel_rfl)
  have k4 := fun W => (show (Instr.typeAssert (.iface 104 (.agg #[.slice a n c])) 71 96 true).run Tryd.prog W = .ok (.tuple #[.agg #[.string ⟨#[]⟩], .bool false]) W by kernel_rfl)
  have k5 := fun W => (show (Instr.typeAssert (.iface 104 (.agg #[.slice a n c])) 71 98 true).run Tryd.prog W = .ok (.tuple #[.agg #[.int .i64 0, .int .i64 0, .int .i64 0, .int .i64 0], .bool false]) W by kernel_rfl)
  have k6 := fun W => (show (Instr.typeAssert (.iface 104 (.agg #[.slice a n c])) 71 100 true).run Tryd.prog W = .ok (.tuple #[.agg #[.int .i64 0, .int .i64 0, .int .i64 0, .string ⟨#[]⟩], .bool false]) W by kernel_rfl)
  have k7 := fun W => (show (Instr.typeAssert (.iface 104 (.agg #[.slice a n c])) 71 102 true).run Tryd.prog W = .ok (.tuple #[.agg #[.int .i64 0, .int .i64 0, .int .i64 0], .bool false]) W by kernel_rfl)
  have k8 := fun W => (show (Instr.typeAssert (.iface 104 (.agg #[.slice a n c])) 71 104 true).run Tryd.prog W = .ok (.tuple #[.agg #[.slice a n c], .bool true]) W by kernel_rfl)
  go_enter Tryd.func34, Tryd.ntmps34
  go_wp2_with (fail)
  refine bodyPost_ret (Cel.result (g := w.heap.size) (t := 39) (cs := (plain8 x).cells (.slice a n c)) ?h rfl _ rfl Tryd.underlying39 rfl (sizeOpt' _ _)) rfl ⟨rfl, ?b⟩
  case h => unfold Ov.cells; first | exact Cel.new _ _ _ | exact (Cel.new _ _ _).alloc _
  case b => first | exact (Below.refl _ _).alloc (Nat.le_refl _) _ | exact ((Below.refl _ _).alloc (Nat.le_refl _) _).alloc (by simp) _

set_option maxRecDepth 100000 in
set_option maxHeartbeats 1000000 in
theorem plo_9 (x : Ov) (w : World) :
    Calls Tryd.prog 34 #[.iface 106 (.agg #[.int .i64 x.seq])] w fun e w' => e = .returned (.agg ((plain9 x).cells (.slice none 0 0))) ∧ Below w.heap.size w w' := by
  have k1 := fun W => (show (Instr.typeAssert (.iface 106 (.agg #[.int .i64 x.seq])) 71 90 true).run Tryd.prog W = .ok (.tuple #[.agg #[.string ⟨#[]⟩], .bool false]) W by kernel_rfl)
  have k2 := fun W => (show (Instr.typeAssert (.iface 106 (.agg #[.int .i64 x.seq])) 71 92 true).run Tryd.prog W = .ok (.tuple #[.agg #[.int .i64 0, .bool false, .int .i64 0, .int .i64 0], .bool false]) W by kernel_rfl)
  have k3 := fun W => (show (Instr.typeAssert (.iface 106 (.agg #[.int .i64 x.seq])) 71 94 true).run Tryd.prog W = .ok (.tuple #[.agg #[.int .i64 0, .bool false, .string ⟨#[]⟩, .int .i64 0], .bool false]) W by kernel_rfl)
  have k4 := fun W => (show (Instr.typeAssert (.iface 106 (.agg #[.int .i64 x.seq])) 71 96 true).run Tryd.prog W = .ok (.tuple #[.agg #[.string ⟨#[]⟩], .bool false]) W by kernel_rfl)
  have k5 := fun W => (show (Instr.typeAssert (.iface 106 (.agg #[.int .i64 x.seq])) 71 98 true).run Tryd.prog W = .ok (.tuple #[.agg #[.int .i64 0, .int .i64 0, .int .i64 0, .int .i64 0], .bool false]) W by kernel_rfl)
  have k6 := fun W => (show (Instr.typeAssert (.iface 106 (.agg #[.int .i64 x.seq])) 71 100 true).run Tryd.prog W = .ok (.tuple #[.agg #[.int .i64 0, .int .i64 0, .int .i64 0, .string ⟨#[]⟩], .bool false]) W by kernel_rfl)
  have k7 := fun W => (show (Instr.typeAssert (.iface 106 (.agg #[.int .i64 x.seq])) 71 102 true).run Tryd.prog W = .ok (.tuple #[.agg #[.int .i64 0, .int .i64 0, .int .i64 0], .bool false]) W by kernel_rfl)
  have k8 := fun W => (show (Instr.typeAssert (.iface 106 (.agg #[.int .i64 x.seq])) 71 104 true).run Tryd.prog W = .ok (.tuple #[.agg #[.slice none 0 0], .bool false]) W by kernel_rfl)
  have k9 := fun W => (show (Instr.typeAssert (.iface 106 (.agg #[.int .i64 x.seq])) 71 106 true).run Tryd.prog W = .ok (.tuple #[.agg #[.int .i64 x.seq], .bool true]) W by kernel_rfl)
  go_enter Tryd.func34, Tryd.ntmps34
  go_wp2_with (fail)
  refine bodyPost_ret (Cel.result (g := w.heap.size) (t := 39) (cs := (plain9 x).cells (.slice none 0 0)) ?h rfl _ rfl Tryd.underlying39 rfl (sizeOpt' _ _)) rfl ⟨rfl, ?b⟩
  case h => unfold Ov.cells; first | exact Cel.new _ _ _ | exact (Cel.new _ _ _).alloc _
  case b => first | exact (Below.refl _ _).alloc (Nat.le_refl _) _ | exact ((Below.refl _ _).alloc (Nat.le_refl _) _).alloc (by simp) _

set_option maxRecDepth 100000 in
set_option maxHeartbeats 1000000 in
theorem plo_10 (x : Ov) (w : World) :
    Calls Tryd.prog 34 #[.iface 107 (.agg #[.string x.key])] w fun e w' => e = .returned (.agg ((plain10 x).cells (.slice none 0 0))) ∧ Below w.heap.size w w' := by
  have k1 := fun W => (show (Instr.typeAssert (.iface 107 (.agg #[.string x.key])) 71 90 true).run Tryd.prog W = .ok (.tuple #[.agg #[.string ⟨#[]⟩], .bool false]) W by kernel_rfl)
  have k2 := fun W => (show (Instr.typeAssert (.iface 107 (.agg #[.string x.key])) 71 92 true).run Tryd.prog W = .ok (.tuple #[.agg #[.int .i64 0, .bool false, .int .i64 0, .int .i64 0], .bool false]) W by kernel_rfl)
  have k3 := fun W => (show (Instr.typeAssert (.iface 107 (.agg #[.string x.key])) 71 94 true).run Tryd.prog W = .ok (.tuple #[.agg #[.int .i64 0, .bool false, .string ⟨#[]⟩, .int .i64 0], .bool false]) W by kernel_rfl)
  have k4 := fun W => (show (Instr.typeAssert (.iface 107 (.agg #[.string x.key])) 71 96 true).run Tryd.prog W = .ok (.tuple #[.agg #[.string ⟨#[]⟩], .bool false]) W by kernel_rfl)
  have k5 := fun W => (show (Instr.typeAssert (.iface 107 (.agg #[.string x.key])) 71 98 true).run Tryd.prog W = .ok (.tuple #[.agg #[.int .i64 0, .int .i64 0, .int .i64 0, .int .i64 0], .bool false]) W by kernel_rfl)
  have k6 := fun W => (show (Instr.typeAssert (.iface 107 (.agg #[.string x.key])) 71 100 true).run Tryd.prog W = .ok (.tuple #[.agg #[.int .i64 0, .int .i64 0, .int .i64 0, .string ⟨#[]⟩], .bool false]) W by kernel_rfl)
  have k7 := fun W => (show (Instr.typeAssert (.iface 107 (.agg #[.string x.key])) 71 102 true).run Tryd.prog W = .ok (.tuple #[.agg #[.int .i64 0, .int .i64 0, .int .i64 0], .bool false]) W by kernel_rfl)
  have k8 := fun W => (show (Instr.typeAssert (.iface 107 (.agg #[.string x.key])) 71 104 true).run Tryd.prog W = .ok (.tuple #[.agg #[.slice none 0 0], .bool false]) W by kernel_rfl)
  have k9 := fun W => (show (Instr.typeAssert (.iface 107 (.agg #[.string x.key])) 71 106 true).run Tryd.prog W = .ok (.tuple #[.agg #[.int .i64 0], .bool false]) W by kernel_rfl)
  have k10 := fun W => (show (Instr.typeAssert (.iface 107 (.agg #[.string x.key])) 71 107 true).run Tryd.prog W = .ok (.tuple #[.agg #[.string x.key], .bool true]) W by kernel_rfl)
  go_enter Tryd.func34, Tryd.ntmps34
  go_wp2_with (fail)
  refine bodyPost_ret (Cel.result (g := w.heap.size) (t := 39) (cs := (plain10 x).cells (.slice none 0 0)) ?h rfl _ rfl Tryd.underlying39 rfl (sizeOpt' _ _)) rfl ⟨rfl, ?b⟩
  case h => unfold Ov.cells; first | exact Cel.new _ _ _ | exact (Cel.new _ _ _).alloc _
  case b => first | exact (Below.refl _ _).alloc (Nat.le_refl _) _ | exact ((Below.refl _ _).alloc (Nat.le_refl _) _).alloc (by simp) _

set_option maxRecDepth 100000 in
set_option maxHeartbeats 1000000 in
theorem plo_0 (w : World) :
    Calls Tryd.prog 34 #[.nilIface] w fun e w' => e = .returned (.agg (Ov.zero.cells (.slice none 0 0))) ∧ Below w.heap.size w w' := by
  have k1 := fun W => (show (Instr.typeAssert (.nilIface) 71 90 true).run Tryd.prog W = .ok (.tuple #[.agg #[.string ⟨#[]⟩], .bool false]) W by kernel_rfl)
  have k2 := fun W => (show (Instr.typeAssert (.nilIface) 71 92 true).run Tryd.prog W = .ok (.tuple #[.agg #[.int .i64 0, .bool false, .int .i64 0, .int .i64 0], .bool false]) W by kernel_rfl)
  have k3 := fun W => (show (Instr.typeAssert (.nilIface) 71 94 true).run Tryd.prog W = .ok (.tuple #[.agg #[.int .i64 0, .bool false, .string ⟨#[]⟩, .int .i64 0], .bool false]) W by kernel_rfl)
  have k4 := fun W => (show (Instr.typeAssert (.nilIface) 71 96 true).run Tryd.prog W = .ok (.tuple #[.agg #[.string ⟨#[]⟩], .bool false]) W by kernel_rfl)
  have k5 := fun W => (show (Instr.typeAssert (.nilIface) 71 98 true).run Tryd.prog W = .ok (.tuple #[.agg #[.int .i64 0, .int .i64 0, .int .i64 0, .int .i64 0], .bool false]) W by kernel_rfl)
  have k6 := fun W => (show (Instr.typeAssert (.nilIface) 71 100 true).run Tryd.prog W = .ok (.tuple #[.agg #[.int .i64 0, .int .i64 0, .int .i64 0, .string ⟨#[]⟩], .bool false]) W by kernel_rfl)
  have k7 := fun W => (show (Instr.typeAssert (.nilIface) 71 102 true).run Tryd.prog W = .ok (.tuple #[.agg #[.int .i64 0, .int .i64 0, .int .i64 0], .bool false]) W by kernel_rfl)
  have k8 := fun W => (show (Instr.typeAssert (.nilIface) 71 104 true).run Tryd.prog W = .ok (.tuple #[.agg #[.slice none 0 0], .bool false]) W by kernel_rfl)
  have k9 := fun W => (show (Instr.typeAssert (.nilIface) 71 106 true).run Tryd.prog W = .ok (.tuple #[.agg #[.int .i64 0], .bool false]) W by kernel_rfl)
  have k10 := fun W => (show (Instr.typeAssert (.nilIface) 71 107 true).run Tryd.prog W = .ok (.tuple #[.agg #[.string ⟨#[]⟩], .bool false]) W by kernel_rfl)
  go_enter Tryd.func34, Tryd.ntmps34
  go_wp2_with (fail)
  refine bodyPost_ret (Cel.result (g := w.heap.size) (t := 39) (cs := Ov.zero.cells (.slice none 0 0)) ?h rfl _ rfl Tryd.underlying39 rfl (sizeOpt' _ _)) rfl ⟨rfl, ?b⟩
  case h => unfold Ov.cells; first | exact Cel.new _ _ _ | exact (Cel.new _ _ _).alloc _
  case b => first | exact (Below.refl _ _).alloc (Nat.le_refl _) _ | exact ((Below.refl _ _).alloc (Nat.le_refl _) _).alloc (by simp) _

end Go.Proofs.YtnlbeoifmdfbjaaDoor
