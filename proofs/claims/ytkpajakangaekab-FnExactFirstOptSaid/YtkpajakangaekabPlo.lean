import Derived.Test.YtkpajakangaekabOv
import Derived.Lib.Hide
namespace Go.Proofs.Ytkpajakangaekab
open Go.RowKit

/-- An option of this kind, with what the kind has of x. -/
def plain1 (x : Ov) : Ov := { Ov.zero with kind := 1, key := x.key }
/-- An option of this kind, with what the kind has of x. -/
def plain2 (x : Ov) : Ov := { Ov.zero with kind := 2, id := x.id, flag := x.flag, token := x.token, nonce := x.nonce }
/-- An option of this kind, with what the kind has of x. -/
def plain3 (x : Ov) : Ov := { Ov.zero with kind := 3, id := x.id, flag := x.flag, mark := x.mark, nonce := x.nonce }
/-- An option of this kind, with what the kind has of x. -/
def plain4 (x : Ov) : Ov := { Ov.zero with kind := 4, mark := x.mark }
/-- An option of this kind, with what the kind has of x. -/
def plain5 (x : Ov) : Ov := { Ov.zero with kind := 5, ack := x.ack, seq := x.seq, sub := x.sub, len := x.len }
/-- An option of this kind, with what the kind has of x. -/
def plain6 (x : Ov) : Ov := { Ov.zero with kind := 6, id := x.id, addr := x.addr, port := x.port, mark := x.mark }
/-- An option of this kind, with what the kind has of x. -/
def plain7 (x : Ov) : Ov := { Ov.zero with kind := 7, id := x.id, addr := x.addr, port := x.port }
/-- An option of this kind, with what the kind has of x. -/
def plain8 (x : Ov) : Ov := { Ov.zero with kind := 8, ids := x.ids }
/-- An option of this kind, with what the kind has of x. -/
def plain9 (x : Ov) : Ov := { Ov.zero with kind := 9, seq := x.seq }
/-- An option of this kind, with what the kind has of x. -/
def plain10 (x : Ov) : Ov := { Ov.zero with kind := 10, key := x.key }
set_option maxRecDepth 100000 in
set_option maxHeartbeats 1000000 in
theorem plo_1 (x : Ov) (w : World) :
    Calls Try.prog 31 #[.iface 85 (.agg #[.string x.key])] w fun e w' => e = .returned (.agg ((plain1 x).cells (.slice none 0 0))) ∧ Below w.heap.size w w' := by
  have k1 := fun W => (show (Instr.typeAssert (.iface 85 (.agg #[.string x.key])) 54 85 true).run Try.prog W = .ok (.tuple #[.agg #[.string x.key], .bool true]) W by kernel_rfl)
  go_enter Try.func31, Try.ntmps31
  go_wp2_with (fail)
  refine bodyPost_ret (Cel.result (g := w.heap.size) (t := 26) (cs := (plain1 x).cells (.slice none 0 0)) ?h rfl _ rfl Try.underlying26 rfl (sizeOpt' _ _)) rfl ⟨rfl, ?b⟩
  case h => unfold Ov.cells; first | exact Cel.new _ _ _ | exact (Cel.new _ _ _).alloc _
  case b => first | exact (Below.refl _ _).alloc (Nat.le_refl _) _ | exact ((Below.refl _ _).alloc (Nat.le_refl _) _).alloc (by simp) _

set_option maxRecDepth 100000 in
set_option maxHeartbeats 1000000 in
theorem plo_2 (x : Ov) (w : World) :
    Calls Try.prog 31 #[.iface 87 (.agg #[.int .i64 x.id, .bool x.flag, .int .i64 x.token, .int .i64 x.nonce])] w fun e w' => e = .returned (.agg ((plain2 x).cells (.slice none 0 0))) ∧ Below w.heap.size w w' := by
  have k1 := fun W => (show (Instr.typeAssert (.iface 87 (.agg #[.int .i64 x.id, .bool x.flag, .int .i64 x.token, .int .i64 x.nonce])) 54 85 true).run Try.prog W = .ok (.tuple #[.agg #[.string ⟨#[]⟩], .bool false]) W by kernel_rfl)
  have k2 := fun W => (show (Instr.typeAssert (.iface 87 (.agg #[.int .i64 x.id, .bool x.flag, .int .i64 x.token, .int .i64 x.nonce])) 54 87 true).run Try.prog W = .ok (.tuple #[.agg #[.int .i64 x.id, .bool x.flag, .int .i64 x.token, .int .i64 x.nonce], .bool true]) W by kernel_rfl)
  go_enter Try.func31, Try.ntmps31
  go_wp2_with (fail)
  refine bodyPost_ret (Cel.result (g := w.heap.size) (t := 26) (cs := (plain2 x).cells (.slice none 0 0)) ?h rfl _ rfl Try.underlying26 rfl (sizeOpt' _ _)) rfl ⟨rfl, ?b⟩
  case h => unfold Ov.cells; first | exact Cel.new _ _ _ | exact (Cel.new _ _ _).alloc _
  case b => first | exact (Below.refl _ _).alloc (Nat.le_refl _) _ | exact ((Below.refl _ _).alloc (Nat.le_refl _) _).alloc (by simp) _

set_option maxRecDepth 100000 in
set_option maxHeartbeats 1000000 in
theorem plo_3 (x : Ov) (w : World) :
    Calls Try.prog 31 #[.iface 89 (.agg #[.int .i64 x.id, .bool x.flag, .string x.mark, .int .i64 x.nonce])] w fun e w' => e = .returned (.agg ((plain3 x).cells (.slice none 0 0))) ∧ Below w.heap.size w w' := by
  have k1 := fun W => (show (Instr.typeAssert (.iface 89 (.agg #[.int .i64 x.id, .bool x.flag, .string x.mark, .int .i64 x.nonce])) 54 85 true).run Try.prog W = .ok (.tuple #[.agg #[.string ⟨#[]⟩], .bool false]) W by kernel_rfl)
  have k2 := fun W => (show (Instr.typeAssert (.iface 89 (.agg #[.int .i64 x.id, .bool x.flag, .string x.mark, .int .i64 x.nonce])) 54 87 true).run Try.prog W = .ok (.tuple #[.agg #[.int .i64 0, .bool false, .int .i64 0, .int .i64 0], .bool false]) W by kernel_rfl)
  have k3 := fun W => (show (Instr.typeAssert (.iface 89 (.agg #[.int .i64 x.id, .bool x.flag, .string x.mark, .int .i64 x.nonce])) 54 89 true).run Try.prog W = .ok (.tuple #[.agg #[.int .i64 x.id, .bool x.flag, .string x.mark, .int .i64 x.nonce], .bool true]) W by kernel_rfl)
  go_enter Try.func31, Try.ntmps31
  go_wp2_with (fail)
  refine bodyPost_ret (Cel.result (g := w.heap.size) (t := 26) (cs := (plain3 x).cells (.slice none 0 0)) ?h rfl _ rfl Try.underlying26 rfl (sizeOpt' _ _)) rfl ⟨rfl, ?b⟩
  case h => unfold Ov.cells; first | exact Cel.new _ _ _ | exact (Cel.new _ _ _).alloc _
  case b => first | exact (Below.refl _ _).alloc (Nat.le_refl _) _ | exact ((Below.refl _ _).alloc (Nat.le_refl _) _).alloc (by simp) _

set_option maxRecDepth 100000 in
set_option maxHeartbeats 1000000 in
theorem plo_4 (x : Ov) (w : World) :
    Calls Try.prog 31 #[.iface 91 (.agg #[.string x.mark])] w fun e w' => e = .returned (.agg ((plain4 x).cells (.slice none 0 0))) ∧ Below w.heap.size w w' := by
  have k1 := fun W => (show (Instr.typeAssert (.iface 91 (.agg #[.string x.mark])) 54 85 true).run Try.prog W = .ok (.tuple #[.agg #[.string ⟨#[]⟩], .bool false]) W by kernel_rfl)
  have k2 := fun W => (show (Instr.typeAssert (.iface 91 (.agg #[.string x.mark])) 54 87 true).run Try.prog W = .ok (.tuple #[.agg #[.int .i64 0, .bool false, .int .i64 0, .int .i64 0], .bool false]) W by kernel_rfl)
  have k3 := fun W => (show (Instr.typeAssert (.iface 91 (.agg #[.string x.mark])) 54 89 true).run Try.prog W = .ok (.tuple #[.agg #[.int .i64 0, .bool false, .string ⟨#[]⟩, .int .i64 0], .bool false]) W by kernel_rfl)
  have k4 := fun W => (show (Instr.typeAssert (.iface 91 (.agg #[.string x.mark])) 54 91 true).run Try.prog W = .ok (.tuple #[.agg #[.string x.mark], .bool true]) W by kernel_rfl)
  go_enter Try.func31, Try.ntmps31
  go_wp2_with (fail)
  refine bodyPost_ret (Cel.result (g := w.heap.size) (t := 26) (cs := (plain4 x).cells (.slice none 0 0)) ?h rfl _ rfl Try.underlying26 rfl (sizeOpt' _ _)) rfl ⟨rfl, ?b⟩
  case h => unfold Ov.cells; first | exact Cel.new _ _ _ | exact (Cel.new _ _ _).alloc _
  case b => first | exact (Below.refl _ _).alloc (Nat.le_refl _) _ | exact ((Below.refl _ _).alloc (Nat.le_refl _) _).alloc (by simp) _

set_option maxRecDepth 100000 in
set_option maxHeartbeats 1000000 in
theorem plo_5 (x : Ov) (w : World) :
    Calls Try.prog 31 #[.iface 93 (.agg #[.int .i64 x.ack, .int .i64 x.seq, .int .i64 x.sub, .int .i64 x.len])] w fun e w' => e = .returned (.agg ((plain5 x).cells (.slice none 0 0))) ∧ Below w.heap.size w w' := by
  have k1 := fun W => (show (Instr.typeAssert (.iface 93 (.agg #[.int .i64 x.ack, .int .i64 x.seq, .int .i64 x.sub, .int .i64 x.len])) 54 85 true).run Try.prog W = .ok (.tuple #[.agg #[.string ⟨#[]⟩], .bool false]) W by kernel_rfl)
  have k2 := fun W => (show (Instr.typeAssert (.iface 93 (.agg #[.int .i64 x.ack, .int .i64 x.seq, .int .i64 x.sub, .int .i64 x.len])) 54 87 true).run Try.prog W = .ok (.tuple #[.agg #[.int .i64 0, .bool false, .int .i64 0, .int .i64 0], .bool false]) W by kernel_rfl)
  have k3 := fun W => (show (Instr.typeAssert (.iface 93 (.agg #[.int .i64 x.ack, .int .i64 x.seq, .int .i64 x.sub, .int .i64 x.len])) 54 89 true).run Try.prog W = .ok (.tuple #[.agg #[.int .i64 0, .bool false, .string ⟨#[]⟩, .int .i64 0], .bool false]) W by kernel_rfl)
  have k4 := fun W => (show (Instr.typeAssert (.iface 93 (.agg #[.int .i64 x.ack, .int .i64 x.seq, .int .i64 x.sub, .int .i64 x.len])) 54 91 true).run Try.prog W = .ok (.tuple #[.agg #[.string ⟨#[]⟩], .bool false]) W by kernel_rfl)
  have k5 := fun W => (show (Instr.typeAssert (.iface 93 (.agg #[.int .i64 x.ack, .int .i64 x.seq, .int .i64 x.sub, .int .i64 x.len])) 54 93 true).run Try.prog W = .ok (.tuple #[.agg #[.int .i64 x.ack, .int .i64 x.seq, .int .i64 x.sub, .int .i64 x.len], .bool true]) W by kernel_rfl)
  go_enter Try.func31, Try.ntmps31
  go_wp2_with (fail)
  refine bodyPost_ret (Cel.result (g := w.heap.size) (t := 26) (cs := (plain5 x).cells (.slice none 0 0)) ?h rfl _ rfl Try.underlying26 rfl (sizeOpt' _ _)) rfl ⟨rfl, ?b⟩
  case h => unfold Ov.cells; first | exact Cel.new _ _ _ | exact (Cel.new _ _ _).alloc _
  case b => first | exact (Below.refl _ _).alloc (Nat.le_refl _) _ | exact ((Below.refl _ _).alloc (Nat.le_refl _) _).alloc (by simp) _

set_option maxRecDepth 100000 in
set_option maxHeartbeats 1000000 in
theorem plo_6 (x : Ov) (w : World) :
    Calls Try.prog 31 #[.iface 95 (.agg #[.int .i64 x.id, .int .i64 x.addr, .int .i64 x.port, .string x.mark])] w fun e w' => e = .returned (.agg ((plain6 x).cells (.slice none 0 0))) ∧ Below w.heap.size w w' := by
  have k1 := fun W => (show (Instr.typeAssert (.iface 95 (.agg #[.int .i64 x.id, .int .i64 x.addr, .int .i64 x.port, .string x.mark])) 54 85 true).run Try.prog W = .ok (.tuple #[.agg #[.string ⟨#[]⟩], .bool false]) W by kernel_rfl)
  have k2 := fun W => (show (Instr.typeAssert (.iface 95 (.agg #[.int .i64 x.id, .int .i64 x.addr, .int .i64 x.port, .string x.mark])) 54 87 true).run Try.prog W = .ok (.tuple #[.agg #[.int .i64 0, .bool false, .int .i64 0, .int .i64 0], .bool false]) W by kernel_rfl)
  have k3 := fun W => (show (Instr.typeAssert (.iface 95 (.agg #[.int .i64 x.id, .int .i64 x.addr, .int .i64 x.port, .string x.mark])) 54 89 true).run Try.prog W = .ok (.tuple #[.agg #[.int .i64 0, .bool false, .string ⟨#[]⟩, .int .i64 0], .bool false]) W by kernel_rfl)
  have k4 := fun W => (show (Instr.typeAssert (.iface 95 (.agg #[.int .i64 x.id, .int .i64 x.addr, .int .i64 x.port, .string x.mark])) 54 91 true).run Try.prog W = .ok (.tuple #[.agg #[.string ⟨#[]⟩], .bool false]) W by kernel_rfl)
  have k5 := fun W => (show (Instr.typeAssert (.iface 95 (.agg #[.int .i64 x.id, .int .i64 x.addr, .int .i64 x.port, .string x.mark])) 54 93 true).run Try.prog W = .ok (.tuple #[.agg #[.int .i64 0, .int .i64 0, .int .i64 0, .int .i64 0], .bool false]) W by kernel_rfl)
  have k6 := fun W => (show (Instr.typeAssert (.iface 95 (.agg #[.int .i64 x.id, .int .i64 x.addr, .int .i64 x.port, .string x.mark])) 54 95 true).run Try.prog W = .ok (.tuple #[.agg #[.int .i64 x.id, .int .i64 x.addr, .int .i64 x.port, .string x.mark], .bool true]) W by kernel_rfl)
  go_enter Try.func31, Try.ntmps31
  go_wp2_with (fail)
  refine bodyPost_ret (Cel.result (g := w.heap.size) (t := 26) (cs := (plain6 x).cells (.slice none 0 0)) ?h rfl _ rfl Try.underlying26 rfl (sizeOpt' _ _)) rfl ⟨rfl, ?b⟩
  case h => unfold Ov.cells; first | exact Cel.new _ _ _ | exact (Cel.new _ _ _).alloc _
  case b => first | exact (Below.refl _ _).alloc (Nat.le_refl _) _ | exact ((Below.refl _ _).alloc (Nat.le_refl _) _).alloc (by simp) _

set_option maxRecDepth 100000 in
set_option maxHeartbeats 1000000 in
theorem plo_7 (x : Ov) (w : World) :
    Calls Try.prog 31 #[.iface 97 (.agg #[.int .i64 x.id, .int .i64 x.addr, .int .i64 x.port])] w fun e w' => e = .returned (.agg ((plain7 x).cells (.slice none 0 0))) ∧ Below w.heap.size w w' := by
  have k1 := fun W => (show (Instr.typeAssert (.iface 97 (.agg #[.int .i64 x.id, .int .i64 x.addr, .int .i64 x.port])) 54 85 true).run Try.prog W = .ok (.tuple #[.agg #[.string ⟨#[]⟩], .bool false]) W by kernel_rfl)
  have k2 := fun W => (show (Instr.typeAssert (.iface 97 (.agg #[.int .i64 x.id, .int .i64 x.addr, .int .i64 x.port])) 54 87 true).run Try.prog W = .ok (.tuple #[.agg #[.int .i64 0, .bool false, .int .i64 0, .int .i64 0], .bool false]) W by kernel_rfl)
  have k3 := fun W => (show (Instr.typeAssert (.iface 97 (.agg #[.int .i64 x.id, .int .i64 x.addr, .int .i64 x.port])) 54 89 true).run Try.prog W = .ok (.tuple #[.agg #[.int .i64 0, .bool false, .string ⟨#[]⟩, .int .i64 0], .bool false]) W by kernel_rfl)
  have k4 := fun W => (show (Instr.typeAssert (.iface 97 (.agg #[.int .i64 x.id, .int .i64 x.addr, .int .i64 x.port])) 54 91 true).run Try.prog W = .ok (.tuple #[.agg #[.string ⟨#[]⟩], .bool false]) W by kernel_rfl)
  have k5 := fun W => (show (Instr.typeAssert (.iface 97 (.agg #[.int .i64 x.id, .int .i64 x.addr, .int .i64 x.port])) 54 93 true).run Try.prog W = .ok (.tuple #[.agg #[.int .i64 0, .int .i64 0, .int .i64 0, .int .i64 0], .bool false]) W by kernel_rfl)
  have k6 := fun W => (show (Instr.typeAssert (.iface 97 (.agg #[.int .i64 x.id, .int .i64 x.addr, .int .i64 x.port])) 54 95 true).run Try.prog W = .ok (.tuple #[.agg #[.int .i64 0, .int .i64 0, .int .i64 0, .string ⟨#[]⟩], .bool false]) W by kernel_rfl)
  have k7 := fun W => (show (Instr.typeAssert (.iface 97 (.agg #[.int .i64 x.id, .int .i64 x.addr, .int .i64 x.port])) 54 97 true).run Try.prog W = .ok (.tuple #[.agg #[.int .i64 x.id, .int .i64 x.addr, .int .i64 x.port], .bool true]) W by kernel_rfl)
  go_enter Try.func31, Try.ntmps31
  go_wp2_with (fail)
  refine bodyPost_ret (Cel.result (g := w.heap.size) (t := 26) (cs := (plain7 x).cells (.slice none 0 0)) ?h rfl _ rfl Try.underlying26 rfl (sizeOpt' _ _)) rfl ⟨rfl, ?b⟩
  case h => unfold Ov.cells; first | exact Cel.new _ _ _ | exact (Cel.new _ _ _).alloc _
  case b => first | exact (Below.refl _ _).alloc (Nat.le_refl _) _ | exact ((Below.refl _ _).alloc (Nat.le_refl _) _).alloc (by simp) _

set_option maxRecDepth 100000 in
set_option maxHeartbeats 1000000 in
theorem plo_8 (x : Ov) (a : Option Addr) (n c : Nat) (w : World) :
    Calls Try.prog 31 #[.iface 99 (.agg #[.slice a n c])] w fun e w' => e = .returned (.agg ((plain8 x).cells (.slice a n c))) ∧ Below w.heap.size w w' := by
  have k1 := fun W => (show (Instr.typeAssert (.iface 99 (.agg #[.slice a n c])) 54 85 true).run Try.prog W = .ok (.tuple #[.agg #[.string ⟨#[]⟩], .bool false]) W by kernel_rfl)
  have k2 := fun W => (show (Instr.typeAssert (.iface 99 (.agg #[.slice a n c])) 54 87 true).run Try.prog W = .ok (.tuple #[.agg #[.int .i64 0, .bool false, .int .i64 0, .int .i64 0], .bool false]) W by kernel_rfl)
  have k3 := fun W => (show (Instr.typeAssert (.iface 99 (.agg #[.slice a n c])) 54 89 true).run Try.prog W = .ok (.tuple #[.agg #[.int .i64 0, .bool false, .string ⟨#[]⟩, .int .i64 0], .bool false]) W by kernel_rfl)
  have k4 := fun W => (show (Instr.typeAssert (.iface 99 (.agg #[.slice a n c])) 54 91 true).run Try.prog W = .ok (.tuple #[.agg #[.string ⟨#[]⟩], .bool false]) W by kernel_rfl)
  have k5 := fun W => (show (Instr.typeAssert (.iface 99 (.agg #[.slice a n c])) 54 93 true).run Try.prog W = .ok (.tuple #[.agg #[.int .i64 0, .int .i64 0, .int .i64 0, .int .i64 0], .bool false]) W by kernel_rfl)
  have k6 := fun W => (show (Instr.typeAssert (.iface 99 (.agg #[.slice a n c])) 54 95 true).run Try.prog W = .ok (.tuple #[.agg #[.int .i64 0, .int .i64 0, .int .i64 0, .string ⟨#[]⟩], .bool false]) W by kernel_rfl)
  have k7 := fun W => (show (Instr.typeAssert (.iface 99 (.agg #[.slice a n c])) 54 97 true).run Try.prog W = .ok (.tuple #[.agg #[.int .i64 0, .int .i64 0, .int .i64 0], .bool false]) W by kernel_rfl)
  have k8 := fun W => (show (Instr.typeAssert (.iface 99 (.agg #[.slice a n c])) 54 99 true).run Try.prog W = .ok (.tuple #[.agg #[.slice a n c], .bool true]) W by kernel_rfl)
  go_enter Try.func31, Try.ntmps31
  go_wp2_with (fail)
  refine bodyPost_ret (Cel.result (g := w.heap.size) (t := 26) (cs := (plain8 x).cells (.slice a n c)) ?h rfl _ rfl Try.underlying26 rfl (sizeOpt' _ _)) rfl ⟨rfl, ?b⟩
  case h => unfold Ov.cells; first | exact Cel.new _ _ _ | exact (Cel.new _ _ _).alloc _
  case b => first | exact (Below.refl _ _).alloc (Nat.le_refl _) _ | exact ((Below.refl _ _).alloc (Nat.le_refl _) _).alloc (by simp) _

set_option maxRecDepth 100000 in
set_option maxHeartbeats 1000000 in
theorem plo_9 (x : Ov) (w : World) :
    Calls Try.prog 31 #[.iface 101 (.agg #[.int .i64 x.seq])] w fun e w' => e = .returned (.agg ((plain9 x).cells (.slice none 0 0))) ∧ Below w.heap.size w w' := by
  have k1 := fun W => (show (Instr.typeAssert (.iface 101 (.agg #[.int .i64 x.seq])) 54 85 true).run Try.prog W = .ok (.tuple #[.agg #[.string ⟨#[]⟩], .bool false]) W by kernel_rfl)
  have k2 := fun W => (show (Instr.typeAssert (.iface 101 (.agg #[.int .i64 x.seq])) 54 87 true).run Try.prog W = .ok (.tuple #[.agg #[.int .i64 0, .bool false, .int .i64 0, .int .i64 0], .bool false]) W by kernel_rfl)
  have k3 := fun W => (show (Instr.typeAssert (.iface 101 (.agg #[.int .i64 x.seq])) 54 89 true).run Try.prog W = .ok (.tuple #[.agg #[.int .i64 0, .bool false, .string ⟨#[]⟩, .int .i64 0], .bool false]) W by kernel_rfl)
  have k4 := fun W => (show (Instr.typeAssert (.iface 101 (.agg #[.int .i64 x.seq])) 54 91 true).run Try.prog W = .ok (.tuple #[.agg #[.string ⟨#[]⟩], .bool false]) W by kernel_rfl)
  have k5 := fun W => (show (Instr.typeAssert (.iface 101 (.agg #[.int .i64 x.seq])) 54 93 true).run Try.prog W = .ok (.tuple #[.agg #[.int .i64 0, .int .i64 0, .int .i64 0, .int .i64 0], .bool false]) W by kernel_rfl)
  have k6 := fun W => (show (Instr.typeAssert (.iface 101 (.agg #[.int .i64 x.seq])) 54 95 true).run Try.prog W = .ok (.tuple #[.agg #[.int .i64 0, .int .i64 0, .int .i64 0, .string ⟨#[]⟩], .bool false]) W by kernel_rfl)
  have k7 := fun W => (show (Instr.typeAssert (.iface 101 (.agg #[.int .i64 x.seq])) 54 97 true).run Try.prog W = .ok (.tuple #[.agg #[.int .i64 0, .int .i64 0, .int .i64 0], .bool false]) W by kernel_rfl)
  have k8 := fun W => (show (Instr.typeAssert (.iface 101 (.agg #[.int .i64 x.seq])) 54 99 true).run Try.prog W = .ok (.tuple #[.agg #[.slice none 0 0], .bool false]) W by kernel_rfl)
  have k9 := fun W => (show (Instr.typeAssert (.iface 101 (.agg #[.int .i64 x.seq])) 54 101 true).run Try.prog W = .ok (.tuple #[.agg #[.int .i64 x.seq], .bool true]) W by kernel_rfl)
  go_enter Try.func31, Try.ntmps31
  go_wp2_with (fail)
  refine bodyPost_ret (Cel.result (g := w.heap.size) (t := 26) (cs := (plain9 x).cells (.slice none 0 0)) ?h rfl _ rfl Try.underlying26 rfl (sizeOpt' _ _)) rfl ⟨rfl, ?b⟩
  case h => unfold Ov.cells; first | exact Cel.new _ _ _ | exact (Cel.new _ _ _).alloc _
  case b => first | exact (Below.refl _ _).alloc (Nat.le_refl _) _ | exact ((Below.refl _ _).alloc (Nat.le_refl _) _).alloc (by simp) _

set_option maxRecDepth 100000 in
set_option maxHeartbeats 1000000 in
theorem plo_10 (x : Ov) (w : World) :
    Calls Try.prog 31 #[.iface 102 (.agg #[.string x.key])] w fun e w' => e = .returned (.agg ((plain10 x).cells (.slice none 0 0))) ∧ Below w.heap.size w w' := by
  have k1 := fun W => (show (Instr.typeAssert (.iface 102 (.agg #[.string x.key])) 54 85 true).run Try.prog W = .ok (.tuple #[.agg #[.string ⟨#[]⟩], .bool false]) W by kernel_rfl)
  have k2 := fun W => (show (Instr.typeAssert (.iface 102 (.agg #[.string x.key])) 54 87 true).run Try.prog W = .ok (.tuple #[.agg #[.int .i64 0, .bool false, .int .i64 0, .int .i64 0], .bool false]) W by kernel_rfl)
  have k3 := fun W => (show (Instr.typeAssert (.iface 102 (.agg #[.string x.key])) 54 89 true).run Try.prog W = .ok (.tuple #[.agg #[.int .i64 0, .bool false, .string ⟨#[]⟩, .int .i64 0], .bool false]) W by kernel_rfl)
  have k4 := fun W => (show (Instr.typeAssert (.iface 102 (.agg #[.string x.key])) 54 91 true).run Try.prog W = .ok (.tuple #[.agg #[.string ⟨#[]⟩], .bool false]) W by kernel_rfl)
  have k5 := fun W => (show (Instr.typeAssert (.iface 102 (.agg #[.string x.key])) 54 93 true).run Try.prog W = .ok (.tuple #[.agg #[.int .i64 0, .int .i64 0, .int .i64 0, .int .i64 0], .bool false]) W by kernel_rfl)
  have k6 := fun W => (show (Instr.typeAssert (.iface 102 (.agg #[.string x.key])) 54 95 true).run Try.prog W = .ok (.tuple #[.agg #[.int .i64 0, .int .i64 0, .int .i64 0, .string ⟨#[]⟩], .bool false]) W by kernel_rfl)
  have k7 := fun W => (show (Instr.typeAssert (.iface 102 (.agg #[.string x.key])) 54 97 true).run Try.prog W = .ok (.tuple #[.agg #[.int .i64 0, .int .i64 0, .int .i64 0], .bool false]) W by kernel_rfl)
  have k8 := fun W => (show (Instr.typeAssert (.iface 102 (.agg #[.string x.key])) 54 99 true).run Try.prog W = .ok (.tuple #[.agg #[.slice none 0 0], .bool false]) W by kernel_rfl)
  have k9 := fun W => (show (Instr.typeAssert (.iface 102 (.agg #[.string x.key])) 54 101 true).run Try.prog W = .ok (.tuple #[.agg #[.int .i64 0], .bool false]) W by kernel_rfl)
  have k10 := fun W => (show (Instr.typeAssert (.iface 102 (.agg #[.string x.key])) 54 102 true).run Try.prog W = .ok (.tuple #[.agg #[.string x.key], .bool true]) W by kernel_rfl)
  go_enter Try.func31, Try.ntmps31
  go_wp2_with (fail)
  refine bodyPost_ret (Cel.result (g := w.heap.size) (t := 26) (cs := (plain10 x).cells (.slice none 0 0)) ?h rfl _ rfl Try.underlying26 rfl (sizeOpt' _ _)) rfl ⟨rfl, ?b⟩
  case h => unfold Ov.cells; first | exact Cel.new _ _ _ | exact (Cel.new _ _ _).alloc _
  case b => first | exact (Below.refl _ _).alloc (Nat.le_refl _) _ | exact ((Below.refl _ _).alloc (Nat.le_refl _) _).alloc (by simp) _

set_option maxRecDepth 100000 in
set_option maxHeartbeats 1000000 in
theorem plo_0 (w : World) :
    Calls Try.prog 31 #[.nilIface] w fun e w' => e = .returned (.agg (Ov.zero.cells (.slice none 0 0))) ∧ Below w.heap.size w w' := by
  have k1 := fun W => (show (Instr.typeAssert (.nilIface) 54 85 true).run Try.prog W = .ok (.tuple #[.agg #[.string ⟨#[]⟩], .bool false]) W by kernel_rfl)
  have k2 := fun W => (show (Instr.typeAssert (.nilIface) 54 87 true).run Try.prog W = .ok (.tuple #[.agg #[.int .i64 0, .bool false, .int .i64 0, .int .i64 0], .bool false]) W by kernel_rfl)
  have k3 := fun W => (show (Instr.typeAssert (.nilIface) 54 89 true).run Try.prog W = .ok (.tuple #[.agg #[.int .i64 0, .bool false, .string ⟨#[]⟩, .int .i64 0], .bool false]) W by kernel_rfl)
  have k4 := fun W => (show (Instr.typeAssert (.nilIface) 54 91 true).run Try.prog W = .ok (.tuple #[.agg #[.string ⟨#[]⟩], .bool false]) W by kernel_rfl)
  have k5 := fun W => (show (Instr.typeAssert (.nilIface) 54 93 true).run Try.prog W = .ok (.tuple #[.agg #[.int .i64 0, .int .i64 0, .int .i64 0, .int .i64 0], .bool false]) W by kernel_rfl)
  have k6 := fun W => (show (Instr.typeAssert (.nilIface) 54 95 true).run Try.prog W = .ok (.tuple #[.agg #[.int .i64 0, .int .i64 0, .int .i64 0, .string ⟨#[]⟩], .bool false]) W by kernel_rfl)
  have k7 := fun W => (show (Instr.typeAssert (.nilIface) 54 97 true).run Try.prog W = .ok (.tuple #[.agg #[.int .i64 0, .int .i64 0, .int .i64 0], .bool false]) W by kernel_rfl)
  have k8 := fun W => (show (Instr.typeAssert (.nilIface) 54 99 true).run Try.prog W = .ok (.tuple #[.agg #[.slice none 0 0], .bool false]) W by kernel_rfl)
  have k9 := fun W => (show (Instr.typeAssert (.nilIface) 54 101 true).run Try.prog W = .ok (.tuple #[.agg #[.int .i64 0], .bool false]) W by kernel_rfl)
  have k10 := fun W => (show (Instr.typeAssert (.nilIface) 54 102 true).run Try.prog W = .ok (.tuple #[.agg #[.string ⟨#[]⟩], .bool false]) W by kernel_rfl)
  go_enter Try.func31, Try.ntmps31
  go_wp2_with (fail)
  refine bodyPost_ret (Cel.result (g := w.heap.size) (t := 26) (cs := Ov.zero.cells (.slice none 0 0)) ?h rfl _ rfl Try.underlying26 rfl (sizeOpt' _ _)) rfl ⟨rfl, ?b⟩
  case h => unfold Ov.cells; first | exact Cel.new _ _ _ | exact (Cel.new _ _ _).alloc _
  case b => first | exact (Below.refl _ _).alloc (Nat.le_refl _) _ | exact ((Below.refl _ _).alloc (Nat.le_refl _) _).alloc (by simp) _

end Go.Proofs.Ytkpajakangaekab
