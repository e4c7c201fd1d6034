import Derived.Test.YtkpajakangaekabOv
import Derived.Lib.Hide
namespace Go.Proofs.Ytkpajakangaekab
open Go.RowKit

set_option maxRecDepth 100000 in
theorem opo_1 (o : Ov) (v : Value) (w : World) (h : o.kind = 1) :
    Calls Try.prog 30 #[.agg (o.cells v)] w fun e w' => e = .returned (.iface 85 (.agg #[.string o.key])) ∧ Below w.heap.size w w' := by
  obtain ⟨a0, a1, a2, a3, a4, a5, a6, a7, a8, a9, a10, a11, a12, a13⟩ := o.ats v
  rw [h] at a0
  clear h
  go_enter Try.func30, Try.ntmps30
  go_wp2_with (fail)
  go_ret
  exact ⟨rfl, (Below.refl _ _).alloc (Nat.le_refl _) _⟩

set_option maxRecDepth 100000 in
theorem opo_2 (o : Ov) (v : Value) (w : World) (h : o.kind = 2) :
    Calls Try.prog 30 #[.agg (o.cells v)] w fun e w' => e = .returned (.iface 87 (.agg #[.int .i64 o.id, .bool o.flag, .int .i64 o.token, .int .i64 o.nonce])) ∧ Below w.heap.size w w' := by
  obtain ⟨a0, a1, a2, a3, a4, a5, a6, a7, a8, a9, a10, a11, a12, a13⟩ := o.ats v
  rw [h] at a0
  clear h
  go_enter Try.func30, Try.ntmps30
  go_wp2_with (fail)
  go_ret
  exact ⟨rfl, (Below.refl _ _).alloc (Nat.le_refl _) _⟩

set_option maxRecDepth 100000 in
theorem opo_3 (o : Ov) (v : Value) (w : World) (h : o.kind = 3) :
    Calls Try.prog 30 #[.agg (o.cells v)] w fun e w' => e = .returned (.iface 89 (.agg #[.int .i64 o.id, .bool o.flag, .string o.mark, .int .i64 o.nonce])) ∧ Below w.heap.size w w' := by
  obtain ⟨a0, a1, a2, a3, a4, a5, a6, a7, a8, a9, a10, a11, a12, a13⟩ := o.ats v
  rw [h] at a0
  clear h
  go_enter Try.func30, Try.ntmps30
  go_wp2_with (fail)
  go_ret
  exact ⟨rfl, (Below.refl _ _).alloc (Nat.le_refl _) _⟩

set_option maxRecDepth 100000 in
theorem opo_4 (o : Ov) (v : Value) (w : World) (h : o.kind = 4) :
    Calls Try.prog 30 #[.agg (o.cells v)] w fun e w' => e = .returned (.iface 91 (.agg #[.string o.mark])) ∧ Below w.heap.size w w' := by
  obtain ⟨a0, a1, a2, a3, a4, a5, a6, a7, a8, a9, a10, a11, a12, a13⟩ := o.ats v
  rw [h] at a0
  clear h
  go_enter Try.func30, Try.ntmps30
  go_wp2_with (fail)
  go_ret
  exact ⟨rfl, (Below.refl _ _).alloc (Nat.le_refl _) _⟩

set_option maxRecDepth 100000 in
theorem opo_5 (o : Ov) (v : Value) (w : World) (h : o.kind = 5) :
    Calls Try.prog 30 #[.agg (o.cells v)] w fun e w' => e = .returned (.iface 93 (.agg #[.int .i64 o.ack, .int .i64 o.seq, .int .i64 o.sub, .int .i64 o.len])) ∧ Below w.heap.size w w' := by
  obtain ⟨a0, a1, a2, a3, a4, a5, a6, a7, a8, a9, a10, a11, a12, a13⟩ := o.ats v
  rw [h] at a0
  clear h
  go_enter Try.func30, Try.ntmps30
  go_wp2_with (fail)
  go_ret
  exact ⟨rfl, (Below.refl _ _).alloc (Nat.le_refl _) _⟩

set_option maxRecDepth 100000 in
theorem opo_6 (o : Ov) (v : Value) (w : World) (h : o.kind = 6) :
    Calls Try.prog 30 #[.agg (o.cells v)] w fun e w' => e = .returned (.iface 95 (.agg #[.int .i64 o.id, .int .i64 o.addr, .int .i64 o.port, .string o.mark])) ∧ Below w.heap.size w w' := by
  obtain ⟨a0, a1, a2, a3, a4, a5, a6, a7, a8, a9, a10, a11, a12, a13⟩ := o.ats v
  rw [h] at a0
  clear h
  go_enter Try.func30, Try.ntmps30
  go_wp2_with (fail)
  go_ret
  exact ⟨rfl, (Below.refl _ _).alloc (Nat.le_refl _) _⟩

set_option maxRecDepth 100000 in
theorem opo_7 (o : Ov) (v : Value) (w : World) (h : o.kind = 7) :
    Calls Try.prog 30 #[.agg (o.cells v)] w fun e w' => e = .returned (.iface 97 (.agg #[.int .i64 o.id, .int .i64 o.addr, .int .i64 o.port])) ∧ Below w.heap.size w w' := by
  obtain ⟨a0, a1, a2, a3, a4, a5, a6, a7, a8, a9, a10, a11, a12, a13⟩ := o.ats v
  rw [h] at a0
  clear h
  go_enter Try.func30, Try.ntmps30
  go_wp2_with (fail)
  go_ret
  exact ⟨rfl, (Below.refl _ _).alloc (Nat.le_refl _) _⟩

set_option maxRecDepth 100000 in
theorem opo_8 (o : Ov) (a : Option Addr) (n c : Nat) (w : World) (h : o.kind = 8) :
    Calls Try.prog 30 #[.agg (o.cells (.slice a n c))] w fun e w' => e = .returned (.iface 99 (.agg #[.slice a n c])) ∧ Below w.heap.size w w' := by
  obtain ⟨a0, a1, a2, a3, a4, a5, a6, a7, a8, a9, a10, a11, a12, a13⟩ := o.ats (.slice a n c)
  rw [h] at a0
  clear h
  go_enter Try.func30, Try.ntmps30
  go_wp2_with (fail)
  go_ret
  exact ⟨rfl, (Below.refl _ _).alloc (Nat.le_refl _) _⟩

set_option maxRecDepth 100000 in
theorem opo_9 (o : Ov) (v : Value) (w : World) (h : o.kind = 9) :
    Calls Try.prog 30 #[.agg (o.cells v)] w fun e w' => e = .returned (.iface 101 (.agg #[.int .i64 o.seq])) ∧ Below w.heap.size w w' := by
  obtain ⟨a0, a1, a2, a3, a4, a5, a6, a7, a8, a9, a10, a11, a12, a13⟩ := o.ats v
  rw [h] at a0
  clear h
  go_enter Try.func30, Try.ntmps30
  go_wp2_with (fail)
  go_ret
  exact ⟨rfl, (Below.refl _ _).alloc (Nat.le_refl _) _⟩

set_option maxRecDepth 100000 in
theorem opo_10 (o : Ov) (v : Value) (w : World) (h : o.kind = 10) :
    Calls Try.prog 30 #[.agg (o.cells v)] w fun e w' => e = .returned (.iface 102 (.agg #[.string o.key])) ∧ Below w.heap.size w w' := by
  obtain ⟨a0, a1, a2, a3, a4, a5, a6, a7, a8, a9, a10, a11, a12, a13⟩ := o.ats v
  rw [h] at a0
  clear h
  go_enter Try.func30, Try.ntmps30
  go_wp2_with (fail)
  go_ret
  exact ⟨rfl, (Below.refl _ _).alloc (Nat.le_refl _) _⟩

set_option maxRecDepth 100000 in
theorem opo_none (o : Ov) (v : Value) (w : World) (h : ¬ (1 ≤ o.kind ∧ o.kind ≤ 10)) :
    Calls Try.prog 30 #[.agg (o.cells v)] w fun e w' => e = .returned .nilIface ∧ Below w.heap.size w w' := by
  obtain ⟨a0, a1, a2, a3, a4, a5, a6, a7, a8, a9, a10, a11, a12, a13⟩ := o.ats v
  have q1 : ¬ o.kind = 1 := by omega
  have q2 : ¬ o.kind = 2 := by omega
  have q3 : ¬ o.kind = 3 := by omega
  have q4 : ¬ o.kind = 4 := by omega
  have q5 : ¬ o.kind = 5 := by omega
  have q6 : ¬ o.kind = 6 := by omega
  have q7 : ¬ o.kind = 7 := by omega
  have q8 : ¬ o.kind = 8 := by omega
  have q9 : ¬ o.kind = 9 := by omega
  have q10 : ¬ o.kind = 10 := by omega
  clear h
  go_enter Try.func30, Try.ntmps30
  go_wp2_with (fail)
  go_ret
  exact ⟨rfl, (Below.refl _ _).alloc (Nat.le_refl _) _⟩
end Go.Proofs.Ytkpajakangaekab
