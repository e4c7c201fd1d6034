import Derived.Test.YtkpajakangaekabOv
import Derived.Test.YtkpajakangaekabEqi
import Derived.Test.YtkpajakangaekabPar
import Derived.Lib.Hide
namespace Go.Proofs.Ytkpajakangaekab
open Go.RowKit

/-- Two options are the same. -/
def sameOv (o p : Ov) : Bool := decide (p.kind = o.kind ∧ p.id = o.id ∧ p.addr = o.addr ∧ p.port = o.port ∧ p.token = o.token ∧ p.nonce = o.nonce ∧ p.seq = o.seq ∧ p.sub = o.sub ∧ p.len = o.len ∧ p.ack = o.ack ∧ p.flag = o.flag ∧ p.key = o.key ∧ p.mark = o.mark ∧ p.ids = o.ids)

theorem sameOv_iff (o p : Ov) : sameOv o p = true ↔ p = o := by
  unfold sameOv
  rw [decide_eq_true_eq]
  constructor
  · rintro ⟨h0, h1, h2, h3, h4, h5, h6, h7, h8, h9, h10, h11, h12, h13⟩
    cases o; cases p
    simp_all
  · rintro rfl
    exact ⟨rfl, rfl, rfl, rfl, rfl, rfl, rfl, rfl, rfl, rfl, rfl, rfl, rfl, rfl⟩
attribute [irreducible] sameOv
theorem sameOv_no (o p : Ov) (h : ¬ p = o) : sameOv o p = false := by
  cases hs : sameOv o p with
  | false => rfl
  | true => exact absurd ((sameOv_iff o p).1 hs) h
theorem sameOv_self (o : Ov) : sameOv o o = true := (sameOv_iff o o).2 rfl

set_option maxRecDepth 100000 in
set_option maxHeartbeats 1000000 in
theorem isame_no0 (o p : Ov) (v u : Value) (w : World)  (h : ¬ o.kind = p.kind) :
    Calls Try.prog 14 #[.agg (o.cells v), .agg (p.cells u)] w fun e w' => e = .returned (.bool false) ∧ Below w.heap.size w w' := by
  obtain ⟨a0, a1, a2, a3, a4, a5, a6, a7, a8, a9, a10, a11, a12, a13⟩ := o.ats v
  obtain ⟨b0, b1, b2, b3, b4, b5, b6, b7, b8, b9, b10, b11, b12, b13⟩ := p.ats u
  have q1 : (o.kind == p.kind) = false := by simpa using h
  have q2 : decide (o.kind = p.kind) = false := decide_eq_false h
  clear a1 b1 a2 b2 a3 b3 a4 b4 a5 b5 a6 b6 a7 b7 a8 b8 a9 b9 a10 b10 a11 b11 a12 b12 a13 b13
  clear h
  go_enter Try.func14, Try.ntmps14
  simp only [List.append_eq, List.cons_append, List.nil_append]
  go_wp2_with (fail)
  go_ret
  exact ⟨rfl, ((Below.refl _ _).alloc (Nat.le_refl _) _).alloc (by simp) _⟩

set_option maxRecDepth 100000 in
set_option maxHeartbeats 1000000 in
theorem isame_no1 (o p : Ov) (v u : Value) (w : World) (e0 : p.kind = o.kind) (h : ¬ o.id = p.id) :
    Calls Try.prog 14 #[.agg (o.cells v), .agg (p.cells u)] w fun e w' => e = .returned (.bool false) ∧ Below w.heap.size w w' := by
  obtain ⟨a0, a1, a2, a3, a4, a5, a6, a7, a8, a9, a10, a11, a12, a13⟩ := o.ats v
  obtain ⟨b0, b1, b2, b3, b4, b5, b6, b7, b8, b9, b10, b11, b12, b13⟩ := p.ats u
  rw [e0] at b0
  have q1 : (o.id == p.id) = false := by simpa using h
  have q2 : decide (o.id = p.id) = false := decide_eq_false h
  clear a2 b2 a3 b3 a4 b4 a5 b5 a6 b6 a7 b7 a8 b8 a9 b9 a10 b10 a11 b11 a12 b12 a13 b13
  clear e0
  clear h
  go_enter Try.func14, Try.ntmps14
  simp only [List.append_eq, List.cons_append, List.nil_append]
  go_wp2_with (fail)
  go_ret
  exact ⟨rfl, ((Below.refl _ _).alloc (Nat.le_refl _) _).alloc (by simp) _⟩

set_option maxRecDepth 100000 in
set_option maxHeartbeats 1000000 in
theorem isame_no2 (o p : Ov) (v u : Value) (w : World) (e0 : p.kind = o.kind) (e1 : p.id = o.id) (h : ¬ o.addr = p.addr) :
    Calls Try.prog 14 #[.agg (o.cells v), .agg (p.cells u)] w fun e w' => e = .returned (.bool false) ∧ Below w.heap.size w w' := by
  obtain ⟨a0, a1, a2, a3, a4, a5, a6, a7, a8, a9, a10, a11, a12, a13⟩ := o.ats v
  obtain ⟨b0, b1, b2, b3, b4, b5, b6, b7, b8, b9, b10, b11, b12, b13⟩ := p.ats u
  rw [e0] at b0
  rw [e1] at b1
  have q1 : (o.addr == p.addr) = false := by simpa using h
  have q2 : decide (o.addr = p.addr) = false := decide_eq_false h
  clear a3 b3 a4 b4 a5 b5 a6 b6 a7 b7 a8 b8 a9 b9 a10 b10 a11 b11 a12 b12 a13 b13
  clear e0 e1
  clear h
  go_enter Try.func14, Try.ntmps14
  simp only [List.append_eq, List.cons_append, List.nil_append]
  go_wp2_with (fail)
  go_ret
  exact ⟨rfl, ((Below.refl _ _).alloc (Nat.le_refl _) _).alloc (by simp) _⟩

set_option maxRecDepth 100000 in
set_option maxHeartbeats 1000000 in
theorem isame_no3 (o p : Ov) (v u : Value) (w : World) (e0 : p.kind = o.kind) (e1 : p.id = o.id) (e2 : p.addr = o.addr) (h : ¬ o.port = p.port) :
    Calls Try.prog 14 #[.agg (o.cells v), .agg (p.cells u)] w fun e w' => e = .returned (.bool false) ∧ Below w.heap.size w w' := by
  obtain ⟨a0, a1, a2, a3, a4, a5, a6, a7, a8, a9, a10, a11, a12, a13⟩ := o.ats v
  obtain ⟨b0, b1, b2, b3, b4, b5, b6, b7, b8, b9, b10, b11, b12, b13⟩ := p.ats u
  rw [e0] at b0
  rw [e1] at b1
  rw [e2] at b2
  have q1 : (o.port == p.port) = false := by simpa using h
  have q2 : decide (o.port = p.port) = false := decide_eq_false h
  clear a4 b4 a5 b5 a6 b6 a7 b7 a8 b8 a9 b9 a10 b10 a11 b11 a12 b12 a13 b13
  clear e0 e1 e2
  clear h
  go_enter Try.func14, Try.ntmps14
  simp only [List.append_eq, List.cons_append, List.nil_append]
  go_wp2_with (fail)
  go_ret
  exact ⟨rfl, ((Below.refl _ _).alloc (Nat.le_refl _) _).alloc (by simp) _⟩

set_option maxRecDepth 100000 in
set_option maxHeartbeats 1000000 in
theorem isame_no4 (o p : Ov) (v u : Value) (w : World) (e0 : p.kind = o.kind) (e1 : p.id = o.id) (e2 : p.addr = o.addr) (e3 : p.port = o.port) (h : ¬ o.token = p.token) :
    Calls Try.prog 14 #[.agg (o.cells v), .agg (p.cells u)] w fun e w' => e = .returned (.bool false) ∧ Below w.heap.size w w' := by
  obtain ⟨a0, a1, a2, a3, a4, a5, a6, a7, a8, a9, a10, a11, a12, a13⟩ := o.ats v
  obtain ⟨b0, b1, b2, b3, b4, b5, b6, b7, b8, b9, b10, b11, b12, b13⟩ := p.ats u
  rw [e0] at b0
  rw [e1] at b1
  rw [e2] at b2
  rw [e3] at b3
  have q1 : (o.token == p.token) = false := by simpa using h
  have q2 : decide (o.token = p.token) = false := decide_eq_false h
  clear a5 b5 a6 b6 a7 b7 a8 b8 a9 b9 a10 b10 a11 b11 a12 b12 a13 b13
  clear e0 e1 e2 e3
  clear h
  go_enter Try.func14, Try.ntmps14
  simp only [List.append_eq, List.cons_append, List.nil_append]
  go_wp2_with (fail)
  go_ret
  exact ⟨rfl, ((Below.refl _ _).alloc (Nat.le_refl _) _).alloc (by simp) _⟩

set_option maxRecDepth 100000 in
set_option maxHeartbeats 1000000 in
theorem isame_no5 (o p : Ov) (v u : Value) (w : World) (e0 : p.kind = o.kind) (e1 : p.id = o.id) (e2 : p.addr = o.addr) (e3 : p.port = o.port) (e4 : p.token = o.token) (h : ¬ o.nonce = p.nonce) :
    Calls Try.prog 14 #[.agg (o.cells v), .agg (p.cells u)] w fun e w' => e = .returned (.bool false) ∧ Below w.heap.size w w' := by
  obtain ⟨a0, a1, a2, a3, a4, a5, a6, a7, a8, a9, a10, a11, a12, a13⟩ := o.ats v
  obtain ⟨b0, b1, b2, b3, b4, b5, b6, b7, b8, b9, b10, b11, b12, b13⟩ := p.ats u
  rw [e0] at b0
  rw [e1] at b1
  rw [e2] at b2
  rw [e3] at b3
  rw [e4] at b4
  have q1 : (o.nonce == p.nonce) = false := by simpa using h
  have q2 : decide (o.nonce = p.nonce) = false := decide_eq_false h
  clear a6 b6 a7 b7 a8 b8 a9 b9 a10 b10 a11 b11 a12 b12 a13 b13
  clear e0 e1 e2 e3 e4
  clear h
  go_enter Try.func14, Try.ntmps14
  simp only [List.append_eq, List.cons_append, List.nil_append]
  go_wp2_with (fail)
  go_ret
  exact ⟨rfl, ((Below.refl _ _).alloc (Nat.le_refl _) _).alloc (by simp) _⟩

set_option maxRecDepth 100000 in
set_option maxHeartbeats 1000000 in
theorem isame_no6 (o p : Ov) (v u : Value) (w : World) (e0 : p.kind = o.kind) (e1 : p.id = o.id) (e2 : p.addr = o.addr) (e3 : p.port = o.port) (e4 : p.token = o.token) (e5 : p.nonce = o.nonce) (h : ¬ o.seq = p.seq) :
    Calls Try.prog 14 #[.agg (o.cells v), .agg (p.cells u)] w fun e w' => e = .returned (.bool false) ∧ Below w.heap.size w w' := by
  obtain ⟨a0, a1, a2, a3, a4, a5, a6, a7, a8, a9, a10, a11, a12, a13⟩ := o.ats v
  obtain ⟨b0, b1, b2, b3, b4, b5, b6, b7, b8, b9, b10, b11, b12, b13⟩ := p.ats u
  rw [e0] at b0
  rw [e1] at b1
  rw [e2] at b2
  rw [e3] at b3
  rw [e4] at b4
  rw [e5] at b5
  have q1 : (o.seq == p.seq) = false := by simpa using h
  have q2 : decide (o.seq = p.seq) = false := decide_eq_false h
  clear a7 b7 a8 b8 a9 b9 a10 b10 a11 b11 a12 b12 a13 b13
  clear e0 e1 e2 e3 e4 e5
  clear h
  go_enter Try.func14, Try.ntmps14
  simp only [List.append_eq, List.cons_append, List.nil_append]
  go_wp2_with (fail)
  go_ret
  exact ⟨rfl, ((Below.refl _ _).alloc (Nat.le_refl _) _).alloc (by simp) _⟩

set_option maxRecDepth 100000 in
set_option maxHeartbeats 1000000 in
theorem isame_no7 (o p : Ov) (v u : Value) (w : World) (e0 : p.kind = o.kind) (e1 : p.id = o.id) (e2 : p.addr = o.addr) (e3 : p.port = o.port) (e4 : p.token = o.token) (e5 : p.nonce = o.nonce) (e6 : p.seq = o.seq) (h : ¬ o.sub = p.sub) :
    Calls Try.prog 14 #[.agg (o.cells v), .agg (p.cells u)] w fun e w' => e = .returned (.bool false) ∧ Below w.heap.size w w' := by
  obtain ⟨a0, a1, a2, a3, a4, a5, a6, a7, a8, a9, a10, a11, a12, a13⟩ := o.ats v
  obtain ⟨b0, b1, b2, b3, b4, b5, b6, b7, b8, b9, b10, b11, b12, b13⟩ := p.ats u
  rw [e0] at b0
  rw [e1] at b1
  rw [e2] at b2
  rw [e3] at b3
  rw [e4] at b4
  rw [e5] at b5
  rw [e6] at b6
  have q1 : (o.sub == p.sub) = false := by simpa using h
  have q2 : decide (o.sub = p.sub) = false := decide_eq_false h
  clear a8 b8 a9 b9 a10 b10 a11 b11 a12 b12 a13 b13
  clear e0 e1 e2 e3 e4 e5 e6
  clear h
  go_enter Try.func14, Try.ntmps14
  simp only [List.append_eq, List.cons_append, List.nil_append]
  go_wp2_with (fail)
  go_ret
  exact ⟨rfl, ((Below.refl _ _).alloc (Nat.le_refl _) _).alloc (by simp) _⟩

set_option maxRecDepth 100000 in
set_option maxHeartbeats 1000000 in
theorem isame_no8 (o p : Ov) (v u : Value) (w : World) (e0 : p.kind = o.kind) (e1 : p.id = o.id) (e2 : p.addr = o.addr) (e3 : p.port = o.port) (e4 : p.token = o.token) (e5 : p.nonce = o.nonce) (e6 : p.seq = o.seq) (e7 : p.sub = o.sub) (h : ¬ o.len = p.len) :
    Calls Try.prog 14 #[.agg (o.cells v), .agg (p.cells u)] w fun e w' => e = .returned (.bool false) ∧ Below w.heap.size w w' := by
  obtain ⟨a0, a1, a2, a3, a4, a5, a6, a7, a8, a9, a10, a11, a12, a13⟩ := o.ats v
  obtain ⟨b0, b1, b2, b3, b4, b5, b6, b7, b8, b9, b10, b11, b12, b13⟩ := p.ats u
  rw [e0] at b0
  rw [e1] at b1
  rw [e2] at b2
  rw [e3] at b3
  rw [e4] at b4
  rw [e5] at b5
  rw [e6] at b6
  rw [e7] at b7
  have q1 : (o.len == p.len) = false := by simpa using h
  have q2 : decide (o.len = p.len) = false := decide_eq_false h
  clear a9 b9 a10 b10 a11 b11 a12 b12 a13 b13
  clear e0 e1 e2 e3 e4 e5 e6 e7
  clear h
  go_enter Try.func14, Try.ntmps14
  simp only [List.append_eq, List.cons_append, List.nil_append]
  go_wp2_with (fail)
  go_ret
  exact ⟨rfl, ((Below.refl _ _).alloc (Nat.le_refl _) _).alloc (by simp) _⟩

set_option maxRecDepth 100000 in
set_option maxHeartbeats 1000000 in
theorem isame_no9 (o p : Ov) (v u : Value) (w : World) (e0 : p.kind = o.kind) (e1 : p.id = o.id) (e2 : p.addr = o.addr) (e3 : p.port = o.port) (e4 : p.token = o.token) (e5 : p.nonce = o.nonce) (e6 : p.seq = o.seq) (e7 : p.sub = o.sub) (e8 : p.len = o.len) (h : ¬ o.ack = p.ack) :
    Calls Try.prog 14 #[.agg (o.cells v), .agg (p.cells u)] w fun e w' => e = .returned (.bool false) ∧ Below w.heap.size w w' := by
  obtain ⟨a0, a1, a2, a3, a4, a5, a6, a7, a8, a9, a10, a11, a12, a13⟩ := o.ats v
  obtain ⟨b0, b1, b2, b3, b4, b5, b6, b7, b8, b9, b10, b11, b12, b13⟩ := p.ats u
  rw [e0] at b0
  rw [e1] at b1
  rw [e2] at b2
  rw [e3] at b3
  rw [e4] at b4
  rw [e5] at b5
  rw [e6] at b6
  rw [e7] at b7
  rw [e8] at b8
  have q1 : (o.ack == p.ack) = false := by simpa using h
  have q2 : decide (o.ack = p.ack) = false := decide_eq_false h
  clear a10 b10 a11 b11 a12 b12 a13 b13
  clear e0 e1 e2 e3 e4 e5 e6 e7 e8
  clear h
  go_enter Try.func14, Try.ntmps14
  simp only [List.append_eq, List.cons_append, List.nil_append]
  go_wp2_with (fail)
  go_ret
  exact ⟨rfl, ((Below.refl _ _).alloc (Nat.le_refl _) _).alloc (by simp) _⟩

set_option maxRecDepth 100000 in
set_option maxHeartbeats 1000000 in
theorem isame_no10 (o p : Ov) (v u : Value) (w : World) (e0 : p.kind = o.kind) (e1 : p.id = o.id) (e2 : p.addr = o.addr) (e3 : p.port = o.port) (e4 : p.token = o.token) (e5 : p.nonce = o.nonce) (e6 : p.seq = o.seq) (e7 : p.sub = o.sub) (e8 : p.len = o.len) (e9 : p.ack = o.ack) (h : ¬ o.flag = p.flag) :
    Calls Try.prog 14 #[.agg (o.cells v), .agg (p.cells u)] w fun e w' => e = .returned (.bool false) ∧ Below w.heap.size w w' := by
  obtain ⟨a0, a1, a2, a3, a4, a5, a6, a7, a8, a9, a10, a11, a12, a13⟩ := o.ats v
  obtain ⟨b0, b1, b2, b3, b4, b5, b6, b7, b8, b9, b10, b11, b12, b13⟩ := p.ats u
  rw [e0] at b0
  rw [e1] at b1
  rw [e2] at b2
  rw [e3] at b3
  rw [e4] at b4
  rw [e5] at b5
  rw [e6] at b6
  rw [e7] at b7
  rw [e8] at b8
  rw [e9] at b9
  have q1 : (o.flag == p.flag) = false := by simpa using h
  clear a11 b11 a12 b12 a13 b13
  clear e0 e1 e2 e3 e4 e5 e6 e7 e8 e9
  clear h
  go_enter Try.func14, Try.ntmps14
  simp only [List.append_eq, List.cons_append, List.nil_append]
  go_wp2_with (fail)
  go_ret
  exact ⟨rfl, ((Below.refl _ _).alloc (Nat.le_refl _) _).alloc (by simp) _⟩

set_option maxRecDepth 100000 in
set_option maxHeartbeats 1000000 in
theorem isame_no11 (o p : Ov) (v u : Value) (w : World) (e0 : p.kind = o.kind) (e1 : p.id = o.id) (e2 : p.addr = o.addr) (e3 : p.port = o.port) (e4 : p.token = o.token) (e5 : p.nonce = o.nonce) (e6 : p.seq = o.seq) (e7 : p.sub = o.sub) (e8 : p.len = o.len) (e9 : p.ack = o.ack) (e10 : p.flag = o.flag) (h : ¬ o.key = p.key) :
    Calls Try.prog 14 #[.agg (o.cells v), .agg (p.cells u)] w fun e w' => e = .returned (.bool false) ∧ Below w.heap.size w w' := by
  obtain ⟨a0, a1, a2, a3, a4, a5, a6, a7, a8, a9, a10, a11, a12, a13⟩ := o.ats v
  obtain ⟨b0, b1, b2, b3, b4, b5, b6, b7, b8, b9, b10, b11, b12, b13⟩ := p.ats u
  rw [e0] at b0
  rw [e1] at b1
  rw [e2] at b2
  rw [e3] at b3
  rw [e4] at b4
  rw [e5] at b5
  rw [e6] at b6
  rw [e7] at b7
  rw [e8] at b8
  rw [e9] at b9
  rw [e10] at b10
  have q1 : (o.key.toList == p.key.toList) = false := by rw [toList_beq]; exact decide_eq_false h
  clear a12 b12 a13 b13
  clear e0 e1 e2 e3 e4 e5 e6 e7 e8 e9 e10
  clear h
  go_enter Try.func14, Try.ntmps14
  simp only [List.append_eq, List.cons_append, List.nil_append]
  go_wp2_with (fail)
  go_ret
  exact ⟨rfl, ((Below.refl _ _).alloc (Nat.le_refl _) _).alloc (by simp) _⟩

set_option maxRecDepth 100000 in
set_option maxHeartbeats 1000000 in
theorem isame_no12 (o p : Ov) (v u : Value) (w : World) (e0 : p.kind = o.kind) (e1 : p.id = o.id) (e2 : p.addr = o.addr) (e3 : p.port = o.port) (e4 : p.token = o.token) (e5 : p.nonce = o.nonce) (e6 : p.seq = o.seq) (e7 : p.sub = o.sub) (e8 : p.len = o.len) (e9 : p.ack = o.ack) (e10 : p.flag = o.flag) (e11 : p.key = o.key) (h : ¬ o.mark = p.mark) :
    Calls Try.prog 14 #[.agg (o.cells v), .agg (p.cells u)] w fun e w' => e = .returned (.bool false) ∧ Below w.heap.size w w' := by
  obtain ⟨a0, a1, a2, a3, a4, a5, a6, a7, a8, a9, a10, a11, a12, a13⟩ := o.ats v
  obtain ⟨b0, b1, b2, b3, b4, b5, b6, b7, b8, b9, b10, b11, b12, b13⟩ := p.ats u
  rw [e0] at b0
  rw [e1] at b1
  rw [e2] at b2
  rw [e3] at b3
  rw [e4] at b4
  rw [e5] at b5
  rw [e6] at b6
  rw [e7] at b7
  rw [e8] at b8
  rw [e9] at b9
  rw [e10] at b10
  rw [e11] at b11
  have q1 : (o.mark.toList == p.mark.toList) = false := by rw [toList_beq]; exact decide_eq_false h
  clear a13 b13
  clear e0 e1 e2 e3 e4 e5 e6 e7 e8 e9 e10 e11
  clear h
  go_enter Try.func14, Try.ntmps14
  simp only [List.append_eq, List.cons_append, List.nil_append]
  go_wp2_with (fail)
  go_ret
  exact ⟨rfl, ((Below.refl _ _).alloc (Nat.le_refl _) _).alloc (by simp) _⟩

set_option maxRecDepth 100000 in
set_option maxHeartbeats 1000000 in
theorem isame_ids (o p : Ov) (v u : Value) (w : World) (hv : Rd w v o.ids) (hu : Rd w u p.ids) (hn : o.ids.length ≤ 1048576) (hn' : p.ids.length ≤ 1048576) (e0 : p.kind = o.kind) (e1 : p.id = o.id) (e2 : p.addr = o.addr) (e3 : p.port = o.port) (e4 : p.token = o.token) (e5 : p.nonce = o.nonce) (e6 : p.seq = o.seq) (e7 : p.sub = o.sub) (e8 : p.len = o.len) (e9 : p.ack = o.ack) (e10 : p.flag = o.flag) (e11 : p.key = o.key) (e12 : p.mark = o.mark) :
    Calls Try.prog 14 #[.agg (o.cells v), .agg (p.cells u)] w fun e w' => e = .returned (.bool (decide (o.ids = p.ids))) ∧ Below w.heap.size w w' := by
  have hB : Below w.heap.size w ((w.alloc (.cells (o.cells v) 26)).alloc (.cells (p.cells u) 26)) := ((Below.refl _ _).alloc (Nat.le_refl _) _).alloc (by simp) _
  have c1 := equal_ints v u o.ids p.ids _ (hv.below hB) (hu.below hB) hn hn'
  obtain ⟨va, vc, rfl, -⟩ := hv
  obtain ⟨ua, uc, rfl, -⟩ := hu
  generalize decide (o.ids = p.ids) = r at c1 ⊢
  obtain ⟨a0, a1, a2, a3, a4, a5, a6, a7, a8, a9, a10, a11, a12, a13⟩ := o.ats (.slice va o.ids.length vc)
  obtain ⟨b0, b1, b2, b3, b4, b5, b6, b7, b8, b9, b10, b11, b12, b13⟩ := p.ats (.slice ua p.ids.length uc)
  rw [e0] at b0
  rw [e1] at b1
  rw [e2] at b2
  rw [e3] at b3
  rw [e4] at b4
  rw [e5] at b5
  rw [e6] at b6
  rw [e7] at b7
  rw [e8] at b8
  rw [e9] at b9
  rw [e10] at b10
  rw [e11] at b11
  rw [e12] at b12
  clear e0 e1 e2 e3 e4 e5 e6 e7 e8 e9 e10 e11 e12
  go_enter Try.func14, Try.ntmps14
  simp only [List.append_eq, List.cons_append, List.nil_append]
  go_wp2_with (fail)
  with_reducible refine c1.mono ?_
  rintro e w1 ⟨rfl, m, rfl⟩
  go_wp2_with (fail)
  go_ret
  exact ⟨rfl, ⟨hB.os, hB.tape, hB.output, hB.size, hB.block⟩⟩

theorem impl_same (o p : Ov) (v u : Value) (w : World) (hv : Rd w v o.ids) (hu : Rd w u p.ids) (hn : o.ids.length ≤ 1048576) (hn' : p.ids.length ≤ 1048576) :
    Calls Try.prog 14 #[.agg (o.cells v), .agg (p.cells u)] w fun e w' => e = .returned (.bool (sameOv o p)) ∧ Below w.heap.size w w' := by
  by_cases e0 : p.kind = o.kind
  · skip
    by_cases e1 : p.id = o.id
    · skip
      by_cases e2 : p.addr = o.addr
      · skip
        by_cases e3 : p.port = o.port
        · skip
          by_cases e4 : p.token = o.token
          · skip
            by_cases e5 : p.nonce = o.nonce
            · skip
              by_cases e6 : p.seq = o.seq
              · skip
                by_cases e7 : p.sub = o.sub
                · skip
                  by_cases e8 : p.len = o.len
                  · skip
                    by_cases e9 : p.ack = o.ack
                    · skip
                      by_cases e10 : p.flag = o.flag
                      · skip
                        by_cases e11 : p.key = o.key
                        · skip
                          by_cases e12 : p.mark = o.mark
                          · skip
                            refine (isame_ids o p v u w hv hu hn hn' e0 e1 e2 e3 e4 e5 e6 e7 e8 e9 e10 e11 e12).mono fun e w' ⟨he, hb⟩ => ⟨?_, hb⟩
                            rw [he]
                            by_cases e13 : p.ids = o.ids
                            · rw [decide_eq_true e13.symm, (sameOv_iff o p).2 (by cases o; cases p; simp_all)]
                            · rw [decide_eq_false (fun h => e13 h.symm), sameOv_no o p (fun h => e13 (by rw [h]))]
                          · rw [sameOv_no o p (fun h => e12 (by rw [h]))]
                            exact isame_no12 o p v u w e0 e1 e2 e3 e4 e5 e6 e7 e8 e9 e10 e11 (fun h => e12 h.symm)
                        · rw [sameOv_no o p (fun h => e11 (by rw [h]))]
                          exact isame_no11 o p v u w e0 e1 e2 e3 e4 e5 e6 e7 e8 e9 e10 (fun h => e11 h.symm)
                      · rw [sameOv_no o p (fun h => e10 (by rw [h]))]
                        exact isame_no10 o p v u w e0 e1 e2 e3 e4 e5 e6 e7 e8 e9 (fun h => e10 h.symm)
                    · rw [sameOv_no o p (fun h => e9 (by rw [h]))]
                      exact isame_no9 o p v u w e0 e1 e2 e3 e4 e5 e6 e7 e8 (fun h => e9 h.symm)
                  · rw [sameOv_no o p (fun h => e8 (by rw [h]))]
                    exact isame_no8 o p v u w e0 e1 e2 e3 e4 e5 e6 e7 (fun h => e8 h.symm)
                · rw [sameOv_no o p (fun h => e7 (by rw [h]))]
                  exact isame_no7 o p v u w e0 e1 e2 e3 e4 e5 e6 (fun h => e7 h.symm)
              · rw [sameOv_no o p (fun h => e6 (by rw [h]))]
                exact isame_no6 o p v u w e0 e1 e2 e3 e4 e5 (fun h => e6 h.symm)
            · rw [sameOv_no o p (fun h => e5 (by rw [h]))]
              exact isame_no5 o p v u w e0 e1 e2 e3 e4 (fun h => e5 h.symm)
          · rw [sameOv_no o p (fun h => e4 (by rw [h]))]
            exact isame_no4 o p v u w e0 e1 e2 e3 (fun h => e4 h.symm)
        · rw [sameOv_no o p (fun h => e3 (by rw [h]))]
          exact isame_no3 o p v u w e0 e1 e2 (fun h => e3 h.symm)
      · rw [sameOv_no o p (fun h => e2 (by rw [h]))]
        exact isame_no2 o p v u w e0 e1 (fun h => e2 h.symm)
    · rw [sameOv_no o p (fun h => e1 (by rw [h]))]
      exact isame_no1 o p v u w e0 (fun h => e1 h.symm)
  · rw [sameOv_no o p (fun h => e0 (by rw [h]))]
    exact isame_no0 o p v u w  (fun h => e0 h.symm)
end Go.Proofs.Ytkpajakangaekab
