import Derived.Test.YtkpajakangaekabOsi
import Derived.BigQuiet
import Derived.Deep.Cut
namespace Go.Proofs.Ytkpajakangaekab
open Go.RowKit

set_option maxRecDepth 100000 in
set_option maxHeartbeats 1000000 in
theorem ssame_no0 (o p : Ov) (v u : Value) (w : World) (hv : Rd w v o.ids) (hu : Rd w u o.ids) (hn : o.ids.length ≤ 1048576)  (h : ¬ o.kind = p.kind) :
    Calls Try.prog 15 #[.agg (o.cells v), .agg (p.cells u)] w fun e w' => e = .returned (.bool false) ∧ Below w.heap.size w w' := by
  have hB : Below w.heap.size w ((w.alloc (.cells (o.cells v) 26)).alloc (.cells (p.cells u) 26)) := ((Below.refl _ _).alloc (Nat.le_refl _) _).alloc (by simp) _
  have hA0 : OvAt ((w.alloc (.cells (o.cells v) 26)).alloc (.cells (p.cells u) 26)) w.heap.size o v := (OvAt.new w o v).alloc _
  have hA1 := OvAt.new (w.alloc (.cells (o.cells v) 26)) p u
  rw [World.size_alloc] at hA1
  obtain ⟨va, vc, rfl, hc⟩ := hv.below hB
  obtain ⟨ua, uc, rfl, hc'⟩ := hu.below hB
  clear hv hu
  obtain ⟨a0, a1, a2, a3, a4, a5, a6, a7, a8, a9, a10, a11, a12, a13⟩ := hA0.all
  obtain ⟨b0, b1, b2, b3, b4, b5, b6, b7, b8, b9, b10, b11, b12, b13⟩ := hA1.all
  clear hA0 hA1
  have q1 : (o.kind == p.kind) = false := by simpa using h
  have q2 : decide (o.kind = p.kind) = false := decide_eq_false h
  clear a1 b1 a2 b2 a3 b3 a4 b4 a5 b5 a6 b6 a7 b7 a8 b8 a9 b9 a10 b10 a11 b11 a12 b12
  clear h
  go_enter Try.func15, Try.ntmps15
  simp only [List.append_eq, List.cons_append, List.nil_append]
  go_upto_region 1 with (fail)
  generalize (w.alloc (.cells (o.cells (.slice va o.ids.length vc)) 26)).alloc (.cells (p.cells (.slice ua o.ids.length uc)) 26) = W at *
  go_wp2_with (fail)
  go_loopw [5] (fun i wr => ∃ k : Nat, k ≤ o.ids.length ∧ i = .int .i64 k ∧ ∃ m, wr = W.drewN m) (fun i _ => o.ids.length - (intOf i).toNat)
  case atStart => exact ⟨0, by omega, rfl, 0, rfl⟩
  case round =>
    obtain ⟨k, hk, rfl, m, rfl⟩ := hrel
    by_cases hlt : k < o.ids.length
    · obtain ⟨b, off, rfl, hcc⟩ := hc (by omega)
      obtain ⟨b', off', rfl, hcc'⟩ := hc' (by omega)
      have h1 := hcc k hlt
      have h2 := hcc' k hlt
      generalize o.ids[k] = x at h1 h2
      have q : (0 : Int) ≤ (k : Int) ∧ (k : Int) < (o.ids.length : Int) := by omega
      clear hc hc' hcc hcc'
      go_wp2_with (fail)
      go_quiet (fail)
      go_wp2_with (fail)
      go_roundw
      case rel => exact ⟨k + 1, by omega, by go_num, _, by first | rfl | exact World.drewN_drewN _ _ _⟩
      case measure => simp [intOf]; omega
    · obtain rfl : k = o.ids.length := by omega
      have q : ¬ ((o.ids.length : Int) < (o.ids.length : Int)) := by omega
      clear hc hc'
      go_wp2_with (fail)
      go_ret
      exact ⟨rfl, ⟨hB.os, hB.tape, hB.output, hB.size, hB.block⟩⟩

set_option maxRecDepth 100000 in
set_option maxHeartbeats 1000000 in
theorem ssame_no1 (o p : Ov) (v u : Value) (w : World) (hv : Rd w v o.ids) (hu : Rd w u o.ids) (hn : o.ids.length ≤ 1048576) (e0 : p.kind = o.kind) (h : ¬ o.id = p.id) :
    Calls Try.prog 15 #[.agg (o.cells v), .agg (p.cells u)] w fun e w' => e = .returned (.bool false) ∧ Below w.heap.size w w' := by
  have hB : Below w.heap.size w ((w.alloc (.cells (o.cells v) 26)).alloc (.cells (p.cells u) 26)) := ((Below.refl _ _).alloc (Nat.le_refl _) _).alloc (by simp) _
  have hA0 : OvAt ((w.alloc (.cells (o.cells v) 26)).alloc (.cells (p.cells u) 26)) w.heap.size o v := (OvAt.new w o v).alloc _
  have hA1 := OvAt.new (w.alloc (.cells (o.cells v) 26)) p u
  rw [World.size_alloc] at hA1
  obtain ⟨va, vc, rfl, hc⟩ := hv.below hB
  obtain ⟨ua, uc, rfl, hc'⟩ := hu.below hB
  clear hv hu
  obtain ⟨a0, a1, a2, a3, a4, a5, a6, a7, a8, a9, a10, a11, a12, a13⟩ := hA0.all
  obtain ⟨b0, b1, b2, b3, b4, b5, b6, b7, b8, b9, b10, b11, b12, b13⟩ := hA1.all
  clear hA0 hA1
  rw [e0] at b0
  have q1 : (o.id == p.id) = false := by simpa using h
  have q2 : decide (o.id = p.id) = false := decide_eq_false h
  clear a2 b2 a3 b3 a4 b4 a5 b5 a6 b6 a7 b7 a8 b8 a9 b9 a10 b10 a11 b11 a12 b12
  clear h
  clear e0
  go_enter Try.func15, Try.ntmps15
  simp only [List.append_eq, List.cons_append, List.nil_append]
  go_upto_region 1 with (fail)
  generalize (w.alloc (.cells (o.cells (.slice va o.ids.length vc)) 26)).alloc (.cells (p.cells (.slice ua o.ids.length uc)) 26) = W at *
  go_wp2_with (fail)
  go_loopw [5] (fun i wr => ∃ k : Nat, k ≤ o.ids.length ∧ i = .int .i64 k ∧ ∃ m, wr = W.drewN m) (fun i _ => o.ids.length - (intOf i).toNat)
  case atStart => exact ⟨0, by omega, rfl, 0, rfl⟩
  case round =>
    obtain ⟨k, hk, rfl, m, rfl⟩ := hrel
    by_cases hlt : k < o.ids.length
    · obtain ⟨b, off, rfl, hcc⟩ := hc (by omega)
      obtain ⟨b', off', rfl, hcc'⟩ := hc' (by omega)
      have h1 := hcc k hlt
      have h2 := hcc' k hlt
      generalize o.ids[k] = x at h1 h2
      have q : (0 : Int) ≤ (k : Int) ∧ (k : Int) < (o.ids.length : Int) := by omega
      clear hc hc' hcc hcc'
      go_wp2_with (fail)
      go_quiet (fail)
      go_wp2_with (fail)
      go_roundw
      case rel => exact ⟨k + 1, by omega, by go_num, _, by first | rfl | exact World.drewN_drewN _ _ _⟩
      case measure => simp [intOf]; omega
    · obtain rfl : k = o.ids.length := by omega
      have q : ¬ ((o.ids.length : Int) < (o.ids.length : Int)) := by omega
      clear hc hc'
      go_wp2_with (fail)
      go_ret
      exact ⟨rfl, ⟨hB.os, hB.tape, hB.output, hB.size, hB.block⟩⟩

set_option maxRecDepth 100000 in
set_option maxHeartbeats 1000000 in
theorem ssame_no2 (o p : Ov) (v u : Value) (w : World) (hv : Rd w v o.ids) (hu : Rd w u o.ids) (hn : o.ids.length ≤ 1048576) (e0 : p.kind = o.kind) (e1 : p.id = o.id) (h : ¬ o.addr = p.addr) :
    Calls Try.prog 15 #[.agg (o.cells v), .agg (p.cells u)] w fun e w' => e = .returned (.bool false) ∧ Below w.heap.size w w' := by
  have hB : Below w.heap.size w ((w.alloc (.cells (o.cells v) 26)).alloc (.cells (p.cells u) 26)) := ((Below.refl _ _).alloc (Nat.le_refl _) _).alloc (by simp) _
  have hA0 : OvAt ((w.alloc (.cells (o.cells v) 26)).alloc (.cells (p.cells u) 26)) w.heap.size o v := (OvAt.new w o v).alloc _
  have hA1 := OvAt.new (w.alloc (.cells (o.cells v) 26)) p u
  rw [World.size_alloc] at hA1
  obtain ⟨va, vc, rfl, hc⟩ := hv.below hB
  obtain ⟨ua, uc, rfl, hc'⟩ := hu.below hB
  clear hv hu
  obtain ⟨a0, a1, a2, a3, a4, a5, a6, a7, a8, a9, a10, a11, a12, a13⟩ := hA0.all
  obtain ⟨b0, b1, b2, b3, b4, b5, b6, b7, b8, b9, b10, b11, b12, b13⟩ := hA1.all
  clear hA0 hA1
  rw [e0] at b0
  rw [e1] at b1
  have q1 : (o.addr == p.addr) = false := by simpa using h
  have q2 : decide (o.addr = p.addr) = false := decide_eq_false h
  clear a3 b3 a4 b4 a5 b5 a6 b6 a7 b7 a8 b8 a9 b9 a10 b10 a11 b11 a12 b12
  clear h
  clear e0 e1
  go_enter Try.func15, Try.ntmps15
  simp only [List.append_eq, List.cons_append, List.nil_append]
  go_upto_region 1 with (fail)
  generalize (w.alloc (.cells (o.cells (.slice va o.ids.length vc)) 26)).alloc (.cells (p.cells (.slice ua o.ids.length uc)) 26) = W at *
  go_wp2_with (fail)
  go_loopw [5] (fun i wr => ∃ k : Nat, k ≤ o.ids.length ∧ i = .int .i64 k ∧ ∃ m, wr = W.drewN m) (fun i _ => o.ids.length - (intOf i).toNat)
  case atStart => exact ⟨0, by omega, rfl, 0, rfl⟩
  case round =>
    obtain ⟨k, hk, rfl, m, rfl⟩ := hrel
    by_cases hlt : k < o.ids.length
    · obtain ⟨b, off, rfl, hcc⟩ := hc (by omega)
      obtain ⟨b', off', rfl, hcc'⟩ := hc' (by omega)
      have h1 := hcc k hlt
      have h2 := hcc' k hlt
      generalize o.ids[k] = x at h1 h2
      have q : (0 : Int) ≤ (k : Int) ∧ (k : Int) < (o.ids.length : Int) := by omega
      clear hc hc' hcc hcc'
      go_wp2_with (fail)
      go_quiet (fail)
      go_wp2_with (fail)
      go_roundw
      case rel => exact ⟨k + 1, by omega, by go_num, _, by first | rfl | exact World.drewN_drewN _ _ _⟩
      case measure => simp [intOf]; omega
    · obtain rfl : k = o.ids.length := by omega
      have q : ¬ ((o.ids.length : Int) < (o.ids.length : Int)) := by omega
      clear hc hc'
      go_wp2_with (fail)
      go_ret
      exact ⟨rfl, ⟨hB.os, hB.tape, hB.output, hB.size, hB.block⟩⟩

set_option maxRecDepth 100000 in
set_option maxHeartbeats 1000000 in
theorem ssame_no3 (o p : Ov) (v u : Value) (w : World) (hv : Rd w v o.ids) (hu : Rd w u o.ids) (hn : o.ids.length ≤ 1048576) (e0 : p.kind = o.kind) (e1 : p.id = o.id) (e2 : p.addr = o.addr) (h : ¬ o.port = p.port) :
    Calls Try.prog 15 #[.agg (o.cells v), .agg (p.cells u)] w fun e w' => e = .returned (.bool false) ∧ Below w.heap.size w w' := by
  have hB : Below w.heap.size w ((w.alloc (.cells (o.cells v) 26)).alloc (.cells (p.cells u) 26)) := ((Below.refl _ _).alloc (Nat.le_refl _) _).alloc (by simp) _
  have hA0 : OvAt ((w.alloc (.cells (o.cells v) 26)).alloc (.cells (p.cells u) 26)) w.heap.size o v := (OvAt.new w o v).alloc _
  have hA1 := OvAt.new (w.alloc (.cells (o.cells v) 26)) p u
  rw [World.size_alloc] at hA1
  obtain ⟨va, vc, rfl, hc⟩ := hv.below hB
  obtain ⟨ua, uc, rfl, hc'⟩ := hu.below hB
  clear hv hu
  obtain ⟨a0, a1, a2, a3, a4, a5, a6, a7, a8, a9, a10, a11, a12, a13⟩ := hA0.all
  obtain ⟨b0, b1, b2, b3, b4, b5, b6, b7, b8, b9, b10, b11, b12, b13⟩ := hA1.all
  clear hA0 hA1
  rw [e0] at b0
  rw [e1] at b1
  rw [e2] at b2
  have q1 : (o.port == p.port) = false := by simpa using h
  have q2 : decide (o.port = p.port) = false := decide_eq_false h
  clear a4 b4 a5 b5 a6 b6 a7 b7 a8 b8 a9 b9 a10 b10 a11 b11 a12 b12
  clear h
  clear e0 e1 e2
  go_enter Try.func15, Try.ntmps15
  simp only [List.append_eq, List.cons_append, List.nil_append]
  go_upto_region 1 with (fail)
  generalize (w.alloc (.cells (o.cells (.slice va o.ids.length vc)) 26)).alloc (.cells (p.cells (.slice ua o.ids.length uc)) 26) = W at *
  go_wp2_with (fail)
  go_loopw [5] (fun i wr => ∃ k : Nat, k ≤ o.ids.length ∧ i = .int .i64 k ∧ ∃ m, wr = W.drewN m) (fun i _ => o.ids.length - (intOf i).toNat)
  case atStart => exact ⟨0, by omega, rfl, 0, rfl⟩
  case round =>
    obtain ⟨k, hk, rfl, m, rfl⟩ := hrel
    by_cases hlt : k < o.ids.length
    · obtain ⟨b, off, rfl, hcc⟩ := hc (by omega)
      obtain ⟨b', off', rfl, hcc'⟩ := hc' (by omega)
      have h1 := hcc k hlt
      have h2 := hcc' k hlt
      generalize o.ids[k] = x at h1 h2
      have q : (0 : Int) ≤ (k : Int) ∧ (k : Int) < (o.ids.length : Int) := by omega
      clear hc hc' hcc hcc'
      go_wp2_with (fail)
      go_quiet (fail)
      go_wp2_with (fail)
      go_roundw
      case rel => exact ⟨k + 1, by omega, by go_num, _, by first | rfl | exact World.drewN_drewN _ _ _⟩
      case measure => simp [intOf]; omega
    · obtain rfl : k = o.ids.length := by omega
      have q : ¬ ((o.ids.length : Int) < (o.ids.length : Int)) := by omega
      clear hc hc'
      go_wp2_with (fail)
      go_ret
      exact ⟨rfl, ⟨hB.os, hB.tape, hB.output, hB.size, hB.block⟩⟩

set_option maxRecDepth 100000 in
set_option maxHeartbeats 1000000 in
theorem ssame_no4 (o p : Ov) (v u : Value) (w : World) (hv : Rd w v o.ids) (hu : Rd w u o.ids) (hn : o.ids.length ≤ 1048576) (e0 : p.kind = o.kind) (e1 : p.id = o.id) (e2 : p.addr = o.addr) (e3 : p.port = o.port) (h : ¬ o.token = p.token) :
    Calls Try.prog 15 #[.agg (o.cells v), .agg (p.cells u)] w fun e w' => e = .returned (.bool false) ∧ Below w.heap.size w w' := by
  have hB : Below w.heap.size w ((w.alloc (.cells (o.cells v) 26)).alloc (.cells (p.cells u) 26)) := ((Below.refl _ _).alloc (Nat.le_refl _) _).alloc (by simp) _
  have hA0 : OvAt ((w.alloc (.cells (o.cells v) 26)).alloc (.cells (p.cells u) 26)) w.heap.size o v := (OvAt.new w o v).alloc _
  have hA1 := OvAt.new (w.alloc (.cells (o.cells v) 26)) p u
  rw [World.size_alloc] at hA1
  obtain ⟨va, vc, rfl, hc⟩ := hv.below hB
  obtain ⟨ua, uc, rfl, hc'⟩ := hu.below hB
  clear hv hu
  obtain ⟨a0, a1, a2, a3, a4, a5, a6, a7, a8, a9, a10, a11, a12, a13⟩ := hA0.all
  obtain ⟨b0, b1, b2, b3, b4, b5, b6, b7, b8, b9, b10, b11, b12, b13⟩ := hA1.all
  clear hA0 hA1
  rw [e0] at b0
  rw [e1] at b1
  rw [e2] at b2
  rw [e3] at b3
  have q1 : (o.token == p.token) = false := by simpa using h
  have q2 : decide (o.token = p.token) = false := decide_eq_false h
  clear a5 b5 a6 b6 a7 b7 a8 b8 a9 b9 a10 b10 a11 b11 a12 b12
  clear h
  clear e0 e1 e2 e3
  go_enter Try.func15, Try.ntmps15
  simp only [List.append_eq, List.cons_append, List.nil_append]
  go_upto_region 1 with (fail)
  generalize (w.alloc (.cells (o.cells (.slice va o.ids.length vc)) 26)).alloc (.cells (p.cells (.slice ua o.ids.length uc)) 26) = W at *
  go_wp2_with (fail)
  go_loopw [5] (fun i wr => ∃ k : Nat, k ≤ o.ids.length ∧ i = .int .i64 k ∧ ∃ m, wr = W.drewN m) (fun i _ => o.ids.length - (intOf i).toNat)
  case atStart => exact ⟨0, by omega, rfl, 0, rfl⟩
  case round =>
    obtain ⟨k, hk, rfl, m, rfl⟩ := hrel
    by_cases hlt : k < o.ids.length
    · obtain ⟨b, off, rfl, hcc⟩ := hc (by omega)
      obtain ⟨b', off', rfl, hcc'⟩ := hc' (by omega)
      have h1 := hcc k hlt
      have h2 := hcc' k hlt
      generalize o.ids[k] = x at h1 h2
      have q : (0 : Int) ≤ (k : Int) ∧ (k : Int) < (o.ids.length : Int) := by omega
      clear hc hc' hcc hcc'
      go_wp2_with (fail)
      go_quiet (fail)
      go_wp2_with (fail)
      go_roundw
      case rel => exact ⟨k + 1, by omega, by go_num, _, by first | rfl | exact World.drewN_drewN _ _ _⟩
      case measure => simp [intOf]; omega
    · obtain rfl : k = o.ids.length := by omega
      have q : ¬ ((o.ids.length : Int) < (o.ids.length : Int)) := by omega
      clear hc hc'
      go_wp2_with (fail)
      go_ret
      exact ⟨rfl, ⟨hB.os, hB.tape, hB.output, hB.size, hB.block⟩⟩

set_option maxRecDepth 100000 in
set_option maxHeartbeats 1000000 in
theorem ssame_no5 (o p : Ov) (v u : Value) (w : World) (hv : Rd w v o.ids) (hu : Rd w u o.ids) (hn : o.ids.length ≤ 1048576) (e0 : p.kind = o.kind) (e1 : p.id = o.id) (e2 : p.addr = o.addr) (e3 : p.port = o.port) (e4 : p.token = o.token) (h : ¬ o.nonce = p.nonce) :
    Calls Try.prog 15 #[.agg (o.cells v), .agg (p.cells u)] w fun e w' => e = .returned (.bool false) ∧ Below w.heap.size w w' := by
  have hB : Below w.heap.size w ((w.alloc (.cells (o.cells v) 26)).alloc (.cells (p.cells u) 26)) := ((Below.refl _ _).alloc (Nat.le_refl _) _).alloc (by simp) _
  have hA0 : OvAt ((w.alloc (.cells (o.cells v) 26)).alloc (.cells (p.cells u) 26)) w.heap.size o v := (OvAt.new w o v).alloc _
  have hA1 := OvAt.new (w.alloc (.cells (o.cells v) 26)) p u
  rw [World.size_alloc] at hA1
  obtain ⟨va, vc, rfl, hc⟩ := hv.below hB
  obtain ⟨ua, uc, rfl, hc'⟩ := hu.below hB
  clear hv hu
  obtain ⟨a0, a1, a2, a3, a4, a5, a6, a7, a8, a9, a10, a11, a12, a13⟩ := hA0.all
  obtain ⟨b0, b1, b2, b3, b4, b5, b6, b7, b8, b9, b10, b11, b12, b13⟩ := hA1.all
  clear hA0 hA1
  rw [e0] at b0
  rw [e1] at b1
  rw [e2] at b2
  rw [e3] at b3
  rw [e4] at b4
  have q1 : (o.nonce == p.nonce) = false := by simpa using h
  have q2 : decide (o.nonce = p.nonce) = false := decide_eq_false h
  clear a6 b6 a7 b7 a8 b8 a9 b9 a10 b10 a11 b11 a12 b12
  clear h
  clear e0 e1 e2 e3 e4
  go_enter Try.func15, Try.ntmps15
  simp only [List.append_eq, List.cons_append, List.nil_append]
  go_upto_region 1 with (fail)
  generalize (w.alloc (.cells (o.cells (.slice va o.ids.length vc)) 26)).alloc (.cells (p.cells (.slice ua o.ids.length uc)) 26) = W at *
  go_wp2_with (fail)
  go_loopw [5] (fun i wr => ∃ k : Nat, k ≤ o.ids.length ∧ i = .int .i64 k ∧ ∃ m, wr = W.drewN m) (fun i _ => o.ids.length - (intOf i).toNat)
  case atStart => exact ⟨0, by omega, rfl, 0, rfl⟩
  case round =>
    obtain ⟨k, hk, rfl, m, rfl⟩ := hrel
    by_cases hlt : k < o.ids.length
    · obtain ⟨b, off, rfl, hcc⟩ := hc (by omega)
      obtain ⟨b', off', rfl, hcc'⟩ := hc' (by omega)
      have h1 := hcc k hlt
      have h2 := hcc' k hlt
      generalize o.ids[k] = x at h1 h2
      have q : (0 : Int) ≤ (k : Int) ∧ (k : Int) < (o.ids.length : Int) := by omega
      clear hc hc' hcc hcc'
      go_wp2_with (fail)
      go_quiet (fail)
      go_wp2_with (fail)
      go_roundw
      case rel => exact ⟨k + 1, by omega, by go_num, _, by first | rfl | exact World.drewN_drewN _ _ _⟩
      case measure => simp [intOf]; omega
    · obtain rfl : k = o.ids.length := by omega
      have q : ¬ ((o.ids.length : Int) < (o.ids.length : Int)) := by omega
      clear hc hc'
      go_wp2_with (fail)
      go_ret
      exact ⟨rfl, ⟨hB.os, hB.tape, hB.output, hB.size, hB.block⟩⟩

set_option maxRecDepth 100000 in
set_option maxHeartbeats 1000000 in
theorem ssame_no6 (o p : Ov) (v u : Value) (w : World) (hv : Rd w v o.ids) (hu : Rd w u o.ids) (hn : o.ids.length ≤ 1048576) (e0 : p.kind = o.kind) (e1 : p.id = o.id) (e2 : p.addr = o.addr) (e3 : p.port = o.port) (e4 : p.token = o.token) (e5 : p.nonce = o.nonce) (h : ¬ o.seq = p.seq) :
    Calls Try.prog 15 #[.agg (o.cells v), .agg (p.cells u)] w fun e w' => e = .returned (.bool false) ∧ Below w.heap.size w w' := by
  have hB : Below w.heap.size w ((w.alloc (.cells (o.cells v) 26)).alloc (.cells (p.cells u) 26)) := ((Below.refl _ _).alloc (Nat.le_refl _) _).alloc (by simp) _
  have hA0 : OvAt ((w.alloc (.cells (o.cells v) 26)).alloc (.cells (p.cells u) 26)) w.heap.size o v := (OvAt.new w o v).alloc _
  have hA1 := OvAt.new (w.alloc (.cells (o.cells v) 26)) p u
  rw [World.size_alloc] at hA1
  obtain ⟨va, vc, rfl, hc⟩ := hv.below hB
  obtain ⟨ua, uc, rfl, hc'⟩ := hu.below hB
  clear hv hu
  obtain ⟨a0, a1, a2, a3, a4, a5, a6, a7, a8, a9, a10, a11, a12, a13⟩ := hA0.all
  obtain ⟨b0, b1, b2, b3, b4, b5, b6, b7, b8, b9, b10, b11, b12, b13⟩ := hA1.all
  clear hA0 hA1
  rw [e0] at b0
  rw [e1] at b1
  rw [e2] at b2
  rw [e3] at b3
  rw [e4] at b4
  rw [e5] at b5
  have q1 : (o.seq == p.seq) = false := by simpa using h
  have q2 : decide (o.seq = p.seq) = false := decide_eq_false h
  clear a7 b7 a8 b8 a9 b9 a10 b10 a11 b11 a12 b12
  clear h
  clear e0 e1 e2 e3 e4 e5
  go_enter Try.func15, Try.ntmps15
  simp only [List.append_eq, List.cons_append, List.nil_append]
  go_upto_region 1 with (fail)
  generalize (w.alloc (.cells (o.cells (.slice va o.ids.length vc)) 26)).alloc (.cells (p.cells (.slice ua o.ids.length uc)) 26) = W at *
  go_wp2_with (fail)
  go_loopw [5] (fun i wr => ∃ k : Nat, k ≤ o.ids.length ∧ i = .int .i64 k ∧ ∃ m, wr = W.drewN m) (fun i _ => o.ids.length - (intOf i).toNat)
  case atStart => exact ⟨0, by omega, rfl, 0, rfl⟩
  case round =>
    obtain ⟨k, hk, rfl, m, rfl⟩ := hrel
    by_cases hlt : k < o.ids.length
    · obtain ⟨b, off, rfl, hcc⟩ := hc (by omega)
      obtain ⟨b', off', rfl, hcc'⟩ := hc' (by omega)
      have h1 := hcc k hlt
      have h2 := hcc' k hlt
      generalize o.ids[k] = x at h1 h2
      have q : (0 : Int) ≤ (k : Int) ∧ (k : Int) < (o.ids.length : Int) := by omega
      clear hc hc' hcc hcc'
      go_wp2_with (fail)
      go_quiet (fail)
      go_wp2_with (fail)
      go_roundw
      case rel => exact ⟨k + 1, by omega, by go_num, _, by first | rfl | exact World.drewN_drewN _ _ _⟩
      case measure => simp [intOf]; omega
    · obtain rfl : k = o.ids.length := by omega
      have q : ¬ ((o.ids.length : Int) < (o.ids.length : Int)) := by omega
      clear hc hc'
      go_wp2_with (fail)
      go_ret
      exact ⟨rfl, ⟨hB.os, hB.tape, hB.output, hB.size, hB.block⟩⟩

set_option maxRecDepth 100000 in
set_option maxHeartbeats 1000000 in
theorem ssame_no7 (o p : Ov) (v u : Value) (w : World) (hv : Rd w v o.ids) (hu : Rd w u o.ids) (hn : o.ids.length ≤ 1048576) (e0 : p.kind = o.kind) (e1 : p.id = o.id) (e2 : p.addr = o.addr) (e3 : p.port = o.port) (e4 : p.token = o.token) (e5 : p.nonce = o.nonce) (e6 : p.seq = o.seq) (h : ¬ o.sub = p.sub) :
    Calls Try.prog 15 #[.agg (o.cells v), .agg (p.cells u)] w fun e w' => e = .returned (.bool false) ∧ Below w.heap.size w w' := by
  have hB : Below w.heap.size w ((w.alloc (.cells (o.cells v) 26)).alloc (.cells (p.cells u) 26)) := ((Below.refl _ _).alloc (Nat.le_refl _) _).alloc (by simp) _
  have hA0 : OvAt ((w.alloc (.cells (o.cells v) 26)).alloc (.cells (p.cells u) 26)) w.heap.size o v := (OvAt.new w o v).alloc _
  have hA1 := OvAt.new (w.alloc (.cells (o.cells v) 26)) p u
  rw [World.size_alloc] at hA1
  obtain ⟨va, vc, rfl, hc⟩ := hv.below hB
  obtain ⟨ua, uc, rfl, hc'⟩ := hu.below hB
  clear hv hu
  obtain ⟨a0, a1, a2, a3, a4, a5, a6, a7, a8, a9, a10, a11, a12, a13⟩ := hA0.all
  obtain ⟨b0, b1, b2, b3, b4, b5, b6, b7, b8, b9, b10, b11, b12, b13⟩ := hA1.all
  clear hA0 hA1
  rw [e0] at b0
  rw [e1] at b1
  rw [e2] at b2
  rw [e3] at b3
  rw [e4] at b4
  rw [e5] at b5
  rw [e6] at b6
  have q1 : (o.sub == p.sub) = false := by simpa using h
  have q2 : decide (o.sub = p.sub) = false := decide_eq_false h
  clear a8 b8 a9 b9 a10 b10 a11 b11 a12 b12
  clear h
  clear e0 e1 e2 e3 e4 e5 e6
  go_enter Try.func15, Try.ntmps15
  simp only [List.append_eq, List.cons_append, List.nil_append]
  go_upto_region 1 with (fail)
  generalize (w.alloc (.cells (o.cells (.slice va o.ids.length vc)) 26)).alloc (.cells (p.cells (.slice ua o.ids.length uc)) 26) = W at *
  go_wp2_with (fail)
  go_loopw [5] (fun i wr => ∃ k : Nat, k ≤ o.ids.length ∧ i = .int .i64 k ∧ ∃ m, wr = W.drewN m) (fun i _ => o.ids.length - (intOf i).toNat)
  case atStart => exact ⟨0, by omega, rfl, 0, rfl⟩
  case round =>
    obtain ⟨k, hk, rfl, m, rfl⟩ := hrel
    by_cases hlt : k < o.ids.length
    · obtain ⟨b, off, rfl, hcc⟩ := hc (by omega)
      obtain ⟨b', off', rfl, hcc'⟩ := hc' (by omega)
      have h1 := hcc k hlt
      have h2 := hcc' k hlt
      generalize o.ids[k] = x at h1 h2
      have q : (0 : Int) ≤ (k : Int) ∧ (k : Int) < (o.ids.length : Int) := by omega
      clear hc hc' hcc hcc'
      go_wp2_with (fail)
      go_quiet (fail)
      go_wp2_with (fail)
      go_roundw
      case rel => exact ⟨k + 1, by omega, by go_num, _, by first | rfl | exact World.drewN_drewN _ _ _⟩
      case measure => simp [intOf]; omega
    · obtain rfl : k = o.ids.length := by omega
      have q : ¬ ((o.ids.length : Int) < (o.ids.length : Int)) := by omega
      clear hc hc'
      go_wp2_with (fail)
      go_ret
      exact ⟨rfl, ⟨hB.os, hB.tape, hB.output, hB.size, hB.block⟩⟩

set_option maxRecDepth 100000 in
set_option maxHeartbeats 1000000 in
theorem ssame_no8 (o p : Ov) (v u : Value) (w : World) (hv : Rd w v o.ids) (hu : Rd w u o.ids) (hn : o.ids.length ≤ 1048576) (e0 : p.kind = o.kind) (e1 : p.id = o.id) (e2 : p.addr = o.addr) (e3 : p.port = o.port) (e4 : p.token = o.token) (e5 : p.nonce = o.nonce) (e6 : p.seq = o.seq) (e7 : p.sub = o.sub) (h : ¬ o.len = p.len) :
    Calls Try.prog 15 #[.agg (o.cells v), .agg (p.cells u)] w fun e w' => e = .returned (.bool false) ∧ Below w.heap.size w w' := by
  have hB : Below w.heap.size w ((w.alloc (.cells (o.cells v) 26)).alloc (.cells (p.cells u) 26)) := ((Below.refl _ _).alloc (Nat.le_refl _) _).alloc (by simp) _
  have hA0 : OvAt ((w.alloc (.cells (o.cells v) 26)).alloc (.cells (p.cells u) 26)) w.heap.size o v := (OvAt.new w o v).alloc _
  have hA1 := OvAt.new (w.alloc (.cells (o.cells v) 26)) p u
  rw [World.size_alloc] at hA1
  obtain ⟨va, vc, rfl, hc⟩ := hv.below hB
  obtain ⟨ua, uc, rfl, hc'⟩ := hu.below hB
  clear hv hu
  obtain ⟨a0, a1, a2, a3, a4, a5, a6, a7, a8, a9, a10, a11, a12, a13⟩ := hA0.all
  obtain ⟨b0, b1, b2, b3, b4, b5, b6, b7, b8, b9, b10, b11, b12, b13⟩ := hA1.all
  clear hA0 hA1
  rw [e0] at b0
  rw [e1] at b1
  rw [e2] at b2
  rw [e3] at b3
  rw [e4] at b4
  rw [e5] at b5
  rw [e6] at b6
  rw [e7] at b7
  have q1 : (o.len == p.len) = false := by simpa using h
  have q2 : decide (o.len = p.len) = false := decide_eq_false h
  clear a9 b9 a10 b10 a11 b11 a12 b12
  clear h
  clear e0 e1 e2 e3 e4 e5 e6 e7
  go_enter Try.func15, Try.ntmps15
  simp only [List.append_eq, List.cons_append, List.nil_append]
  go_upto_region 1 with (fail)
  generalize (w.alloc (.cells (o.cells (.slice va o.ids.length vc)) 26)).alloc (.cells (p.cells (.slice ua o.ids.length uc)) 26) = W at *
  go_wp2_with (fail)
  go_loopw [5] (fun i wr => ∃ k : Nat, k ≤ o.ids.length ∧ i = .int .i64 k ∧ ∃ m, wr = W.drewN m) (fun i _ => o.ids.length - (intOf i).toNat)
  case atStart => exact ⟨0, by omega, rfl, 0, rfl⟩
  case round =>
    obtain ⟨k, hk, rfl, m, rfl⟩ := hrel
    by_cases hlt : k < o.ids.length
    · obtain ⟨b, off, rfl, hcc⟩ := hc (by omega)
      obtain ⟨b', off', rfl, hcc'⟩ := hc' (by omega)
      have h1 := hcc k hlt
      have h2 := hcc' k hlt
      generalize o.ids[k] = x at h1 h2
      have q : (0 : Int) ≤ (k : Int) ∧ (k : Int) < (o.ids.length : Int) := by omega
      clear hc hc' hcc hcc'
      go_wp2_with (fail)
      go_quiet (fail)
      go_wp2_with (fail)
      go_roundw
      case rel => exact ⟨k + 1, by omega, by go_num, _, by first | rfl | exact World.drewN_drewN _ _ _⟩
      case measure => simp [intOf]; omega
    · obtain rfl : k = o.ids.length := by omega
      have q : ¬ ((o.ids.length : Int) < (o.ids.length : Int)) := by omega
      clear hc hc'
      go_wp2_with (fail)
      go_ret
      exact ⟨rfl, ⟨hB.os, hB.tape, hB.output, hB.size, hB.block⟩⟩

set_option maxRecDepth 100000 in
set_option maxHeartbeats 1000000 in
theorem ssame_no9 (o p : Ov) (v u : Value) (w : World) (hv : Rd w v o.ids) (hu : Rd w u o.ids) (hn : o.ids.length ≤ 1048576) (e0 : p.kind = o.kind) (e1 : p.id = o.id) (e2 : p.addr = o.addr) (e3 : p.port = o.port) (e4 : p.token = o.token) (e5 : p.nonce = o.nonce) (e6 : p.seq = o.seq) (e7 : p.sub = o.sub) (e8 : p.len = o.len) (h : ¬ o.ack = p.ack) :
    Calls Try.prog 15 #[.agg (o.cells v), .agg (p.cells u)] w fun e w' => e = .returned (.bool false) ∧ Below w.heap.size w w' := by
  have hB : Below w.heap.size w ((w.alloc (.cells (o.cells v) 26)).alloc (.cells (p.cells u) 26)) := ((Below.refl _ _).alloc (Nat.le_refl _) _).alloc (by simp) _
  have hA0 : OvAt ((w.alloc (.cells (o.cells v) 26)).alloc (.cells (p.cells u) 26)) w.heap.size o v := (OvAt.new w o v).alloc _
  have hA1 := OvAt.new (w.alloc (.cells (o.cells v) 26)) p u
  rw [World.size_alloc] at hA1
  obtain ⟨va, vc, rfl, hc⟩ := hv.below hB
  obtain ⟨ua, uc, rfl, hc'⟩ := hu.below hB
  clear hv hu
  obtain ⟨a0, a1, a2, a3, a4, a5, a6, a7, a8, a9, a10, a11, a12, a13⟩ := hA0.all
  obtain ⟨b0, b1, b2, b3, b4, b5, b6, b7, b8, b9, b10, b11, b12, b13⟩ := hA1.all
  clear hA0 hA1
  rw [e0] at b0
  rw [e1] at b1
  rw [e2] at b2
  rw [e3] at b3
  rw [e4] at b4
  rw [e5] at b5
  rw [e6] at b6
  rw [e7] at b7
  rw [e8] at b8
  have q1 : (o.ack == p.ack) = false := by simpa using h
  have q2 : decide (o.ack = p.ack) = false := decide_eq_false h
  clear a10 b10 a11 b11 a12 b12
  clear h
  clear e0 e1 e2 e3 e4 e5 e6 e7 e8
  go_enter Try.func15, Try.ntmps15
  simp only [List.append_eq, List.cons_append, List.nil_append]
  go_upto_region 1 with (fail)
  generalize (w.alloc (.cells (o.cells (.slice va o.ids.length vc)) 26)).alloc (.cells (p.cells (.slice ua o.ids.length uc)) 26) = W at *
  go_wp2_with (fail)
  go_loopw [5] (fun i wr => ∃ k : Nat, k ≤ o.ids.length ∧ i = .int .i64 k ∧ ∃ m, wr = W.drewN m) (fun i _ => o.ids.length - (intOf i).toNat)
  case atStart => exact ⟨0, by omega, rfl, 0, rfl⟩
  case round =>
    obtain ⟨k, hk, rfl, m, rfl⟩ := hrel
    by_cases hlt : k < o.ids.length
    · obtain ⟨b, off, rfl, hcc⟩ := hc (by omega)
      obtain ⟨b', off', rfl, hcc'⟩ := hc' (by omega)
      have h1 := hcc k hlt
      have h2 := hcc' k hlt
      generalize o.ids[k] = x at h1 h2
      have q : (0 : Int) ≤ (k : Int) ∧ (k : Int) < (o.ids.length : Int) := by omega
      clear hc hc' hcc hcc'
      go_wp2_with (fail)
      go_quiet (fail)
      go_wp2_with (fail)
      go_roundw
      case rel => exact ⟨k + 1, by omega, by go_num, _, by first | rfl | exact World.drewN_drewN _ _ _⟩
      case measure => simp [intOf]; omega
    · obtain rfl : k = o.ids.length := by omega
      have q : ¬ ((o.ids.length : Int) < (o.ids.length : Int)) := by omega
      clear hc hc'
      go_wp2_with (fail)
      go_ret
      exact ⟨rfl, ⟨hB.os, hB.tape, hB.output, hB.size, hB.block⟩⟩

set_option maxRecDepth 100000 in
set_option maxHeartbeats 1000000 in
theorem ssame_no10 (o p : Ov) (v u : Value) (w : World) (hv : Rd w v o.ids) (hu : Rd w u o.ids) (hn : o.ids.length ≤ 1048576) (e0 : p.kind = o.kind) (e1 : p.id = o.id) (e2 : p.addr = o.addr) (e3 : p.port = o.port) (e4 : p.token = o.token) (e5 : p.nonce = o.nonce) (e6 : p.seq = o.seq) (e7 : p.sub = o.sub) (e8 : p.len = o.len) (e9 : p.ack = o.ack) (h : ¬ o.flag = p.flag) :
    Calls Try.prog 15 #[.agg (o.cells v), .agg (p.cells u)] w fun e w' => e = .returned (.bool false) ∧ Below w.heap.size w w' := by
  have hB : Below w.heap.size w ((w.alloc (.cells (o.cells v) 26)).alloc (.cells (p.cells u) 26)) := ((Below.refl _ _).alloc (Nat.le_refl _) _).alloc (by simp) _
  have hA0 : OvAt ((w.alloc (.cells (o.cells v) 26)).alloc (.cells (p.cells u) 26)) w.heap.size o v := (OvAt.new w o v).alloc _
  have hA1 := OvAt.new (w.alloc (.cells (o.cells v) 26)) p u
  rw [World.size_alloc] at hA1
  obtain ⟨va, vc, rfl, hc⟩ := hv.below hB
  obtain ⟨ua, uc, rfl, hc'⟩ := hu.below hB
  clear hv hu
  obtain ⟨a0, a1, a2, a3, a4, a5, a6, a7, a8, a9, a10, a11, a12, a13⟩ := hA0.all
  obtain ⟨b0, b1, b2, b3, b4, b5, b6, b7, b8, b9, b10, b11, b12, b13⟩ := hA1.all
  clear hA0 hA1
  rw [e0] at b0
  rw [e1] at b1
  rw [e2] at b2
  rw [e3] at b3
  rw [e4] at b4
  rw [e5] at b5
  rw [e6] at b6
  rw [e7] at b7
  rw [e8] at b8
  rw [e9] at b9
  have q1 : (o.flag == p.flag) = false := by simpa using h
  clear a11 b11 a12 b12
  clear h
  clear e0 e1 e2 e3 e4 e5 e6 e7 e8 e9
  go_enter Try.func15, Try.ntmps15
  simp only [List.append_eq, List.cons_append, List.nil_append]
  go_upto_region 1 with (fail)
  generalize (w.alloc (.cells (o.cells (.slice va o.ids.length vc)) 26)).alloc (.cells (p.cells (.slice ua o.ids.length uc)) 26) = W at *
  go_wp2_with (fail)
  go_loopw [5] (fun i wr => ∃ k : Nat, k ≤ o.ids.length ∧ i = .int .i64 k ∧ ∃ m, wr = W.drewN m) (fun i _ => o.ids.length - (intOf i).toNat)
  case atStart => exact ⟨0, by omega, rfl, 0, rfl⟩
  case round =>
    obtain ⟨k, hk, rfl, m, rfl⟩ := hrel
    by_cases hlt : k < o.ids.length
    · obtain ⟨b, off, rfl, hcc⟩ := hc (by omega)
      obtain ⟨b', off', rfl, hcc'⟩ := hc' (by omega)
      have h1 := hcc k hlt
      have h2 := hcc' k hlt
      generalize o.ids[k] = x at h1 h2
      have q : (0 : Int) ≤ (k : Int) ∧ (k : Int) < (o.ids.length : Int) := by omega
      clear hc hc' hcc hcc'
      go_wp2_with (fail)
      go_quiet (fail)
      go_wp2_with (fail)
      go_roundw
      case rel => exact ⟨k + 1, by omega, by go_num, _, by first | rfl | exact World.drewN_drewN _ _ _⟩
      case measure => simp [intOf]; omega
    · obtain rfl : k = o.ids.length := by omega
      have q : ¬ ((o.ids.length : Int) < (o.ids.length : Int)) := by omega
      clear hc hc'
      go_wp2_with (fail)
      go_ret
      exact ⟨rfl, ⟨hB.os, hB.tape, hB.output, hB.size, hB.block⟩⟩

set_option maxRecDepth 100000 in
set_option maxHeartbeats 1000000 in
theorem ssame_no11 (o p : Ov) (v u : Value) (w : World) (hv : Rd w v o.ids) (hu : Rd w u o.ids) (hn : o.ids.length ≤ 1048576) (e0 : p.kind = o.kind) (e1 : p.id = o.id) (e2 : p.addr = o.addr) (e3 : p.port = o.port) (e4 : p.token = o.token) (e5 : p.nonce = o.nonce) (e6 : p.seq = o.seq) (e7 : p.sub = o.sub) (e8 : p.len = o.len) (e9 : p.ack = o.ack) (e10 : p.flag = o.flag) (h : ¬ o.key = p.key) :
    Calls Try.prog 15 #[.agg (o.cells v), .agg (p.cells u)] w fun e w' => e = .returned (.bool false) ∧ Below w.heap.size w w' := by
  have hB : Below w.heap.size w ((w.alloc (.cells (o.cells v) 26)).alloc (.cells (p.cells u) 26)) := ((Below.refl _ _).alloc (Nat.le_refl _) _).alloc (by simp) _
  have hA0 : OvAt ((w.alloc (.cells (o.cells v) 26)).alloc (.cells (p.cells u) 26)) w.heap.size o v := (OvAt.new w o v).alloc _
  have hA1 := OvAt.new (w.alloc (.cells (o.cells v) 26)) p u
  rw [World.size_alloc] at hA1
  obtain ⟨va, vc, rfl, hc⟩ := hv.below hB
  obtain ⟨ua, uc, rfl, hc'⟩ := hu.below hB
  clear hv hu
  obtain ⟨a0, a1, a2, a3, a4, a5, a6, a7, a8, a9, a10, a11, a12, a13⟩ := hA0.all
  obtain ⟨b0, b1, b2, b3, b4, b5, b6, b7, b8, b9, b10, b11, b12, b13⟩ := hA1.all
  clear hA0 hA1
  rw [e0] at b0
  rw [e1] at b1
  rw [e2] at b2
  rw [e3] at b3
  rw [e4] at b4
  rw [e5] at b5
  rw [e6] at b6
  rw [e7] at b7
  rw [e8] at b8
  rw [e9] at b9
  rw [e10] at b10
  have q1 : (o.key.toList == p.key.toList) = false := by rw [toList_beq]; exact decide_eq_false h
  clear a12 b12
  clear h
  clear e0 e1 e2 e3 e4 e5 e6 e7 e8 e9 e10
  go_enter Try.func15, Try.ntmps15
  simp only [List.append_eq, List.cons_append, List.nil_append]
  go_upto_region 1 with (fail)
  generalize (w.alloc (.cells (o.cells (.slice va o.ids.length vc)) 26)).alloc (.cells (p.cells (.slice ua o.ids.length uc)) 26) = W at *
  go_wp2_with (fail)
  go_loopw [5] (fun i wr => ∃ k : Nat, k ≤ o.ids.length ∧ i = .int .i64 k ∧ ∃ m, wr = W.drewN m) (fun i _ => o.ids.length - (intOf i).toNat)
  case atStart => exact ⟨0, by omega, rfl, 0, rfl⟩
  case round =>
    obtain ⟨k, hk, rfl, m, rfl⟩ := hrel
    by_cases hlt : k < o.ids.length
    · obtain ⟨b, off, rfl, hcc⟩ := hc (by omega)
      obtain ⟨b', off', rfl, hcc'⟩ := hc' (by omega)
      have h1 := hcc k hlt
      have h2 := hcc' k hlt
      generalize o.ids[k] = x at h1 h2
      have q : (0 : Int) ≤ (k : Int) ∧ (k : Int) < (o.ids.length : Int) := by omega
      clear hc hc' hcc hcc'
      go_wp2_with (fail)
      go_quiet (fail)
      go_wp2_with (fail)
      go_roundw
      case rel => exact ⟨k + 1, by omega, by go_num, _, by first | rfl | exact World.drewN_drewN _ _ _⟩
      case measure => simp [intOf]; omega
    · obtain rfl : k = o.ids.length := by omega
      have q : ¬ ((o.ids.length : Int) < (o.ids.length : Int)) := by omega
      clear hc hc'
      go_wp2_with (fail)
      go_ret
      exact ⟨rfl, ⟨hB.os, hB.tape, hB.output, hB.size, hB.block⟩⟩

set_option maxRecDepth 100000 in
set_option maxHeartbeats 1000000 in
theorem ssame_no12 (o p : Ov) (v u : Value) (w : World) (hv : Rd w v o.ids) (hu : Rd w u o.ids) (hn : o.ids.length ≤ 1048576) (e0 : p.kind = o.kind) (e1 : p.id = o.id) (e2 : p.addr = o.addr) (e3 : p.port = o.port) (e4 : p.token = o.token) (e5 : p.nonce = o.nonce) (e6 : p.seq = o.seq) (e7 : p.sub = o.sub) (e8 : p.len = o.len) (e9 : p.ack = o.ack) (e10 : p.flag = o.flag) (e11 : p.key = o.key) (h : ¬ o.mark = p.mark) :
    Calls Try.prog 15 #[.agg (o.cells v), .agg (p.cells u)] w fun e w' => e = .returned (.bool false) ∧ Below w.heap.size w w' := by
  have hB : Below w.heap.size w ((w.alloc (.cells (o.cells v) 26)).alloc (.cells (p.cells u) 26)) := ((Below.refl _ _).alloc (Nat.le_refl _) _).alloc (by simp) _
  have hA0 : OvAt ((w.alloc (.cells (o.cells v) 26)).alloc (.cells (p.cells u) 26)) w.heap.size o v := (OvAt.new w o v).alloc _
  have hA1 := OvAt.new (w.alloc (.cells (o.cells v) 26)) p u
  rw [World.size_alloc] at hA1
  obtain ⟨va, vc, rfl, hc⟩ := hv.below hB
  obtain ⟨ua, uc, rfl, hc'⟩ := hu.below hB
  clear hv hu
  obtain ⟨a0, a1, a2, a3, a4, a5, a6, a7, a8, a9, a10, a11, a12, a13⟩ := hA0.all
  obtain ⟨b0, b1, b2, b3, b4, b5, b6, b7, b8, b9, b10, b11, b12, b13⟩ := hA1.all
  clear hA0 hA1
  rw [e0] at b0
  rw [e1] at b1
  rw [e2] at b2
  rw [e3] at b3
  rw [e4] at b4
  rw [e5] at b5
  rw [e6] at b6
  rw [e7] at b7
  rw [e8] at b8
  rw [e9] at b9
  rw [e10] at b10
  rw [e11] at b11
  have q1 : (o.mark.toList == p.mark.toList) = false := by rw [toList_beq]; exact decide_eq_false h
  clear h
  clear e0 e1 e2 e3 e4 e5 e6 e7 e8 e9 e10 e11
  go_enter Try.func15, Try.ntmps15
  simp only [List.append_eq, List.cons_append, List.nil_append]
  go_upto_region 1 with (fail)
  generalize (w.alloc (.cells (o.cells (.slice va o.ids.length vc)) 26)).alloc (.cells (p.cells (.slice ua o.ids.length uc)) 26) = W at *
  go_wp2_with (fail)
  go_loopw [5] (fun i wr => ∃ k : Nat, k ≤ o.ids.length ∧ i = .int .i64 k ∧ ∃ m, wr = W.drewN m) (fun i _ => o.ids.length - (intOf i).toNat)
  case atStart => exact ⟨0, by omega, rfl, 0, rfl⟩
  case round =>
    obtain ⟨k, hk, rfl, m, rfl⟩ := hrel
    by_cases hlt : k < o.ids.length
    · obtain ⟨b, off, rfl, hcc⟩ := hc (by omega)
      obtain ⟨b', off', rfl, hcc'⟩ := hc' (by omega)
      have h1 := hcc k hlt
      have h2 := hcc' k hlt
      generalize o.ids[k] = x at h1 h2
      have q : (0 : Int) ≤ (k : Int) ∧ (k : Int) < (o.ids.length : Int) := by omega
      clear hc hc' hcc hcc'
      go_wp2_with (fail)
      go_quiet (fail)
      go_wp2_with (fail)
      go_roundw
      case rel => exact ⟨k + 1, by omega, by go_num, _, by first | rfl | exact World.drewN_drewN _ _ _⟩
      case measure => simp [intOf]; omega
    · obtain rfl : k = o.ids.length := by omega
      have q : ¬ ((o.ids.length : Int) < (o.ids.length : Int)) := by omega
      clear hc hc'
      go_wp2_with (fail)
      go_ret
      exact ⟨rfl, ⟨hB.os, hB.tape, hB.output, hB.size, hB.block⟩⟩

set_option maxRecDepth 100000 in
set_option maxHeartbeats 1000000 in
theorem ssame_yes (o p : Ov) (v u : Value) (w : World) (hv : Rd w v o.ids) (hu : Rd w u o.ids) (hn : o.ids.length ≤ 1048576) (e0 : p.kind = o.kind) (e1 : p.id = o.id) (e2 : p.addr = o.addr) (e3 : p.port = o.port) (e4 : p.token = o.token) (e5 : p.nonce = o.nonce) (e6 : p.seq = o.seq) (e7 : p.sub = o.sub) (e8 : p.len = o.len) (e9 : p.ack = o.ack) (e10 : p.flag = o.flag) (e11 : p.key = o.key) (e12 : p.mark = o.mark)  :
    Calls Try.prog 15 #[.agg (o.cells v), .agg (p.cells u)] w fun e w' => e = .returned (.bool true) ∧ Below w.heap.size w w' := by
  have hB : Below w.heap.size w ((w.alloc (.cells (o.cells v) 26)).alloc (.cells (p.cells u) 26)) := ((Below.refl _ _).alloc (Nat.le_refl _) _).alloc (by simp) _
  have hA0 : OvAt ((w.alloc (.cells (o.cells v) 26)).alloc (.cells (p.cells u) 26)) w.heap.size o v := (OvAt.new w o v).alloc _
  have hA1 := OvAt.new (w.alloc (.cells (o.cells v) 26)) p u
  rw [World.size_alloc] at hA1
  obtain ⟨va, vc, rfl, hc⟩ := hv.below hB
  obtain ⟨ua, uc, rfl, hc'⟩ := hu.below hB
  clear hv hu
  obtain ⟨a0, a1, a2, a3, a4, a5, a6, a7, a8, a9, a10, a11, a12, a13⟩ := hA0.all
  obtain ⟨b0, b1, b2, b3, b4, b5, b6, b7, b8, b9, b10, b11, b12, b13⟩ := hA1.all
  clear hA0 hA1
  rw [e0] at b0
  rw [e1] at b1
  rw [e2] at b2
  rw [e3] at b3
  rw [e4] at b4
  rw [e5] at b5
  rw [e6] at b6
  rw [e7] at b7
  rw [e8] at b8
  rw [e9] at b9
  rw [e10] at b10
  rw [e11] at b11
  rw [e12] at b12
  clear e0 e1 e2 e3 e4 e5 e6 e7 e8 e9 e10 e11 e12
  go_enter Try.func15, Try.ntmps15
  simp only [List.append_eq, List.cons_append, List.nil_append]
  go_upto_region 1 with (fail)
  generalize (w.alloc (.cells (o.cells (.slice va o.ids.length vc)) 26)).alloc (.cells (p.cells (.slice ua o.ids.length uc)) 26) = W at *
  go_wp2_with (fail)
  go_loopw [5] (fun i wr => ∃ k : Nat, k ≤ o.ids.length ∧ i = .int .i64 k ∧ ∃ m, wr = W.drewN m) (fun i _ => o.ids.length - (intOf i).toNat)
  case atStart => exact ⟨0, by omega, rfl, 0, rfl⟩
  case round =>
    obtain ⟨k, hk, rfl, m, rfl⟩ := hrel
    by_cases hlt : k < o.ids.length
    · obtain ⟨b, off, rfl, hcc⟩ := hc (by omega)
      obtain ⟨b', off', rfl, hcc'⟩ := hc' (by omega)
      have h1 := hcc k hlt
      have h2 := hcc' k hlt
      generalize o.ids[k] = x at h1 h2
      have q : (0 : Int) ≤ (k : Int) ∧ (k : Int) < (o.ids.length : Int) := by omega
      clear hc hc' hcc hcc'
      go_wp2_with (fail)
      go_quiet (fail)
      go_wp2_with (fail)
      go_roundw
      case rel => exact ⟨k + 1, by omega, by go_num, _, by first | rfl | exact World.drewN_drewN _ _ _⟩
      case measure => simp [intOf]; omega
    · obtain rfl : k = o.ids.length := by omega
      have q : ¬ ((o.ids.length : Int) < (o.ids.length : Int)) := by omega
      clear hc hc'
      go_wp2_with (fail)
      go_ret
      exact ⟨rfl, ⟨hB.os, hB.tape, hB.output, hB.size, hB.block⟩⟩

end Go.Proofs.Ytkpajakangaekab

namespace Go.Proofs.Ytkpajakangaekab
open Go.RowKit

set_option maxRecDepth 100000 in
set_option maxHeartbeats 1000000 in
theorem ssame_ids (o p : Ov) (v u : Value) (w : World) (hv : Rd w v o.ids) (hu : Rd w u p.ids) (hn : o.ids.length ≤ 1048576) (hn' : p.ids.length ≤ 1048576) (hno : ¬ o.ids = p.ids) :
    Calls Try.prog 15 #[.agg (o.cells v), .agg (p.cells u)] w fun e w' => e = .returned (.bool false) ∧ Below w.heap.size w w' := by
  have hB : Below w.heap.size w ((w.alloc (.cells (o.cells v) 26)).alloc (.cells (p.cells u) 26)) := ((Below.refl _ _).alloc (Nat.le_refl _) _).alloc (by simp) _
  have hA0 : OvAt ((w.alloc (.cells (o.cells v) 26)).alloc (.cells (p.cells u) 26)) w.heap.size o v := (OvAt.new w o v).alloc _
  have hA1 := OvAt.new (w.alloc (.cells (o.cells v) 26)) p u
  rw [World.size_alloc] at hA1
  have hr := hv.below hB
  have hr' := hu.below hB
  have a13 := hA0.all.2.2.2.2.2.2.2.2.2.2.2.2.2
  have b13 := hA1.all.2.2.2.2.2.2.2.2.2.2.2.2.2
  clear hA0 hA1 hv hu
  generalize hW : (w.alloc (.cells (o.cells v) 26)).alloc (.cells (p.cells u) 26) = W at hB hr hr' a13 b13
  have HW := Lib.hid hW
  clear hW
  generalize o.ids = xs at hr hn hno
  generalize p.ids = ys at hr' hn' hno
  obtain ⟨va, vc, rfl, hc⟩ := hr
  obtain ⟨ua, uc, rfl, hc'⟩ := hr'
  by_cases hl : xs.length = ys.length
  · have hle := agree_le xs ys
    have hpl : agree xs ys < ys.length := by
      rcases Nat.lt_or_ge (agree xs ys) ys.length with h | h
      · exact h
      · exact absurd (agree_all xs ys hl (by omega)) hno
    rw [hl] at a13 HW ⊢
    have HL := Lib.hid hl
    have HP := Lib.hid hpl
    clear hl hpl
    go_enter Try.func15, Try.ntmps15
    go_upto_region 1 with (fail)
    rw [HW.out]
    clear HW
    go_wp2_with (fail)
    go_loopw [5] (fun i wr => ∃ k : Nat, k ≤ agree xs ys ∧ i = .int .i64 k ∧ ∃ m, wr = W.drewN m) (fun i _ => ys.length - (intOf i).toNat)
    case atStart => exact ⟨0, by omega, rfl, 0, rfl⟩
    case round =>
      obtain ⟨k, hk, rfl, m, rfl⟩ := hrel
      have hxl := HL.out
      have hpl := HP.out
      have hlt : k < ys.length := by omega
      obtain ⟨b, off, rfl, hcc⟩ := hc (by omega)
      obtain ⟨b', off', rfl, hcc'⟩ := hc' (by omega)
      have h1 := hcc k (by omega)
      have h2 := hcc' k hlt
      have q : (0 : Int) ≤ (k : Int) ∧ (k : Int) < (ys.length : Int) := by omega
      by_cases he : k < agree xs ys
      · rw [agree_eq xs ys k he (by omega) hlt] at h1
        generalize ys[k] = x at h1 h2
        clear hc hc' hcc hcc' hxl hpl
        go_wp2_with (fail)
        go_quiet (fail)
        go_wp2_with (fail)
        go_roundw
        case rel => exact ⟨k + 1, by omega, by go_num, _, by first | rfl | exact World.drewN_drewN _ _ _⟩
        case measure => simp [intOf]; omega
      · obtain rfl : k = agree xs ys := by omega
        have hne := agree_ne xs ys (by omega) hlt
        have hb : ((xs[agree xs ys]'(by omega)) == ys[agree xs ys]) = false := by simpa using hne
        generalize (xs[agree xs ys]'(by omega)) = x at h1 hne hb
        generalize ys[agree xs ys] = y at h2 hne hb
        generalize agree xs ys = k at *
        clear hc hc' hcc hcc' hxl hpl hle hno
        go_wp2_with (fail)
        go_quiet (fail)
        go_wp2_with (fail)
        go_ret
        exact ⟨rfl, ⟨hB.os, hB.tape, hB.output, hB.size, hB.block⟩⟩
  · have hb : ((xs.length : Int) == (ys.length : Int)) = false := by simp; omega
    have hne : ¬ (xs.length : Int) = (ys.length : Int) := by omega
    clear hl hno hc hc'
    go_enter Try.func15, Try.ntmps15
    go_upto_region 1 with (fail)
    rw [HW.out]
    clear HW
    go_wp2_with (fail)
    go_ret
    exact ⟨rfl, hB⟩

theorem spec_same (o p : Ov) (v u : Value) (w : World) (hv : Rd w v o.ids) (hu : Rd w u p.ids) (hn : o.ids.length ≤ 1048576) (hn' : p.ids.length ≤ 1048576) :
    Calls Try.prog 15 #[.agg (o.cells v), .agg (p.cells u)] w fun e w' => e = .returned (.bool (sameOv o p)) ∧ Below w.heap.size w w' := by
  by_cases e13 : p.ids = o.ids
  · rw [e13] at hu
    skip
    by_cases e0 : p.kind = o.kind
    · skip
      by_cases e1 : p.id = o.id
      · skip
        by_cases e2 : p.addr = o.addr
        · skip
          by_cases e3 : p.port = o.port
          · skip
            by_cases e4 : p.token = o.token
            · skip
              by_cases e5 : p.nonce = o.nonce
              · skip
                by_cases e6 : p.seq = o.seq
                · skip
                  by_cases e7 : p.sub = o.sub
                  · skip
                    by_cases e8 : p.len = o.len
                    · skip
                      by_cases e9 : p.ack = o.ack
                      · skip
                        by_cases e10 : p.flag = o.flag
                        · skip
                          by_cases e11 : p.key = o.key
                          · skip
                            by_cases e12 : p.mark = o.mark
                            · skip
                              rw [(sameOv_iff o p).2 (by cases o; cases p; simp_all)]
                              exact ssame_yes o p v u w hv hu hn e0 e1 e2 e3 e4 e5 e6 e7 e8 e9 e10 e11 e12
                            · rw [sameOv_no o p (fun h => e12 (by rw [h]))]
                              exact ssame_no12 o p v u w hv hu hn e0 e1 e2 e3 e4 e5 e6 e7 e8 e9 e10 e11 (fun h => e12 h.symm)
                          · rw [sameOv_no o p (fun h => e11 (by rw [h]))]
                            exact ssame_no11 o p v u w hv hu hn e0 e1 e2 e3 e4 e5 e6 e7 e8 e9 e10 (fun h => e11 h.symm)
                        · rw [sameOv_no o p (fun h => e10 (by rw [h]))]
                          exact ssame_no10 o p v u w hv hu hn e0 e1 e2 e3 e4 e5 e6 e7 e8 e9 (fun h => e10 h.symm)
                      · rw [sameOv_no o p (fun h => e9 (by rw [h]))]
                        exact ssame_no9 o p v u w hv hu hn e0 e1 e2 e3 e4 e5 e6 e7 e8 (fun h => e9 h.symm)
                    · rw [sameOv_no o p (fun h => e8 (by rw [h]))]
                      exact ssame_no8 o p v u w hv hu hn e0 e1 e2 e3 e4 e5 e6 e7 (fun h => e8 h.symm)
                  · rw [sameOv_no o p (fun h => e7 (by rw [h]))]
                    exact ssame_no7 o p v u w hv hu hn e0 e1 e2 e3 e4 e5 e6 (fun h => e7 h.symm)
                · rw [sameOv_no o p (fun h => e6 (by rw [h]))]
                  exact ssame_no6 o p v u w hv hu hn e0 e1 e2 e3 e4 e5 (fun h => e6 h.symm)
              · rw [sameOv_no o p (fun h => e5 (by rw [h]))]
                exact ssame_no5 o p v u w hv hu hn e0 e1 e2 e3 e4 (fun h => e5 h.symm)
            · rw [sameOv_no o p (fun h => e4 (by rw [h]))]
              exact ssame_no4 o p v u w hv hu hn e0 e1 e2 e3 (fun h => e4 h.symm)
          · rw [sameOv_no o p (fun h => e3 (by rw [h]))]
            exact ssame_no3 o p v u w hv hu hn e0 e1 e2 (fun h => e3 h.symm)
        · rw [sameOv_no o p (fun h => e2 (by rw [h]))]
          exact ssame_no2 o p v u w hv hu hn e0 e1 (fun h => e2 h.symm)
      · rw [sameOv_no o p (fun h => e1 (by rw [h]))]
        exact ssame_no1 o p v u w hv hu hn e0 (fun h => e1 h.symm)
    · rw [sameOv_no o p (fun h => e0 (by rw [h]))]
      exact ssame_no0 o p v u w hv hu hn  (fun h => e0 h.symm)
  · rw [sameOv_no o p (fun h => e13 (by rw [h]))]
    exact ssame_ids o p v u w hv hu hn hn' (fun h => e13 h.symm)
end Go.Proofs.Ytkpajakangaekab

