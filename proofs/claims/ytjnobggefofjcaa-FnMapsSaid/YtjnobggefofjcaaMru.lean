import Derived.Test.YtjnobggefofjcaaMap
import Derived.Test.YtjnobggefofjcaaTyn
namespace Go.Proofs.Ytjnobggefofjcaa
open Go.RowKit

theorem impl_seqend (m : Mp) (w : World) (hf : m.fine) :
    Calls Try.prog 52 #[.agg m.cells] w fun e w' => e = .returned (.int .i64 (m.seq + m.len)) ∧ Below w.heap.size w w' := by
  have HB := Lib.hid (below_box w m)
  have e1 : IntKind.i64.wrap (m.seq + m.len) = m.seq + m.len := IntWalk.i64_in _ (by unfold Mp.fine at hf; omega)
  unfold Mp.cells
  clear hf
  go_enter Try.func52, Try.ntmps52
  go_wp2_with (fail)
  go_ret
  exact ⟨rfl, HB.out⟩

/-- Two boxes in a world above w. -/
structure Box2 (w W : World) (g h : Nat) (m n : Mp) : Prop where
  m0 : W.cell? ⟨g, 0, none⟩ = some (.int .i64 m.sub)
  m1 : W.cell? ⟨g, 1, none⟩ = some (.int .i64 m.seq)
  m2 : W.cell? ⟨g, 2, none⟩ = some (.int .i64 m.len)
  n0 : W.cell? ⟨h, 0, none⟩ = some (.int .i64 n.sub)
  n1 : W.cell? ⟨h, 1, none⟩ = some (.int .i64 n.seq)
  n2 : W.cell? ⟨h, 2, none⟩ = some (.int .i64 n.len)
  b : Below w.heap.size w W

def Box2A (w W : World) (g h : Nat) (m n : Mp) : Prop := W.cell? ⟨g, 0, none⟩ = some (.int .i64 m.sub) ∧ W.cell? ⟨g, 1, none⟩ = some (.int .i64 m.seq) ∧ W.cell? ⟨g, 2, none⟩ = some (.int .i64 m.len) ∧ W.cell? ⟨h, 0, none⟩ = some (.int .i64 n.sub) ∧ W.cell? ⟨h, 1, none⟩ = some (.int .i64 n.seq) ∧ W.cell? ⟨h, 2, none⟩ = some (.int .i64 n.len) ∧ Below w.heap.size w W

theorem box2_keep {w W W' : World} {g h : Nat} {m n : Mp} (a : W.cell? ⟨g, 0, none⟩ = some (.int .i64 m.sub) ∧ W.cell? ⟨g, 1, none⟩ = some (.int .i64 m.seq) ∧ W.cell? ⟨g, 2, none⟩ = some (.int .i64 m.len) ∧ W.cell? ⟨h, 0, none⟩ = some (.int .i64 n.sub) ∧ W.cell? ⟨h, 1, none⟩ = some (.int .i64 n.seq) ∧ W.cell? ⟨h, 2, none⟩ = some (.int .i64 n.len) ∧ Below w.heap.size w W) (hb : Below W.heap.size W W') :
    W'.cell? ⟨g, 0, none⟩ = some (.int .i64 m.sub) ∧ W'.cell? ⟨g, 1, none⟩ = some (.int .i64 m.seq) ∧ W'.cell? ⟨g, 2, none⟩ = some (.int .i64 m.len) ∧ W'.cell? ⟨h, 0, none⟩ = some (.int .i64 n.sub) ∧ W'.cell? ⟨h, 1, none⟩ = some (.int .i64 n.seq) ∧ W'.cell? ⟨h, 2, none⟩ = some (.int .i64 n.len) ∧ Below w.heap.size w W' := by
  obtain ⟨a0, a1, a2, b0, b1, b2, c⟩ := a
  have k : ∀ (b o : Nat) (v : Value), W.cell? ⟨b, o, none⟩ = some v → W'.cell? ⟨b, o, none⟩ = some v := fun b o v hv => by
    rw [hb.cell (p := ⟨b, o, none⟩) (World.block_lt_of_cell? _ _ hv)]
    exact hv
  exact ⟨k _ _ _ a0, k _ _ _ a1, k _ _ _ a2, k _ _ _ b0, k _ _ _ b1, k _ _ _ b2, Below.then_ c hb⟩

theorem box2_new (w : World) (m n : Mp) : ((w.alloc (.cells #[.int .i64 m.sub, .int .i64 m.seq, .int .i64 m.len] 26)).alloc (.cells #[.int .i64 n.sub, .int .i64 n.seq, .int .i64 n.len] 26)).drew.cell? ⟨w.heap.size, 0, none⟩ = some (.int .i64 m.sub) ∧ ((w.alloc (.cells #[.int .i64 m.sub, .int .i64 m.seq, .int .i64 m.len] 26)).alloc (.cells #[.int .i64 n.sub, .int .i64 n.seq, .int .i64 n.len] 26)).drew.cell? ⟨w.heap.size, 1, none⟩ = some (.int .i64 m.seq) ∧ ((w.alloc (.cells #[.int .i64 m.sub, .int .i64 m.seq, .int .i64 m.len] 26)).alloc (.cells #[.int .i64 n.sub, .int .i64 n.seq, .int .i64 n.len] 26)).drew.cell? ⟨w.heap.size, 2, none⟩ = some (.int .i64 m.len) ∧ ((w.alloc (.cells #[.int .i64 m.sub, .int .i64 m.seq, .int .i64 m.len] 26)).alloc (.cells #[.int .i64 n.sub, .int .i64 n.seq, .int .i64 n.len] 26)).drew.cell? ⟨w.heap.size + 1, 0, none⟩ = some (.int .i64 n.sub) ∧ ((w.alloc (.cells #[.int .i64 m.sub, .int .i64 m.seq, .int .i64 m.len] 26)).alloc (.cells #[.int .i64 n.sub, .int .i64 n.seq, .int .i64 n.len] 26)).drew.cell? ⟨w.heap.size + 1, 1, none⟩ = some (.int .i64 n.seq) ∧ ((w.alloc (.cells #[.int .i64 m.sub, .int .i64 m.seq, .int .i64 m.len] 26)).alloc (.cells #[.int .i64 n.sub, .int .i64 n.seq, .int .i64 n.len] 26)).drew.cell? ⟨w.heap.size + 1, 2, none⟩ = some (.int .i64 n.len) ∧ Below w.heap.size w ((w.alloc (.cells #[.int .i64 m.sub, .int .i64 m.seq, .int .i64 m.len] 26)).alloc (.cells #[.int .i64 n.sub, .int .i64 n.seq, .int .i64 n.len] 26)).drew := by
  have h1 := (Cel.new w 26 #[.int .i64 m.sub, .int .i64 m.seq, .int .i64 m.len]).alloc (.cells #[.int .i64 n.sub, .int .i64 n.seq, .int .i64 n.len] 26)
  have h2 := Cel.new (w.alloc (.cells #[.int .i64 m.sub, .int .i64 m.seq, .int .i64 m.len] 26)) 26 #[.int .i64 n.sub, .int .i64 n.seq, .int .i64 n.len]
  rw [World.size_alloc] at h2
  obtain ⟨a0, a1, a2⟩ := cel3 h1
  obtain ⟨b0, b1, b2⟩ := cel3 h2
  exact ⟨a0, a1, a2, b0, b1, b2, (((Below.refl _ _).alloc (Nat.le_refl _) _).alloc (by simp) _).drew⟩

set_option maxRecDepth 100000 in
set_option maxHeartbeats 2000000 in
theorem impl_contBy (m n : Mp) (w : World) (hm : m.fine) (hn : n.fine) :
    Calls Try.prog 45 #[.agg m.cells, .agg n.cells] w fun e w' => e = .returned (.bool (decide (m.goesOn n))) ∧ Below w.heap.size w w' := by
  have c1 := fun W => impl_subend m W hm
  have c2 := fun W => impl_seqend m W hm
  have hS := box2_new w m n
  have e3 : IntKind.i64.wrap (m.len + n.len) = m.len + n.len := IntWalk.i64_in _ (by unfold Mp.fine at hm hn; omega)
  have hb3 : 0 ≤ m.len ∧ m.len ≤ 100000 ∧ 0 ≤ n.len ∧ n.len ≤ 100000 := by unfold Mp.fine at hm hn; omega
  unfold Mp.cells at *
  clear hm hn
  by_cases h1 : n.sub = m.sub + m.len
  · have q1 : (n.sub == m.sub + m.len) = true := by simpa using h1
    have q1' : decide (n.sub = m.sub + m.len) = true := decide_eq_true h1
    by_cases h2 : n.seq = m.seq + m.len
    · have q2 : (n.seq == m.seq + m.len) = true := by simpa using h2
      have q2' : decide (n.seq = m.seq + m.len) = true := decide_eq_true h2
      have hd : decide (m.goesOn n) = decide (m.len + n.len ≤ 100000) := decide_eq_decide.2 ⟨fun h => h.2.2, fun h => ⟨h1, h2, h⟩⟩
      rw [hd]
      have HH := Lib.hid (And.intro h1 h2)
      clear hd h1 h2
      go_enter Try.func45, Try.ntmps45
      go_wp2_with (fail)
      go_region_held3 (fun W => W.cell? ⟨w.heap.size, 0, none⟩ = some (.int .i64 m.sub) ∧ W.cell? ⟨w.heap.size, 1, none⟩ = some (.int .i64 m.seq) ∧ W.cell? ⟨w.heap.size, 2, none⟩ = some (.int .i64 m.len) ∧ W.cell? ⟨w.heap.size + 1, 0, none⟩ = some (.int .i64 n.sub) ∧ W.cell? ⟨w.heap.size + 1, 1, none⟩ = some (.int .i64 n.seq) ∧ W.cell? ⟨w.heap.size + 1, 2, none⟩ = some (.int .i64 n.len) ∧ Below w.heap.size w W)
        (first | exact hS | exact box2_keep (by assumption) (by assumption) | go_keep)
        (first | (go_at_call 33; (with_reducible refine (c1 _).mono ?_); rintro e w1 ⟨rfl, hb1⟩) | (go_at_call 52; (with_reducible refine (c2 _).mono ?_); rintro e w2 ⟨rfl, hb2⟩))
      rename_i hHH
      have HB := Lib.hid hHH.2.2.2.2.2.2
      clear hHH
      go_wp2_with (fail)
      go_ret
      exact ⟨rfl, HB.out⟩
    · have q2 : (n.seq == m.seq + m.len) = false := by simpa using h2
      have q2' : decide (n.seq = m.seq + m.len) = false := decide_eq_false h2
      have hd : decide (m.goesOn n) = false := decide_eq_false fun h => h2 h.2.1
      rw [hd]
      have HH := Lib.hid (And.intro h1 h2)
      clear hd h1 h2 e3
      go_enter Try.func45, Try.ntmps45
      go_wp2_with (fail)
      refine wp_region_held_drew (S := fun W => W.cell? ⟨w.heap.size, 0, none⟩ = some (.int .i64 m.sub) ∧ W.cell? ⟨w.heap.size, 1, none⟩ = some (.int .i64 m.seq) ∧ W.cell? ⟨w.heap.size, 2, none⟩ = some (.int .i64 m.len) ∧ W.cell? ⟨w.heap.size + 1, 0, none⟩ = some (.int .i64 n.sub) ∧ W.cell? ⟨w.heap.size + 1, 1, none⟩ = some (.int .i64 n.seq) ∧ W.cell? ⟨w.heap.size + 1, 2, none⟩ = some (.int .i64 n.len) ∧ Below w.heap.size w W) (by kernel_rfl) hS (fun hHeld => ?_)
      refine take_yes (i := 0) (oi := { dst := some 5, op := Op.fieldAddr 26 (Operand.tmp 3) 0, type := 0, pos := "l08_maps.go:120", after := #[], guard := none }) (v := .pointer (some ⟨w.heap.size + 1, 0, none⟩)) rfl (by kernel_rfl) (by kernel_rfl) (by kernel_rfl) (fun _ _ _ h => h) (by rfl) (fun w hSw => by (try dsimp only at hSw); go_simp) (by assumption) ?_
      try simp only [Act.put, List.setIfInBounds_toArray, List.set_cons_zero, List.set_cons_succ]
      refine take_yes (i := 1) (oi := { dst := some 6, op := Op.load 3 (Operand.tmp 5), type := 3, pos := "l08_maps.go:120", after := #[{ on := 0, ground := Ground.data }], guard := none }) (v := .int .i64 n.sub) rfl (by kernel_rfl) (by kernel_rfl) (by kernel_rfl) (fun _ _ _ h => h) (by rfl) (fun w hSw => by (try dsimp only at hSw); go_simp) (by assumption) ?_
      try simp only [Act.put, List.setIfInBounds_toArray, List.set_cons_zero, List.set_cons_succ]
      refine take_yes (i := 2) (oi := { dst := some 7, op := Op.load 26 (Operand.tmp 2), type := 26, pos := "l08_maps.go:120", after := #[], guard := none }) (v := .agg #[.int .i64 m.sub, .int .i64 m.seq, .int .i64 m.len]) rfl (by kernel_rfl) (by kernel_rfl) (by kernel_rfl) (fun _ _ _ h => h) (by rfl) (fun w hSw => by (try dsimp only at hSw); go_simp) (by assumption) ?_
      try simp only [Act.put, List.setIfInBounds_toArray, List.set_cons_zero, List.set_cons_succ]
      refine wpAnyH_ready (rs := [3]) (by kernel_rfl) (by simp) ?_
      refine AllReadyH.cons (o := { dst := some 8, op := Op.call { callee := Callee.value (Operand.func 33), args := #[Operand.tmp 7], argTypes := #[26] }, type := 3, pos := "l08_maps.go:120", after := #[{ on := 2, ground := Ground.data }], guard := none }) rfl (fun K hK => ?_) AllReadyH.nil
      go_simp
      with_reducible refine (c1 _).mono ?_
      rintro e w1 ⟨rfl, hb1⟩
      refine hK.out _ _ (box2_keep (by assumption) hb1) (fun hHeld => ?_)
      clear hK K
      try simp only [Act.put, List.setIfInBounds_toArray, List.set_cons_zero, List.set_cons_succ]
      refine take_yes (i := 4) (oi := { dst := some 9, op := Op.binOp BinOp.eql 3 (Operand.tmp 6) (Operand.tmp 8) 3, type := 4, pos := "l08_maps.go:120", after := #[{ on := 1, ground := Ground.data }, { on := 3, ground := Ground.data }], guard := none }) (v := .bool true) rfl (by kernel_rfl) (by kernel_rfl) (by kernel_rfl) (fun _ _ _ h => h) (by rfl) (fun w hSw => by (try dsimp only at hSw); go_simp) (by assumption) ?_
      try simp only [Act.put, List.setIfInBounds_toArray, List.set_cons_zero, List.set_cons_succ]
      refine take_yes (i := 5) (oi := { dst := some 10, op := Op.move (Operand.tmp 9), type := 4, pos := "l08_maps.go:120", after := #[{ on := 4, ground := Ground.data }, { on := 3, ground := Ground.chain }], guard := none }) (v := .bool true) rfl (by kernel_rfl) (by kernel_rfl) (by kernel_rfl) (fun _ _ _ h => h) (by rfl) (fun w hSw => by (try dsimp only at hSw); go_simp) (by assumption) ?_
      try simp only [Act.put, List.setIfInBounds_toArray, List.set_cons_zero, List.set_cons_succ]
      refine take_yes (i := 6) (oi := { dst := some 11, op := Op.fieldAddr 26 (Operand.tmp 3) 1, type := 0, pos := "l08_maps.go:120", after := #[{ on := 5, ground := Ground.guard }], guard := some (5, true) }) (v := .pointer (some ⟨w.heap.size + 1, 1, none⟩)) rfl (by kernel_rfl) (by kernel_rfl) (by kernel_rfl) (fun _ _ _ h => h) (by rfl) (fun w hSw => by (try dsimp only at hSw); go_simp) (by assumption) ?_
      try simp only [Act.put, List.setIfInBounds_toArray, List.set_cons_zero, List.set_cons_succ]
      refine take_yes (i := 7) (oi := { dst := some 12, op := Op.load 3 (Operand.tmp 11), type := 3, pos := "l08_maps.go:120", after := #[{ on := 6, ground := Ground.data }, { on := 5, ground := Ground.guard }], guard := some (5, true) }) (v := .int .i64 n.seq) rfl (by kernel_rfl) (by kernel_rfl) (by kernel_rfl) (fun _ _ _ h => h) (by rfl) (fun w hSw => by (try dsimp only at hSw); go_simp) (by assumption) ?_
      try simp only [Act.put, List.setIfInBounds_toArray, List.set_cons_zero, List.set_cons_succ]
      refine take_yes (i := 8) (oi := { dst := some 13, op := Op.load 26 (Operand.tmp 2), type := 26, pos := "l08_maps.go:120", after := #[{ on := 5, ground := Ground.guard }], guard := some (5, true) }) (v := .agg #[.int .i64 m.sub, .int .i64 m.seq, .int .i64 m.len]) rfl (by kernel_rfl) (by kernel_rfl) (by kernel_rfl) (fun _ _ _ h => h) (by rfl) (fun w hSw => by (try dsimp only at hSw); go_simp) (by assumption) ?_
      try simp only [Act.put, List.setIfInBounds_toArray, List.set_cons_zero, List.set_cons_succ]
      refine wpAnyH_ready (rs := [9]) (by kernel_rfl) (by simp) ?_
      refine AllReadyH.cons (o := { dst := some 14, op := Op.call { callee := Callee.value (Operand.func 52), args := #[Operand.tmp 13], argTypes := #[26] }, type := 3, pos := "l08_maps.go:120", after := #[{ on := 8, ground := Ground.data }, { on := 5, ground := Ground.chain }, { on := 5, ground := Ground.guard }], guard := some (5, true) }) rfl (fun K hK => ?_) AllReadyH.nil
      go_simp
      with_reducible refine (c2 _).mono ?_
      rintro e w2 ⟨rfl, hb2⟩
      refine hK.out _ _ (box2_keep (by assumption) hb2) (fun hHeld => ?_)
      clear hK K
      try simp only [Act.put, List.setIfInBounds_toArray, List.set_cons_zero, List.set_cons_succ]
      refine take_yes (i := 10) (oi := { dst := some 15, op := Op.binOp BinOp.eql 3 (Operand.tmp 12) (Operand.tmp 14) 3, type := 4, pos := "l08_maps.go:120", after := #[{ on := 7, ground := Ground.data }, { on := 9, ground := Ground.data }, { on := 5, ground := Ground.guard }], guard := some (5, true) }) (v := .bool false) rfl (by kernel_rfl) (by kernel_rfl) (by kernel_rfl) (fun _ _ _ h => h) (by rfl) (fun w hSw => by (try dsimp only at hSw); go_simp) (by assumption) ?_
      try simp only [Act.put, List.setIfInBounds_toArray, List.set_cons_zero, List.set_cons_succ]
      refine take_yes (i := 11) (oi := { dst := some 16, op := Op.pick (Operand.tmp 10) (Operand.tmp 15) (Operand.const (Value.bool false)), type := 4, pos := "l08_maps.go:120", after := #[{ on := 5, ground := Ground.data }, { on := 10, ground := Ground.data }], guard := none }) (v := .bool false) rfl (by kernel_rfl) (by kernel_rfl) (by kernel_rfl) (fun _ _ _ h => h) (by rfl) (fun w hSw => by (try dsimp only at hSw); go_simp) (by assumption) ?_
      try simp only [Act.put, List.setIfInBounds_toArray, List.set_cons_zero, List.set_cons_succ]
      refine take_yes (i := 12) (oi := { dst := some 17, op := Op.move (Operand.tmp 16), type := 4, pos := "l08_maps.go:120", after := #[{ on := 11, ground := Ground.data }, { on := 9, ground := Ground.chain }], guard := none }) (v := .bool false) rfl (by kernel_rfl) (by kernel_rfl) (by kernel_rfl) (fun _ _ _ h => h) (by rfl) (fun w hSw => by (try dsimp only at hSw); go_simp) (by assumption) ?_
      try simp only [Act.put, List.setIfInBounds_toArray, List.set_cons_zero, List.set_cons_succ]
      refine take_no (i := 13) (oi := { dst := some 18, op := Op.fieldAddr 26 (Operand.tmp 2) 2, type := 0, pos := "l08_maps.go:120", after := #[{ on := 12, ground := Ground.guard }], guard := some (12, true) }) rfl (by kernel_rfl) (by kernel_rfl) (by kernel_rfl) (fun _ _ _ h => h) (by rfl) (by assumption) ?_
      try simp only [Act.put, List.setIfInBounds_toArray, List.set_cons_zero, List.set_cons_succ]
      refine take_no (i := 14) (oi := { dst := some 19, op := Op.load 3 (Operand.tmp 18), type := 3, pos := "l08_maps.go:120", after := #[{ on := 13, ground := Ground.data }, { on := 12, ground := Ground.guard }], guard := some (12, true) }) rfl (by kernel_rfl) (by kernel_rfl) (by kernel_rfl) (fun _ _ _ h => h) (by rfl) (by assumption) ?_
      try simp only [Act.put, List.setIfInBounds_toArray, List.set_cons_zero, List.set_cons_succ]
      refine take_no (i := 15) (oi := { dst := some 20, op := Op.fieldAddr 26 (Operand.tmp 3) 2, type := 0, pos := "l08_maps.go:120", after := #[{ on := 12, ground := Ground.guard }], guard := some (12, true) }) rfl (by kernel_rfl) (by kernel_rfl) (by kernel_rfl) (fun _ _ _ h => h) (by rfl) (by assumption) ?_
      try simp only [Act.put, List.setIfInBounds_toArray, List.set_cons_zero, List.set_cons_succ]
      refine take_no (i := 16) (oi := { dst := some 21, op := Op.load 3 (Operand.tmp 20), type := 3, pos := "l08_maps.go:120", after := #[{ on := 15, ground := Ground.data }, { on := 12, ground := Ground.guard }], guard := some (12, true) }) rfl (by kernel_rfl) (by kernel_rfl) (by kernel_rfl) (fun _ _ _ h => h) (by rfl) (by assumption) ?_
      try simp only [Act.put, List.setIfInBounds_toArray, List.set_cons_zero, List.set_cons_succ]
      refine take_no (i := 17) (oi := { dst := some 22, op := Op.binOp BinOp.add 3 (Operand.tmp 19) (Operand.tmp 21) 3, type := 3, pos := "l08_maps.go:120", after := #[{ on := 14, ground := Ground.data }, { on := 16, ground := Ground.data }, { on := 12, ground := Ground.guard }], guard := some (12, true) }) rfl (by kernel_rfl) (by kernel_rfl) (by kernel_rfl) (fun _ _ _ h => h) (by rfl) (by assumption) ?_
      try simp only [Act.put, List.setIfInBounds_toArray, List.set_cons_zero, List.set_cons_succ]
      refine take_no (i := 18) (oi := { dst := some 23, op := Op.binOp BinOp.leq 3 (Operand.tmp 22) (Operand.const (Value.int IntKind.i64 100000)) 3, type := 4, pos := "l08_maps.go:120", after := #[{ on := 17, ground := Ground.data }, { on := 12, ground := Ground.guard }], guard := some (12, true) }) rfl (by kernel_rfl) (by kernel_rfl) (by kernel_rfl) (fun _ _ _ h => h) (by rfl) (by assumption) ?_
      try simp only [Act.put, List.setIfInBounds_toArray, List.set_cons_zero, List.set_cons_succ]
      refine take_yes (i := 19) (oi := { dst := some 24, op := Op.pick (Operand.tmp 17) (Operand.tmp 23) (Operand.const (Value.bool false)), type := 4, pos := "l08_maps.go:120", after := #[{ on := 12, ground := Ground.data }, { on := 18, ground := Ground.data }], guard := none }) (v := .bool false) rfl (by kernel_rfl) (by kernel_rfl) (by kernel_rfl) (fun _ _ _ h => h) (by rfl) (fun w hSw => by (try dsimp only at hSw); go_simp) (by assumption) ?_
      try simp only [Act.put, List.setIfInBounds_toArray, List.set_cons_zero, List.set_cons_succ]
      refine take_yes (i := 20) (oi := { dst := some 4, op := Op.assign (Operand.tmp 24), type := 4, pos := "l08_maps.go:120", after := #[{ on := 19, ground := Ground.data }, { on := 12, ground := Ground.chain }, { on := 0, ground := Ground.phase }, { on := 1, ground := Ground.phase }, { on := 2, ground := Ground.phase }, { on := 3, ground := Ground.phase }, { on := 4, ground := Ground.phase }, { on := 5, ground := Ground.phase }, { on := 6, ground := Ground.phase }, { on := 7, ground := Ground.phase }, { on := 8, ground := Ground.phase }, { on := 9, ground := Ground.phase }, { on := 10, ground := Ground.phase }, { on := 11, ground := Ground.phase }, { on := 12, ground := Ground.phase }, { on := 13, ground := Ground.phase }, { on := 14, ground := Ground.phase }, { on := 15, ground := Ground.phase }, { on := 16, ground := Ground.phase }, { on := 17, ground := Ground.phase }, { on := 18, ground := Ground.phase }, { on := 19, ground := Ground.phase }], guard := none }) (v := .bool false) rfl (by kernel_rfl) (by kernel_rfl) (by kernel_rfl) (fun _ _ _ h => h) (by rfl) (fun w hSw => by (try dsimp only at hSw); go_simp) (by assumption) ?_
      try simp only [Act.put, List.setIfInBounds_toArray, List.set_cons_zero, List.set_cons_succ]
      refine wpAnyH_done (by kernel_rfl) ?_ _
      have HB := Lib.hid hHeld.2.2.2.2.2.2
      clear hHeld
      go_wp2_with (fail)
      go_ret
      exact ⟨rfl, HB.out⟩
  · have q1 : (n.sub == m.sub + m.len) = false := by simpa using h1
    have q1' : decide (n.sub = m.sub + m.len) = false := decide_eq_false h1
    have hd : decide (m.goesOn n) = false := decide_eq_false fun h => h1 h.1
    rw [hd]
    have HH := Lib.hid h1
    clear hd h1 e3 c2
    go_enter Try.func45, Try.ntmps45
    go_wp2_with (fail)
    refine wp_region_held_drew (S := fun W => W.cell? ⟨w.heap.size, 0, none⟩ = some (.int .i64 m.sub) ∧ W.cell? ⟨w.heap.size, 1, none⟩ = some (.int .i64 m.seq) ∧ W.cell? ⟨w.heap.size, 2, none⟩ = some (.int .i64 m.len) ∧ W.cell? ⟨w.heap.size + 1, 0, none⟩ = some (.int .i64 n.sub) ∧ W.cell? ⟨w.heap.size + 1, 1, none⟩ = some (.int .i64 n.seq) ∧ W.cell? ⟨w.heap.size + 1, 2, none⟩ = some (.int .i64 n.len) ∧ Below w.heap.size w W) (by kernel_rfl) hS (fun hHeld => ?_)
    refine take_yes (i := 0) (oi := { dst := some 5, op := Op.fieldAddr 26 (Operand.tmp 3) 0, type := 0, pos := "l08_maps.go:120", after := #[], guard := none }) (v := .pointer (some ⟨w.heap.size + 1, 0, none⟩)) rfl (by kernel_rfl) (by kernel_rfl) (by kernel_rfl) (fun _ _ _ h => h) (by rfl) (fun w hSw => by (try dsimp only at hSw); go_simp) (by assumption) ?_
    try simp only [Act.put, List.setIfInBounds_toArray, List.set_cons_zero, List.set_cons_succ]
    refine take_yes (i := 1) (oi := { dst := some 6, op := Op.load 3 (Operand.tmp 5), type := 3, pos := "l08_maps.go:120", after := #[{ on := 0, ground := Ground.data }], guard := none }) (v := .int .i64 n.sub) rfl (by kernel_rfl) (by kernel_rfl) (by kernel_rfl) (fun _ _ _ h => h) (by rfl) (fun w hSw => by (try dsimp only at hSw); go_simp) (by assumption) ?_
    try simp only [Act.put, List.setIfInBounds_toArray, List.set_cons_zero, List.set_cons_succ]
    refine take_yes (i := 2) (oi := { dst := some 7, op := Op.load 26 (Operand.tmp 2), type := 26, pos := "l08_maps.go:120", after := #[], guard := none }) (v := .agg #[.int .i64 m.sub, .int .i64 m.seq, .int .i64 m.len]) rfl (by kernel_rfl) (by kernel_rfl) (by kernel_rfl) (fun _ _ _ h => h) (by rfl) (fun w hSw => by (try dsimp only at hSw); go_simp) (by assumption) ?_
    try simp only [Act.put, List.setIfInBounds_toArray, List.set_cons_zero, List.set_cons_succ]
    refine wpAnyH_ready (rs := [3]) (by kernel_rfl) (by simp) ?_
    refine AllReadyH.cons (o := { dst := some 8, op := Op.call { callee := Callee.value (Operand.func 33), args := #[Operand.tmp 7], argTypes := #[26] }, type := 3, pos := "l08_maps.go:120", after := #[{ on := 2, ground := Ground.data }], guard := none }) rfl (fun K hK => ?_) AllReadyH.nil
    go_simp
    with_reducible refine (c1 _).mono ?_
    rintro e w1 ⟨rfl, hb1⟩
    refine hK.out _ _ (box2_keep (by assumption) hb1) (fun hHeld => ?_)
    clear hK K
    try simp only [Act.put, List.setIfInBounds_toArray, List.set_cons_zero, List.set_cons_succ]
    refine take_yes (i := 4) (oi := { dst := some 9, op := Op.binOp BinOp.eql 3 (Operand.tmp 6) (Operand.tmp 8) 3, type := 4, pos := "l08_maps.go:120", after := #[{ on := 1, ground := Ground.data }, { on := 3, ground := Ground.data }], guard := none }) (v := .bool false) rfl (by kernel_rfl) (by kernel_rfl) (by kernel_rfl) (fun _ _ _ h => h) (by rfl) (fun w hSw => by (try dsimp only at hSw); go_simp) (by assumption) ?_
    try simp only [Act.put, List.setIfInBounds_toArray, List.set_cons_zero, List.set_cons_succ]
    refine take_yes (i := 5) (oi := { dst := some 10, op := Op.move (Operand.tmp 9), type := 4, pos := "l08_maps.go:120", after := #[{ on := 4, ground := Ground.data }, { on := 3, ground := Ground.chain }], guard := none }) (v := .bool false) rfl (by kernel_rfl) (by kernel_rfl) (by kernel_rfl) (fun _ _ _ h => h) (by rfl) (fun w hSw => by (try dsimp only at hSw); go_simp) (by assumption) ?_
    try simp only [Act.put, List.setIfInBounds_toArray, List.set_cons_zero, List.set_cons_succ]
    refine take_no (i := 6) (oi := { dst := some 11, op := Op.fieldAddr 26 (Operand.tmp 3) 1, type := 0, pos := "l08_maps.go:120", after := #[{ on := 5, ground := Ground.guard }], guard := some (5, true) }) rfl (by kernel_rfl) (by kernel_rfl) (by kernel_rfl) (fun _ _ _ h => h) (by rfl) (by assumption) ?_
    try simp only [Act.put, List.setIfInBounds_toArray, List.set_cons_zero, List.set_cons_succ]
    refine take_no (i := 7) (oi := { dst := some 12, op := Op.load 3 (Operand.tmp 11), type := 3, pos := "l08_maps.go:120", after := #[{ on := 6, ground := Ground.data }, { on := 5, ground := Ground.guard }], guard := some (5, true) }) rfl (by kernel_rfl) (by kernel_rfl) (by kernel_rfl) (fun _ _ _ h => h) (by rfl) (by assumption) ?_
    try simp only [Act.put, List.setIfInBounds_toArray, List.set_cons_zero, List.set_cons_succ]
    refine take_no (i := 8) (oi := { dst := some 13, op := Op.load 26 (Operand.tmp 2), type := 26, pos := "l08_maps.go:120", after := #[{ on := 5, ground := Ground.guard }], guard := some (5, true) }) rfl (by kernel_rfl) (by kernel_rfl) (by kernel_rfl) (fun _ _ _ h => h) (by rfl) (by assumption) ?_
    try simp only [Act.put, List.setIfInBounds_toArray, List.set_cons_zero, List.set_cons_succ]
    refine take_no (i := 9) (oi := { dst := some 14, op := Op.call { callee := Callee.value (Operand.func 52), args := #[Operand.tmp 13], argTypes := #[26] }, type := 3, pos := "l08_maps.go:120", after := #[{ on := 8, ground := Ground.data }, { on := 5, ground := Ground.chain }, { on := 5, ground := Ground.guard }], guard := some (5, true) }) rfl (by kernel_rfl) (by kernel_rfl) (by kernel_rfl) (fun _ _ _ h => h) (by rfl) (by assumption) ?_
    try simp only [Act.put, List.setIfInBounds_toArray, List.set_cons_zero, List.set_cons_succ]
    refine take_no (i := 10) (oi := { dst := some 15, op := Op.binOp BinOp.eql 3 (Operand.tmp 12) (Operand.tmp 14) 3, type := 4, pos := "l08_maps.go:120", after := #[{ on := 7, ground := Ground.data }, { on := 9, ground := Ground.data }, { on := 5, ground := Ground.guard }], guard := some (5, true) }) rfl (by kernel_rfl) (by kernel_rfl) (by kernel_rfl) (fun _ _ _ h => h) (by rfl) (by assumption) ?_
    try simp only [Act.put, List.setIfInBounds_toArray, List.set_cons_zero, List.set_cons_succ]
    refine take_yes (i := 11) (oi := { dst := some 16, op := Op.pick (Operand.tmp 10) (Operand.tmp 15) (Operand.const (Value.bool false)), type := 4, pos := "l08_maps.go:120", after := #[{ on := 5, ground := Ground.data }, { on := 10, ground := Ground.data }], guard := none }) (v := .bool false) rfl (by kernel_rfl) (by kernel_rfl) (by kernel_rfl) (fun _ _ _ h => h) (by rfl) (fun w hSw => by (try dsimp only at hSw); go_simp) (by assumption) ?_
    try simp only [Act.put, List.setIfInBounds_toArray, List.set_cons_zero, List.set_cons_succ]
    refine take_yes (i := 12) (oi := { dst := some 17, op := Op.move (Operand.tmp 16), type := 4, pos := "l08_maps.go:120", after := #[{ on := 11, ground := Ground.data }, { on := 9, ground := Ground.chain }], guard := none }) (v := .bool false) rfl (by kernel_rfl) (by kernel_rfl) (by kernel_rfl) (fun _ _ _ h => h) (by rfl) (fun w hSw => by (try dsimp only at hSw); go_simp) (by assumption) ?_
    try simp only [Act.put, List.setIfInBounds_toArray, List.set_cons_zero, List.set_cons_succ]
    refine take_no (i := 13) (oi := { dst := some 18, op := Op.fieldAddr 26 (Operand.tmp 2) 2, type := 0, pos := "l08_maps.go:120", after := #[{ on := 12, ground := Ground.guard }], guard := some (12, true) }) rfl (by kernel_rfl) (by kernel_rfl) (by kernel_rfl) (fun _ _ _ h => h) (by rfl) (by assumption) ?_
    try simp only [Act.put, List.setIfInBounds_toArray, List.set_cons_zero, List.set_cons_succ]
    refine take_no (i := 14) (oi := { dst := some 19, op := Op.load 3 (Operand.tmp 18), type := 3, pos := "l08_maps.go:120", after := #[{ on := 13, ground := Ground.data }, { on := 12, ground := Ground.guard }], guard := some (12, true) }) rfl (by kernel_rfl) (by kernel_rfl) (by kernel_rfl) (fun _ _ _ h => h) (by rfl) (by assumption) ?_
    try simp only [Act.put, List.setIfInBounds_toArray, List.set_cons_zero, List.set_cons_succ]
    refine take_no (i := 15) (oi := { dst := some 20, op := Op.fieldAddr 26 (Operand.tmp 3) 2, type := 0, pos := "l08_maps.go:120", after := #[{ on := 12, ground := Ground.guard }], guard := some (12, true) }) rfl (by kernel_rfl) (by kernel_rfl) (by kernel_rfl) (fun _ _ _ h => h) (by rfl) (by assumption) ?_
    try simp only [Act.put, List.setIfInBounds_toArray, List.set_cons_zero, List.set_cons_succ]
    refine take_no (i := 16) (oi := { dst := some 21, op := Op.load 3 (Operand.tmp 20), type := 3, pos := "l08_maps.go:120", after := #[{ on := 15, ground := Ground.data }, { on := 12, ground := Ground.guard }], guard := some (12, true) }) rfl (by kernel_rfl) (by kernel_rfl) (by kernel_rfl) (fun _ _ _ h => h) (by rfl) (by assumption) ?_
    try simp only [Act.put, List.setIfInBounds_toArray, List.set_cons_zero, List.set_cons_succ]
    refine take_no (i := 17) (oi := { dst := some 22, op := Op.binOp BinOp.add 3 (Operand.tmp 19) (Operand.tmp 21) 3, type := 3, pos := "l08_maps.go:120", after := #[{ on := 14, ground := Ground.data }, { on := 16, ground := Ground.data }, { on := 12, ground := Ground.guard }], guard := some (12, true) }) rfl (by kernel_rfl) (by kernel_rfl) (by kernel_rfl) (fun _ _ _ h => h) (by rfl) (by assumption) ?_
    try simp only [Act.put, List.setIfInBounds_toArray, List.set_cons_zero, List.set_cons_succ]
    refine take_no (i := 18) (oi := { dst := some 23, op := Op.binOp BinOp.leq 3 (Operand.tmp 22) (Operand.const (Value.int IntKind.i64 100000)) 3, type := 4, pos := "l08_maps.go:120", after := #[{ on := 17, ground := Ground.data }, { on := 12, ground := Ground.guard }], guard := some (12, true) }) rfl (by kernel_rfl) (by kernel_rfl) (by kernel_rfl) (fun _ _ _ h => h) (by rfl) (by assumption) ?_
    try simp only [Act.put, List.setIfInBounds_toArray, List.set_cons_zero, List.set_cons_succ]
    refine take_yes (i := 19) (oi := { dst := some 24, op := Op.pick (Operand.tmp 17) (Operand.tmp 23) (Operand.const (Value.bool false)), type := 4, pos := "l08_maps.go:120", after := #[{ on := 12, ground := Ground.data }, { on := 18, ground := Ground.data }], guard := none }) (v := .bool false) rfl (by kernel_rfl) (by kernel_rfl) (by kernel_rfl) (fun _ _ _ h => h) (by rfl) (fun w hSw => by (try dsimp only at hSw); go_simp) (by assumption) ?_
    try simp only [Act.put, List.setIfInBounds_toArray, List.set_cons_zero, List.set_cons_succ]
    refine take_yes (i := 20) (oi := { dst := some 4, op := Op.assign (Operand.tmp 24), type := 4, pos := "l08_maps.go:120", after := #[{ on := 19, ground := Ground.data }, { on := 12, ground := Ground.chain }, { on := 0, ground := Ground.phase }, { on := 1, ground := Ground.phase }, { on := 2, ground := Ground.phase }, { on := 3, ground := Ground.phase }, { on := 4, ground := Ground.phase }, { on := 5, ground := Ground.phase }, { on := 6, ground := Ground.phase }, { on := 7, ground := Ground.phase }, { on := 8, ground := Ground.phase }, { on := 9, ground := Ground.phase }, { on := 10, ground := Ground.phase }, { on := 11, ground := Ground.phase }, { on := 12, ground := Ground.phase }, { on := 13, ground := Ground.phase }, { on := 14, ground := Ground.phase }, { on := 15, ground := Ground.phase }, { on := 16, ground := Ground.phase }, { on := 17, ground := Ground.phase }, { on := 18, ground := Ground.phase }, { on := 19, ground := Ground.phase }], guard := none }) (v := .bool false) rfl (by kernel_rfl) (by kernel_rfl) (by kernel_rfl) (fun _ _ _ h => h) (by rfl) (fun w hSw => by (try dsimp only at hSw); go_simp) (by assumption) ?_
    try simp only [Act.put, List.setIfInBounds_toArray, List.set_cons_zero, List.set_cons_succ]
    refine wpAnyH_done (by kernel_rfl) ?_ _
    have HB := Lib.hid hHeld.2.2.2.2.2.2
    clear hHeld
    go_wp2_with (fail)
    go_ret
    exact ⟨rfl, HB.out⟩

/-- One more, behind those that are merged already. -/
def joinM (acc : List Mp) (m : Mp) : List Mp :=
  match acc.getLast? with
  | none => [m]
  | some l => if l.goesOn m then acc.dropLast ++ [⟨l.sub, l.seq, l.len + m.len⟩] else acc ++ [m]
theorem joinM_snoc (pre : List Mp) (l m : Mp) : joinM (pre ++ [l]) m = if l.goesOn m then pre ++ [⟨l.sub, l.seq, l.len + m.len⟩] else pre ++ [l] ++ [m] := by
  unfold joinM
  rw [List.getLast?_concat]
  simp only [List.dropLast_concat]
theorem fold_runGo (l : List Mp) (pre : List Mp) (last : Mp) : l.foldl joinM (pre ++ [last]) = pre ++ runGo last l := by
  induction l generalizing pre last with
  | nil => rfl
  | cons m r ih =>
    rw [List.foldl_cons, joinM_snoc]
    unfold runGo
    by_cases h : last.goesOn m
    · rw [if_pos h, if_pos h, ih]
    · rw [if_neg h, if_neg h, ih, List.append_assoc]; rfl
theorem fold_runs (l : List Mp) (h : mapsOk l = true) : l.foldl joinM [] = runs l := by
  unfold runs
  rw [if_pos h]
  cases l with
  | nil => rfl
  | cons m r =>
    have := fold_runGo r [] m
    simpa [joinM] using this
theorem joinM_fine (acc : List Mp) (m : Mp) (h : ∀ x ∈ acc, x.fine) (hm : m.fine) : ∀ x ∈ joinM acc m, x.fine := by
  rcases List.eq_nil_or_concat acc with rfl | ⟨pre, l, rfl⟩
  · intro x hx; simp [joinM] at hx; subst hx; exact hm
  · rw [List.concat_eq_append] at h ⊢
    rw [joinM_snoc]
    intro x hx
    have hl := h l (by simp)
    split at hx
    · rename_i hg
      rcases List.mem_append.1 hx with hx | hx
      · exact h x (by simp [hx])
      · simp at hx; subst hx
        unfold Mp.fine Mp.goesOn at *
        simp only
        omega
    · rcases List.mem_append.1 hx with hx | hx
      · exact h x hx
      · simp at hx; subst hx; exact hm
theorem joinM_len (acc : List Mp) (m : Mp) : (joinM acc m).length ≤ acc.length + 1 := by
  rcases List.eq_nil_or_concat acc with rfl | ⟨pre, l, rfl⟩
  · simp [joinM]
  · rw [List.concat_eq_append, joinM_snoc]
    split <;> simp
theorem fold_snoc (ms : List Mp) (k : Nat) (h : k < ms.length) : (ms.take (k + 1)).foldl joinM [] = joinM ((ms.take k).foldl joinM []) ms[k] := by
  rw [List.take_succ_eq_append_getElem h, List.foldl_append]
  rfl
/-- By places: the last one, in acc of at least one. -/
theorem joinM_at (acc : List Mp) (m : Mp) (h : 0 < acc.length) : joinM acc m = if (acc[acc.length - 1]'(by omega)).goesOn m then acc.set (acc.length - 1) ⟨(acc[acc.length - 1]'(by omega)).sub, (acc[acc.length - 1]'(by omega)).seq, (acc[acc.length - 1]'(by omega)).len + m.len⟩ else acc ++ [m] := by
  rcases List.eq_nil_or_concat acc with rfl | ⟨pre, l, rfl⟩
  · simp at h
  · simp only [List.concat_eq_append]
    rw [joinM_snoc]
    have e : (pre ++ [l]).length - 1 = pre.length := by simp
    simp only [e, List.getElem_concat_length]
    rw [List.set_append_right _ _ (Nat.le_refl _), Nat.sub_self]
    rfl
end Go.Proofs.Ytjnobggefofjcaa
