import Derived.Test.YtdajfnonehianaaPst
import Derived.Test.YtdajfnonehianaaTyn
import Derived.Laws.StructEq
namespace Go.Proofs.Ytdajfnonehianaa
open Go.RowKit

set_option maxRecDepth 100000 in
/-- '!=' on a piece and itself. -/
theorem neq_pc (m : Pc) (W : World) : (binOp .neq 41 (.agg #[.int .i64 m.pos, .string m.text]) (.agg #[.int .i64 m.pos, .string m.text])).run Try.prog W = .ok (.bool false) W := by
  have u3 := Try.underlying3
  have a3 := Try.isAgg3
  have z3 := Try.sizeOf3
  have u9 := Try.underlying9
  have a9 := Try.isAgg9
  have z9 := Try.sizeOf9
  have hS : Try.prog.underlying 41 = some (.struct (Try.prog.fieldsOf 41)) := by kernel_rfl
  have hp : Try.prog.stoodInHeld 41 = false := by kernel_rfl
  rw [run_neq_struct, show (10000 : Nat) = 9999 + 1 from rfl, run_equalIn_agg W 9999 41 _ _ hS hp]
  simp only [Program.fieldsOf, Try.underlying41]
  go_simp
  try simp

set_option linter.unusedSimpArgs false in
set_option maxRecDepth 100000 in
set_option maxHeartbeats 2000000 in
theorem same_list (v u : Value) (ms : List Pc) (w : World) (hv : RdP w v ms) (hu : RdP w u ms) (hn : ms.length ≤ 9223372036854775807) :
    Calls Try.prog 45 #[v, u] w fun e w' => e = .returned (.bool true) ∧ Below w.heap.size w w' := by
  have hv0 := hv
  have hu0 := hu
  obtain ⟨a, c, rfl⟩ := hv.form
  obtain ⟨a', c', rfl⟩ := hu.form
  clear hv hu
  go_enter Try.func45, Try.ntmps45
  go_wp2_with (fail)
  go_loopw [5] (fun i wr => ∃ k : Nat, k ≤ ms.length ∧ i = .int .i64 k ∧ RdP wr (.slice a ms.length c) ms ∧ RdP wr (.slice a' ms.length c') ms ∧ Below w.heap.size w wr) (fun i _ => ms.length - (intOf i).toNat)
  case atStart => exact ⟨0, by omega, rfl, hv0, hu0, Below.refl _ _⟩
  case round =>
    clear hv0 hu0
    obtain ⟨i, hk, rfl, hR, hU, hB⟩ := hrel
    by_cases hlt : i < ms.length
    · have q : (i : Int) < (ms.length : Int) := by omega
      have q2 : (0 : Int) ≤ (i : Int) := by omega
      obtain ⟨b, off, ha, -, k0, k1, -⟩ := pc_at (P := Try.prog) hR.drew i hlt
      subst ha
      obtain ⟨b', off', ha, -, j0, j1, -⟩ := pc_at (P := Try.prog) hU.drew i hlt
      subst ha
      have hne := neq_pc ms[i]
      generalize ms[i] = m at *
      have e0 : wr.drew.cell? ⟨b, off + i * 2, none⟩ = some (.int .i64 m.pos) ∧ wr.drew.cell? ⟨b, off + i * 2 + 1, none⟩ = some (.string m.text) ∧ wr.drew.cell? ⟨b', off' + i * 2, none⟩ = some (.int .i64 m.pos) ∧ wr.drew.cell? ⟨b', off' + i * 2 + 1, none⟩ = some (.string m.text) := ⟨k0, k1, j0, j1⟩
      have HH := Lib.hid (show RdP wr.drew (.slice (some ⟨b, off, none⟩) ms.length c) ms ∧ RdP wr.drew (.slice (some ⟨b', off', none⟩) ms.length c') ms ∧ Below w.heap.size w wr.drew from ⟨hR, hU, hB.drew⟩)
      clear k0 k1 j0 j1 hR hU hB
      go_wp2_with (fail)
      refine wp_region_held_drew (S := fun W => W.cell? ⟨b, off + i * 2, none⟩ = some (.int .i64 m.pos) ∧ W.cell? ⟨b, off + i * 2 + 1, none⟩ = some (.string m.text) ∧ W.cell? ⟨b', off' + i * 2, none⟩ = some (.int .i64 m.pos) ∧ W.cell? ⟨b', off' + i * 2 + 1, none⟩ = some (.string m.text)) (by kernel_rfl) e0 (fun hHeld => ?_)
      refine take_yes (i := 0) (oi := { dst := some 17, op := Op.move (Operand.tmp 0), type := 24, pos := "laws.go:51", after := #[], guard := none }) (v := .slice (some ⟨b, off, none⟩) ms.length c) rfl (by kernel_rfl) (by kernel_rfl) (by kernel_rfl) (fun _ _ _ h => h) (by rfl) (fun w hSw => by (try dsimp only at hSw); go_simp) (by assumption) ?_
      try simp only [Act.put, List.setIfInBounds_toArray, List.set_cons_zero, List.set_cons_succ]
      refine take_yes (i := 1) (oi := { dst := some 18, op := Op.move (Operand.tmp 5), type := 3, pos := "laws.go:51", after := #[], guard := none }) (v := .int .i64 (i : Int)) rfl (by kernel_rfl) (by kernel_rfl) (by kernel_rfl) (fun _ _ _ h => h) (by rfl) (fun w hSw => by (try dsimp only at hSw); go_simp) (by assumption) ?_
      try simp only [Act.put, List.setIfInBounds_toArray, List.set_cons_zero, List.set_cons_succ]
      refine take_yes (i := 2) (oi := { dst := some 19, op := Op.indexAddr 24 (Operand.tmp 17) (Operand.tmp 18), type := 0, pos := "laws.go:51", after := #[{ on := 0, ground := Ground.data }, { on := 1, ground := Ground.data }], guard := none }) (v := .pointer (some ⟨b, off + i * 2, none⟩)) rfl (by kernel_rfl) (by kernel_rfl) (by kernel_rfl) (fun _ _ _ h => h) (by rfl) (fun w hSw => by (try dsimp only at hSw); go_simp) (by assumption) ?_
      try simp only [Act.put, List.setIfInBounds_toArray, List.set_cons_zero, List.set_cons_succ]
      refine take_yes (i := 3) (oi := { dst := some 20, op := Op.load 41 (Operand.tmp 19), type := 41, pos := "laws.go:51", after := #[{ on := 2, ground := Ground.data }], guard := none }) (v := .agg #[.int .i64 m.pos, .string m.text]) rfl (by kernel_rfl) (by kernel_rfl) (by kernel_rfl) (fun _ _ _ h => h) (by rfl) (fun w hSw => by (try dsimp only at hSw); go_simp) (by assumption) ?_
      try simp only [Act.put, List.setIfInBounds_toArray, List.set_cons_zero, List.set_cons_succ]
      refine take_yes (i := 4) (oi := { dst := some 21, op := Op.move (Operand.tmp 1), type := 24, pos := "laws.go:51", after := #[], guard := none }) (v := (.slice (some ⟨b', off', none⟩) ms.length c')) rfl (by kernel_rfl) (by kernel_rfl) (by kernel_rfl) (fun _ _ _ h => h) (by rfl) (fun w hSw => by (try dsimp only at hSw); go_simp) (by assumption) ?_
      try simp only [Act.put, List.setIfInBounds_toArray, List.set_cons_zero, List.set_cons_succ]
      refine take_yes (i := 5) (oi := { dst := some 22, op := Op.move (Operand.tmp 5), type := 3, pos := "laws.go:51", after := #[], guard := none }) (v := .int .i64 (i : Int)) rfl (by kernel_rfl) (by kernel_rfl) (by kernel_rfl) (fun _ _ _ h => h) (by rfl) (fun w hSw => by (try dsimp only at hSw); go_simp) (by assumption) ?_
      try simp only [Act.put, List.setIfInBounds_toArray, List.set_cons_zero, List.set_cons_succ]
      refine take_yes (i := 6) (oi := { dst := some 23, op := Op.indexAddr 24 (Operand.tmp 21) (Operand.tmp 22), type := 0, pos := "laws.go:51", after := #[{ on := 4, ground := Ground.data }, { on := 5, ground := Ground.data }], guard := none }) (v := (.pointer (some ⟨b', off' + i * 2, none⟩))) rfl (by kernel_rfl) (by kernel_rfl) (by kernel_rfl) (fun _ _ _ h => h) (by rfl) (fun w hSw => by (try dsimp only at hSw); go_simp) (by assumption) ?_
      try simp only [Act.put, List.setIfInBounds_toArray, List.set_cons_zero, List.set_cons_succ]
      refine take_yes (i := 7) (oi := { dst := some 24, op := Op.load 41 (Operand.tmp 23), type := 41, pos := "laws.go:51", after := #[{ on := 6, ground := Ground.data }], guard := none }) (v := .agg #[.int .i64 m.pos, .string m.text]) rfl (by kernel_rfl) (by kernel_rfl) (by kernel_rfl) (fun _ _ _ h => h) (by rfl) (fun w hSw => by (try dsimp only at hSw); go_simp) (by assumption) ?_
      try simp only [Act.put, List.setIfInBounds_toArray, List.set_cons_zero, List.set_cons_succ]
      refine take_yes (i := 8) (oi := { dst := some 25, op := Op.binOp BinOp.neq 41 (Operand.tmp 20) (Operand.tmp 24) 41, type := 4, pos := "laws.go:51", after := #[{ on := 3, ground := Ground.data }, { on := 7, ground := Ground.data }], guard := none }) (v := .bool false) rfl (by kernel_rfl) (by kernel_rfl) (by kernel_rfl) (fun _ _ _ h => h) (by rfl) (fun w hSw => by (try dsimp only at hSw); go_simp) (by assumption) ?_
      try simp only [Act.put, List.setIfInBounds_toArray, List.set_cons_zero, List.set_cons_succ]
      refine wpAnyH_done (by kernel_rfl) ?_ _
      clear hHeld
      clear e0
      go_wp2_with (fail)
      go_roundw
      case rel => exact ⟨i + 1, by omega, by go_num, HH.out.1, HH.out.2.1, HH.out.2.2⟩
      case measure => simp [intOf]; omega
    · obtain rfl : i = ms.length := by omega
      have q : ¬ (ms.length : Int) < (ms.length : Int) := by omega
      clear hR hU
      go_wp2_with (fail)
      go_ret
      exact ⟨rfl, hB⟩

set_option maxRecDepth 100000 in
theorem same_pieces (r : Int) (t : ByteArray) (v u : Value) (ms : List Pc) (w : World) (hv : RdP w v ms) (hu : RdP w u ms) (hn : ms.length ≤ 9223372036854775807) :
    Calls Try.prog 14 #[.agg #[.int .i64 r, .string t, v], .agg #[.int .i64 r, .string t, u]] w fun e w' => e = .returned (.bool true) ∧ Below w.heap.size w w' := by
  have hB : Below w.heap.size w ((w.alloc (.cells #[.int .i64 r, .string t, v] 26)).alloc (.cells #[.int .i64 r, .string t, u] 26)) := ((Below.refl _ _).alloc (Nat.le_refl _) _).alloc (by simp) _
  have c1 := same_list v u ms _ (hv.below hB) (hu.below hB) hn
  obtain ⟨a, c, rfl⟩ := hv.form
  obtain ⟨a', c', rfl⟩ := hu.form
  have HB := Lib.hid hB
  clear hv hu hB
  go_enter Try.func14, Try.ntmps14
  go_wp2_with (fail)
  with_reducible refine c1.mono ?_
  rintro e w2 ⟨rfl, hb2⟩
  have HB2 := Lib.hid (Below.then_ HB.out hb2)
  clear hb2
  go_wp2_with (fail)
  go_ret
  exact ⟨rfl, HB2.out⟩
end Go.Proofs.Ytdajfnonehianaa
