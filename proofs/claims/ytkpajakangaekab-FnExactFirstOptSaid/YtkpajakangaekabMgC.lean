import Derived.Test.YtkpajakangaekabMgG
import Derived.Test.YtkpajakangaekabSok
import Derived.Test.YtkpajakangaekabMgP
import Derived.Test.YtkpajakangaekabRow1
import Derived.Test.YtkpajakangaekabRdx
import Derived.Deep.AppendLies
import Derived.Test.YtkpajakangaekabMgF
namespace Go.Proofs.Ytkpajakangaekab
open Go.RowKit
attribute [-go_sem] loadCells loadCellsFrom

theorem cs_all {w W : World} {o : Ov} {v : Value} (h : Cel W w.heap.size 26 (o.cells v)) (hz : Cel W (w.heap.size + 1) 26 #[.int .i64 0, .int .i64 0, .int .i64 0, .int .i64 0, .int .i64 0, .int .i64 0, .int .i64 0, .int .i64 0, .int .i64 0, .int .i64 0, .bool false, .string ⟨#[]⟩, .string ⟨#[]⟩, .slice none 0 0]) (hb : Below w.heap.size w W) : W.cell? ⟨w.heap.size, 11, none⟩ = some (.string o.key) ∧ W.cell? ⟨w.heap.size, 12, none⟩ = some (.string o.mark) ∧ W.frozen? ⟨w.heap.size, 11, none⟩ = false ∧ W.frozen? ⟨w.heap.size, 12, none⟩ = false ∧ Cel W w.heap.size 26 (o.cells v) ∧ Cel W (w.heap.size + 1) 26 #[.int .i64 0, .int .i64 0, .int .i64 0, .int .i64 0, .int .i64 0, .int .i64 0, .int .i64 0, .int .i64 0, .int .i64 0, .int .i64 0, .bool false, .string ⟨#[]⟩, .string ⟨#[]⟩, .slice none 0 0] ∧ Below w.heap.size w W :=
  ⟨(h.cell 11).trans (o.ats v).2.2.2.2.2.2.2.2.2.2.2.1, (h.cell 12).trans (o.ats v).2.2.2.2.2.2.2.2.2.2.2.2.1, h.frozen 11, h.frozen 12, h, hz, hb⟩
theorem cs_keep {w W W' : World} {o : Ov} {v : Value} (h : W.cell? ⟨w.heap.size, 11, none⟩ = some (.string o.key) ∧ W.cell? ⟨w.heap.size, 12, none⟩ = some (.string o.mark) ∧ W.frozen? ⟨w.heap.size, 11, none⟩ = false ∧ W.frozen? ⟨w.heap.size, 12, none⟩ = false ∧ Cel W w.heap.size 26 (o.cells v) ∧ Cel W (w.heap.size + 1) 26 #[.int .i64 0, .int .i64 0, .int .i64 0, .int .i64 0, .int .i64 0, .int .i64 0, .int .i64 0, .int .i64 0, .int .i64 0, .int .i64 0, .bool false, .string ⟨#[]⟩, .string ⟨#[]⟩, .slice none 0 0] ∧ Below w.heap.size w W) (hb : Below W.heap.size W W') : W'.cell? ⟨w.heap.size, 11, none⟩ = some (.string o.key) ∧ W'.cell? ⟨w.heap.size, 12, none⟩ = some (.string o.mark) ∧ W'.frozen? ⟨w.heap.size, 11, none⟩ = false ∧ W'.frozen? ⟨w.heap.size, 12, none⟩ = false ∧ Cel W' w.heap.size 26 (o.cells v) ∧ Cel W' (w.heap.size + 1) 26 #[.int .i64 0, .int .i64 0, .int .i64 0, .int .i64 0, .int .i64 0, .int .i64 0, .int .i64 0, .int .i64 0, .int .i64 0, .int .i64 0, .bool false, .string ⟨#[]⟩, .string ⟨#[]⟩, .slice none 0 0] ∧ Below w.heap.size w W' :=
  cs_all (h.2.2.2.2.1.kept hb) (h.2.2.2.2.2.1.kept hb) (Below.then_ h.2.2.2.2.2.2 hb)
theorem cells_same11 (o : Ov) (v : Value) : (o.cells v).setIfInBounds 11 (.string o.key) = o.cells v := by unfold Ov.cells; rfl
theorem cells_same12 (o : Ov) (v : Value) : (o.cells v).setIfInBounds 12 (.string o.mark) = o.cells v := by unfold Ov.cells; rfl
theorem cs_set11 {w W : World} {o : Ov} {v : Value} (h : W.cell? ⟨w.heap.size, 11, none⟩ = some (.string o.key) ∧ W.cell? ⟨w.heap.size, 12, none⟩ = some (.string o.mark) ∧ W.frozen? ⟨w.heap.size, 11, none⟩ = false ∧ W.frozen? ⟨w.heap.size, 12, none⟩ = false ∧ Cel W w.heap.size 26 (o.cells v) ∧ Cel W (w.heap.size + 1) 26 #[.int .i64 0, .int .i64 0, .int .i64 0, .int .i64 0, .int .i64 0, .int .i64 0, .int .i64 0, .int .i64 0, .int .i64 0, .int .i64 0, .bool false, .string ⟨#[]⟩, .string ⟨#[]⟩, .slice none 0 0] ∧ Below w.heap.size w W) : (W.setCell ⟨w.heap.size, 11, none⟩ (.string o.key)).cell? ⟨w.heap.size, 11, none⟩ = some (.string o.key) ∧ (W.setCell ⟨w.heap.size, 11, none⟩ (.string o.key)).cell? ⟨w.heap.size, 12, none⟩ = some (.string o.mark) ∧ (W.setCell ⟨w.heap.size, 11, none⟩ (.string o.key)).frozen? ⟨w.heap.size, 11, none⟩ = false ∧ (W.setCell ⟨w.heap.size, 11, none⟩ (.string o.key)).frozen? ⟨w.heap.size, 12, none⟩ = false ∧ Cel (W.setCell ⟨w.heap.size, 11, none⟩ (.string o.key)) w.heap.size 26 (o.cells v) ∧ Cel (W.setCell ⟨w.heap.size, 11, none⟩ (.string o.key)) (w.heap.size + 1) 26 #[.int .i64 0, .int .i64 0, .int .i64 0, .int .i64 0, .int .i64 0, .int .i64 0, .int .i64 0, .int .i64 0, .int .i64 0, .int .i64 0, .bool false, .string ⟨#[]⟩, .string ⟨#[]⟩, .slice none 0 0] ∧ Below w.heap.size w (W.setCell ⟨w.heap.size, 11, none⟩ (.string o.key)) :=
  cs_all (by have := h.2.2.2.2.1.set 11 (.string o.key); rw [cells_same11] at this; exact this) (h.2.2.2.2.2.1.other _ _ (by simp)) (h.2.2.2.2.2.2.setCell (p := ⟨w.heap.size, 11, none⟩) (by simp) _)
theorem cs_set12 {w W : World} {o : Ov} {v : Value} (h : W.cell? ⟨w.heap.size, 11, none⟩ = some (.string o.key) ∧ W.cell? ⟨w.heap.size, 12, none⟩ = some (.string o.mark) ∧ W.frozen? ⟨w.heap.size, 11, none⟩ = false ∧ W.frozen? ⟨w.heap.size, 12, none⟩ = false ∧ Cel W w.heap.size 26 (o.cells v) ∧ Cel W (w.heap.size + 1) 26 #[.int .i64 0, .int .i64 0, .int .i64 0, .int .i64 0, .int .i64 0, .int .i64 0, .int .i64 0, .int .i64 0, .int .i64 0, .int .i64 0, .bool false, .string ⟨#[]⟩, .string ⟨#[]⟩, .slice none 0 0] ∧ Below w.heap.size w W) : (W.setCell ⟨w.heap.size, 12, none⟩ (.string o.mark)).cell? ⟨w.heap.size, 11, none⟩ = some (.string o.key) ∧ (W.setCell ⟨w.heap.size, 12, none⟩ (.string o.mark)).cell? ⟨w.heap.size, 12, none⟩ = some (.string o.mark) ∧ (W.setCell ⟨w.heap.size, 12, none⟩ (.string o.mark)).frozen? ⟨w.heap.size, 11, none⟩ = false ∧ (W.setCell ⟨w.heap.size, 12, none⟩ (.string o.mark)).frozen? ⟨w.heap.size, 12, none⟩ = false ∧ Cel (W.setCell ⟨w.heap.size, 12, none⟩ (.string o.mark)) w.heap.size 26 (o.cells v) ∧ Cel (W.setCell ⟨w.heap.size, 12, none⟩ (.string o.mark)) (w.heap.size + 1) 26 #[.int .i64 0, .int .i64 0, .int .i64 0, .int .i64 0, .int .i64 0, .int .i64 0, .int .i64 0, .int .i64 0, .int .i64 0, .int .i64 0, .bool false, .string ⟨#[]⟩, .string ⟨#[]⟩, .slice none 0 0] ∧ Below w.heap.size w (W.setCell ⟨w.heap.size, 12, none⟩ (.string o.mark)) :=
  cs_all (by have := h.2.2.2.2.1.set 12 (.string o.mark); rw [cells_same12] at this; exact this) (h.2.2.2.2.2.1.other _ _ (by simp)) (h.2.2.2.2.2.2.setCell (p := ⟨w.heap.size, 12, none⟩) (by simp) _)

/-- The copy's Ids stored, the copy handed back: what is left when the new slice is known. -/
theorem copy_end {w w9 : World} {o : Ov} {v x : Value} (hC : Cel w9 w.heap.size 26 (o.cells v)) (hZ : Cel w9 (w.heap.size + 1) 26 #[.int .i64 0, .int .i64 0, .int .i64 0, .int .i64 0, .int .i64 0, .int .i64 0, .int .i64 0, .int .i64 0, .int .i64 0, .int .i64 0, .bool false, .string ⟨#[]⟩, .string ⟨#[]⟩, .slice none 0 0]) (hB : Below w.heap.size w w9) (hr : IRow w9 (w.heap.size + 2) w9.heap.size x o.ids) :
    Cel (w9.setCell ⟨w.heap.size, 13, none⟩ x) w.heap.size 26 (o.cells x) ∧ Cel (w9.setCell ⟨w.heap.size, 13, none⟩ x) (w.heap.size + 1) 26 #[.int .i64 0, .int .i64 0, .int .i64 0, .int .i64 0, .int .i64 0, .int .i64 0, .int .i64 0, .int .i64 0, .int .i64 0, .int .i64 0, .bool false, .string ⟨#[]⟩, .string ⟨#[]⟩, .slice none 0 0] ∧
    Cel ((w9.setCell ⟨w.heap.size, 13, none⟩ x).setRow (w.heap.size + 1) (o.cells x)) (w.heap.size + 1) 26 (o.cells x) ∧ Below w.heap.size w ((w9.setCell ⟨w.heap.size, 13, none⟩ x).setRow (w.heap.size + 1) (o.cells x)) ∧
    IRow ((w9.setCell ⟨w.heap.size, 13, none⟩ x).setRow (w.heap.size + 1) (o.cells x)) w.heap.size ((w9.setCell ⟨w.heap.size, 13, none⟩ x).setRow (w.heap.size + 1) (o.cells x)).heap.size x o.ids := by
  have hC2 := hC.set 13 x
  rw [Ov.cells_set] at hC2
  have hZ2 := hZ.other ⟨w.heap.size, 13, none⟩ x (by simp)
  have hB2 := hB.setCell (p := ⟨w.heap.size, 13, none⟩) (by simp) x
  refine ⟨hC2, hZ2, hZ2.row _, below_setRow hB2 (by omega) _, ?_⟩
  have hz : ((w9.setCell ⟨w.heap.size, 13, none⟩ x).setRow (w.heap.size + 1) (o.cells x)).heap.size = w9.heap.size := by simp [World.setRow]
  rw [hz]
  refine (hr.keepAt (fun g hg => ?_)).wider (by omega) (Nat.le_refl _)
  have := (hr.block g hg).1
  show ((World.heap _).modify _ _)[g]? = _
  rw [Array.getElem?_modify, if_neg (by omega)]
  exact Below.heap_setCell _ _ _ _ (by simp; omega)

theorem run_append_zero (va : Option Addr) (c : Nat) (w : World) : (Builtin.append_ #[24, 24] 24 #[.slice none 0 0, .slice va 0 c]).run Try.prog w = .ok (.slice none 0 0) w := by
  cases va <;> simp [go_sem, Builtin.append_, loadCells, loadCellsFrom]

theorem wpList_append_zero {ops : Array Oper} {rest : List Oper} {o : Oper} {a : Act} {w : World} {Q : Exit → Act → World → Prop} (hgd : o.guard = none) (s x : Operand)
    (ho : o.op = .call { callee := .builtin .append, args := #[s, x], argTypes := #[24, 24] }) (ht : o.type = 24)
    (hs : a.eval s = .slice none 0 0) (va : Option Addr) (c : Nat) (hx : a.eval x = .slice va 0 c)
    (h : wpList Try.prog ops Q rest (a.put o.dst (.slice none 0 0)) w) : wpList Try.prog ops Q (o :: rest) a w :=
  wpList_plain hgd fun _ hK => by
    unfold Oper.wp execOp
    simp only [ho, ht, resolve, invoke, builtin, Sem.run_bind, Sem.run_pure, Result.andThen_ok, List.map_toArray, List.map_cons, List.map_nil, hs, hx, run_append_zero]
    exact hK _ _ h

set_option maxRecDepth 100000 in
set_option maxHeartbeats 4000000 in
theorem impl_copy (o : Ov) (v : Value) (w : World) (hv : Rd w v o.ids) (hn : o.ids.length ≤ 1048576) (hk : o.key.size ≤ 1048576) (hm : o.mark.size ≤ 1048576) :
    Calls Try.prog 46 #[.agg (o.cells v)] w fun e w' => ∃ v', e = .returned (.agg (o.cells v')) ∧ IRow w' w.heap.size w'.heap.size v' o.ids ∧ Below w.heap.size w w' := by
  obtain ⟨va, vc, rfl⟩ : ∃ a c, v = .slice a o.ids.length c := by obtain ⟨a, c, h, -⟩ := hv; exact ⟨a, c, h⟩
  have hB0 : Below w.heap.size w ((w.alloc (.cells (o.cells (.slice va o.ids.length vc)) 26)).alloc (.cells #[.int .i64 0, .int .i64 0, .int .i64 0, .int .i64 0, .int .i64 0, .int .i64 0, .int .i64 0, .int .i64 0, .int .i64 0, .int .i64 0, .bool false, .string ⟨#[]⟩, .string ⟨#[]⟩, .slice none 0 0] 26)) := ((Below.refl _ _).alloc (Nat.le_refl _) _).alloc (by simp) _
  have hC0 : Cel ((w.alloc (.cells (o.cells (.slice va o.ids.length vc)) 26)).alloc (.cells #[.int .i64 0, .int .i64 0, .int .i64 0, .int .i64 0, .int .i64 0, .int .i64 0, .int .i64 0, .int .i64 0, .int .i64 0, .int .i64 0, .bool false, .string ⟨#[]⟩, .string ⟨#[]⟩, .slice none 0 0] 26)) w.heap.size 26 (o.cells (.slice va o.ids.length vc)) := (Cel.new w _ _).alloc _
  have hZ0 : Cel ((w.alloc (.cells (o.cells (.slice va o.ids.length vc)) 26)).alloc (.cells #[.int .i64 0, .int .i64 0, .int .i64 0, .int .i64 0, .int .i64 0, .int .i64 0, .int .i64 0, .int .i64 0, .int .i64 0, .int .i64 0, .bool false, .string ⟨#[]⟩, .string ⟨#[]⟩, .slice none 0 0] 26)) (w.heap.size + 1) 26 #[.int .i64 0, .int .i64 0, .int .i64 0, .int .i64 0, .int .i64 0, .int .i64 0, .int .i64 0, .int .i64 0, .int .i64 0, .int .i64 0, .bool false, .string ⟨#[]⟩, .string ⟨#[]⟩, .slice none 0 0] := by
    have := Cel.new (w.alloc (.cells (o.cells (.slice va o.ids.length vc)) 26)) 26 #[.int .i64 0, .int .i64 0, .int .i64 0, .int .i64 0, .int .i64 0, .int .i64 0, .int .i64 0, .int .i64 0, .int .i64 0, .int .i64 0, .bool false, .string ⟨#[]⟩, .string ⟨#[]⟩, .slice none 0 0]
    rw [World.size_alloc] at this
    exact this
  have ck := fun W => clone_call o.key W (by omega)
  have cm := fun W => clone_call o.mark W (by omega)
  have S00 := cs_all (w := w) hC0 hZ0 hB0
  clear hB0 hC0 hZ0
  go_enter Try.func46, Try.ntmps46
  go_wp2_with (fail)
  generalize ((w.alloc (.cells (o.cells (.slice va o.ids.length vc)) 26)).alloc (.cells #[.int .i64 0, .int .i64 0, .int .i64 0, .int .i64 0, .int .i64 0, .int .i64 0, .int .i64 0, .int .i64 0, .int .i64 0, .int .i64 0, .bool false, .string ⟨#[]⟩, .string ⟨#[]⟩, .slice none 0 0] 26)) = W at *
  have S0 : W.drew.cell? ⟨w.heap.size, 11, none⟩ = some (.string o.key) ∧ W.drew.cell? ⟨w.heap.size, 12, none⟩ = some (.string o.mark) ∧ W.drew.frozen? ⟨w.heap.size, 11, none⟩ = false ∧ W.drew.frozen? ⟨w.heap.size, 12, none⟩ = false ∧ Cel W.drew w.heap.size 26 (o.cells (.slice va o.ids.length vc)) ∧ Cel W.drew (w.heap.size + 1) 26 #[.int .i64 0, .int .i64 0, .int .i64 0, .int .i64 0, .int .i64 0, .int .i64 0, .int .i64 0, .int .i64 0, .int .i64 0, .int .i64 0, .bool false, .string ⟨#[]⟩, .string ⟨#[]⟩, .slice none 0 0] ∧ Below w.heap.size w W.drew := cs_all (W := W.drew) S00.2.2.2.2.1 S00.2.2.2.2.2.1 S00.2.2.2.2.2.2.drew
  refine wp_region_held_drew (S := fun W => W.cell? ⟨w.heap.size, 11, none⟩ = some (.string o.key) ∧ W.cell? ⟨w.heap.size, 12, none⟩ = some (.string o.mark) ∧ W.frozen? ⟨w.heap.size, 11, none⟩ = false ∧ W.frozen? ⟨w.heap.size, 12, none⟩ = false ∧ Cel W w.heap.size 26 (o.cells (.slice va o.ids.length vc)) ∧ Cel W (w.heap.size + 1) 26 #[.int .i64 0, .int .i64 0, .int .i64 0, .int .i64 0, .int .i64 0, .int .i64 0, .int .i64 0, .int .i64 0, .int .i64 0, .int .i64 0, .bool false, .string ⟨#[]⟩, .string ⟨#[]⟩, .slice none 0 0] ∧ Below w.heap.size w W) (by kernel_rfl) S0 (fun hHeld => ?_)
  refine take_yes (i := 0) (oi := { dst := some 3, op := Op.fieldAddr 26 (Operand.tmp 1) 11, type := 0, pos := "l07_segments.go:151", after := #[], guard := none }) (v := .pointer (some ⟨w.heap.size, 11, none⟩)) rfl (by kernel_rfl) (by kernel_rfl) (by kernel_rfl) (fun _ _ _ h => h) (by rfl) (fun w hSw => by (try dsimp only at hSw); go_simp) (by assumption) ?_
  try simp only [Act.put, List.setIfInBounds_toArray, List.set_cons_zero, List.set_cons_succ]
  refine take_yes (i := 1) (oi := { dst := some 4, op := Op.load 9 (Operand.tmp 3), type := 9, pos := "l07_segments.go:151", after := #[{ on := 0, ground := Ground.data }], guard := none }) (v := .string o.key) rfl (by kernel_rfl) (by kernel_rfl) (by kernel_rfl) (fun _ _ _ h => h) (by rfl) (fun w hSw => by (try dsimp only at hSw); go_simp) (by assumption) ?_
  try simp only [Act.put, List.setIfInBounds_toArray, List.set_cons_zero, List.set_cons_succ]
  refine take_yes (i := 3) (oi := { dst := some 6, op := Op.fieldAddr 26 (Operand.tmp 1) 12, type := 0, pos := "l07_segments.go:151", after := #[], guard := none }) (v := .pointer (some ⟨w.heap.size, 12, none⟩)) rfl (by kernel_rfl) (by kernel_rfl) (by kernel_rfl) (fun _ _ _ h => h) (by rfl) (fun w hSw => by (try dsimp only at hSw); go_simp) (by assumption) ?_
  try simp only [Act.put, List.setIfInBounds_toArray, List.set_cons_zero, List.set_cons_succ]
  refine take_yes (i := 4) (oi := { dst := some 7, op := Op.load 9 (Operand.tmp 6), type := 9, pos := "l07_segments.go:151", after := #[{ on := 3, ground := Ground.data }], guard := none }) (v := .string o.mark) rfl (by kernel_rfl) (by kernel_rfl) (by kernel_rfl) (fun _ _ _ h => h) (by rfl) (fun w hSw => by (try dsimp only at hSw); go_simp) (by assumption) ?_
  try simp only [Act.put, List.setIfInBounds_toArray, List.set_cons_zero, List.set_cons_succ]
  refine wpAnyH_ready (rs := [2]) (by kernel_rfl) (by simp) ?_
  refine AllReadyH.cons (o := { dst := some 5, op := Op.call { callee := Callee.value (Operand.func 66), args := #[Operand.tmp 4], argTypes := #[9] }, type := 9, pos := "l07_segments.go:151", after := #[{ on := 1, ground := Ground.data }], guard := none }) rfl (fun K hK => ?_) AllReadyH.nil
  go_simp
  with_reducible refine (ck _).mono ?_
  rintro e w1 ⟨rfl, hb1⟩
  refine hK.out _ _ (cs_keep (by assumption) hb1) (fun hHeld => ?_)
  clear hK K
  try simp only [Act.put, List.setIfInBounds_toArray, List.set_cons_zero, List.set_cons_succ]
  refine take_yes (i := 6) (oi := { dst := some 9, op := Op.fieldAddr 26 (Operand.tmp 1) 11, type := 0, pos := "l07_segments.go:151", after := #[{ on := 0, ground := Ground.phase }, { on := 1, ground := Ground.phase }, { on := 2, ground := Ground.phase }, { on := 3, ground := Ground.phase }, { on := 4, ground := Ground.phase }, { on := 5, ground := Ground.textOnly Departure.lateStoresUnsure }], guard := none }) (v := .pointer (some ⟨w.heap.size, 11, none⟩)) rfl (by kernel_rfl) (by kernel_rfl) (by kernel_rfl) (fun _ _ _ h => h) (by rfl) (fun w hSw => by (try dsimp only at hSw); go_simp) (by assumption) ?_
  try simp only [Act.put, List.setIfInBounds_toArray, List.set_cons_zero, List.set_cons_succ]
  refine wpAnyH_ready (rs := [5]) (by kernel_rfl) (by simp) ?_
  refine AllReadyH.cons (o := { dst := some 8, op := Op.call { callee := Callee.value (Operand.func 66), args := #[Operand.tmp 7], argTypes := #[9] }, type := 9, pos := "l07_segments.go:151", after := #[{ on := 4, ground := Ground.data }, { on := 2, ground := Ground.chain }], guard := none }) rfl (fun K hK => ?_) AllReadyH.nil
  go_simp
  with_reducible refine (cm _).mono ?_
  rintro e w2 ⟨rfl, hb2⟩
  have H2 := cs_keep (by assumption) hb2
  obtain ⟨k11, k12, z11, z12, -, -, -⟩ := H2
  refine hK.out _ _ (cs_keep (by assumption) hb2) (fun hHeld => ?_)
  clear hK K
  try simp only [Act.put, List.setIfInBounds_toArray, List.set_cons_zero, List.set_cons_succ]
  refine wpAnyH_ready (rs := [7]) (by kernel_rfl) (by simp) ?_
  refine AllReadyH.cons (o := { dst := none, op := Op.store 9 (Operand.tmp 9) (Operand.tmp 5), type := 0, pos := "l07_segments.go:151", after := #[{ on := 6, ground := Ground.data }, { on := 2, ground := Ground.data }, { on := 5, ground := Ground.chain }, { on := 0, ground := Ground.phase }, { on := 1, ground := Ground.phase }, { on := 2, ground := Ground.phase }, { on := 3, ground := Ground.phase }, { on := 4, ground := Ground.phase }, { on := 5, ground := Ground.textOnly Departure.lateStoresUnsure }], guard := none }) rfl (fun K hK => ?_) AllReadyH.nil
  go_simp
  have H3 := cs_set11 hHeld
  refine hK.out _ _ H3 (fun hHeld => ?_)
  clear hK K
  try simp only [Act.put, List.setIfInBounds_toArray, List.set_cons_zero, List.set_cons_succ]
  refine take_yes (i := 8) (oi := { dst := some 10, op := Op.fieldAddr 26 (Operand.tmp 1) 12, type := 0, pos := "l07_segments.go:151", after := #[{ on := 0, ground := Ground.phase }, { on := 1, ground := Ground.phase }, { on := 2, ground := Ground.phase }, { on := 3, ground := Ground.phase }, { on := 4, ground := Ground.phase }, { on := 5, ground := Ground.phase }, { on := 6, ground := Ground.phase }, { on := 7, ground := Ground.phase }], guard := none }) (v := .pointer (some ⟨w.heap.size, 12, none⟩)) rfl (by kernel_rfl) (by kernel_rfl) (by kernel_rfl) (fun _ _ _ h => h) (by rfl) (fun w hSw => by (try dsimp only at hSw); go_simp) (by assumption) ?_
  try simp only [Act.put, List.setIfInBounds_toArray, List.set_cons_zero, List.set_cons_succ]
  refine wpAnyH_ready (rs := [9]) (by kernel_rfl) (by simp) ?_
  refine AllReadyH.cons (o := { dst := none, op := Op.store 9 (Operand.tmp 10) (Operand.tmp 8), type := 0, pos := "l07_segments.go:151", after := #[{ on := 8, ground := Ground.data }, { on := 5, ground := Ground.data }, { on := 7, ground := Ground.chain }, { on := 0, ground := Ground.phase }, { on := 1, ground := Ground.phase }, { on := 2, ground := Ground.phase }, { on := 3, ground := Ground.phase }, { on := 4, ground := Ground.phase }, { on := 5, ground := Ground.phase }, { on := 6, ground := Ground.phase }, { on := 7, ground := Ground.phase }], guard := none }) rfl (fun K hK => ?_) AllReadyH.nil
  go_simp
  have H4 := cs_set12 hHeld
  refine hK.out _ _ H4 (fun hHeld => ?_)
  clear hK K
  try simp only [Act.put, List.setIfInBounds_toArray, List.set_cons_zero, List.set_cons_succ]
  refine wpAnyH_done (by kernel_rfl) ?_ _
  obtain ⟨-, -, -, -, hC, hZ, hB⟩ := H4
  clear S0 S00 H3 hb1 hb2 k11 k12 z11 z12 ck cm
  generalize (w2.setCell ⟨w.heap.size, 11, none⟩ (.string o.key)).setCell ⟨w.heap.size, 12, none⟩ (.string o.mark) = W5 at *
  have c13 := (hC.cell 13).trans (o.ats (.slice va o.ids.length vc)).2.2.2.2.2.2.2.2.2.2.2.2.2
  obtain ⟨i0, hi, hz0, hz1, hz2⟩ := info_parts infoI
  have hbase : w.heap.size + 2 ≤ W5.heap.size := by have := Cel.lt hZ; omega
  by_cases hpos : 0 < o.ids.length
  · obtain ⟨_, _, he, h⟩ := hv.below hB
    injection he with e1 e2 e3
    subst e1 e3
    obtain ⟨b, off, ha, hcell⟩ := h hpos
    subst ha
    have hnews : ∀ j u, (o.ids.map (Value.int .i64))[j]? = some u → W5.cell? ((⟨b, off, none⟩ : Addr).add j) = some u := fun j u hu => by
      have hj : j < o.ids.length := by
        have := (List.getElem?_eq_some_iff.1 hu).1
        rwa [List.length_map] at this
      have hadd : (⟨b, off, none⟩ : Addr).add j = ⟨b, off + j, none⟩ := by unfold Addr.add; split <;> simp_all
      rw [hadd, hcell j hj, ← hu, List.getElem?_map, List.getElem?_eq_getElem hj]
      rfl
    have hone : ∀ u ∈ o.ids.map (Value.int .i64), u.oneCell' = true := fun u hu => by
      obtain ⟨z, -, rfl⟩ := List.mem_map.1 hu
      rfl
    have hroom1 : 0 + o.ids.length ≤ maxLen := by unfold maxLen; omega
    have hroom2 : (0 + o.ids.length) * 8 ≤ 140737488355328 := by omega
    have hll : (o.ids.map (Value.int .i64)).length = o.ids.length * 1 := by simp
    clear h hcell
    go_upto_region 3 with (
      at_builtin
      refine wpList_append_lies _ rfl _ _ 24 rfl (w.heap.size + 2) 3 i0 _ 1 8 Try.underlying24 hi hz0 hz1 hz2 rfl (by omega) (.slice none 0 0) 0 [] rfl (World.ownsRow_nil _ _ _ _) ⟨b, off, none⟩ o.ids.length vc (o.ids.map (Value.int .i64)) rfl hll hnews hone hpos hroom1 hroom2 hbase W5.heap.size rfl ?_
      intro g' cap w9 hown hgrow hat hlt9
      have hC9 : Cel w9 w.heap.size 26 (o.cells (.slice (some ⟨b, off, none⟩) o.ids.length vc)) := Cel.grown hC hgrow (by simp [Value.ownBlock])
      have c13' := (hC9.cell 13).trans (o.ats (.slice (some ⟨b, off, none⟩) o.ids.length vc)).2.2.2.2.2.2.2.2.2.2.2.2.2
      have f13' := hC9.frozen 13)
    have hZ9 : Cel w9 (w.heap.size + 1) 26 #[.int .i64 0, .int .i64 0, .int .i64 0, .int .i64 0, .int .i64 0, .int .i64 0, .int .i64 0, .int .i64 0, .int .i64 0, .int .i64 0, .bool false, .string ⟨#[]⟩, .string ⟨#[]⟩, .slice none 0 0] := Cel.grown hZ hgrow (by simp [Value.ownBlock])
    have hB9 : Below w.heap.size w w9 := hB.grown hgrow (by omega) (fun k hk => by simp [Value.ownBlock] at hk)
    rw [Nat.zero_add, List.nil_append] at hown
    have hr : IRow w9 (w.heap.size + 2) w9.heap.size (.slice (some ⟨g', 0, none⟩) o.ids.length cap) o.ids := by
      refine ⟨?_, fun g hg => by simp [Value.ownBlock] at hg; omega⟩
      exact hown
    clear hC hZ hB hgrow hown hat c13' f13' c13
    obtain ⟨e1, e2, e3, e4, e5⟩ := copy_end (x := .slice (some ⟨g', 0, none⟩) o.ids.length cap) hC9 hZ9 hB9 hr
    have hl : (w9.setCell ⟨w.heap.size, 13, none⟩ (.slice (some ⟨g', 0, none⟩) o.ids.length cap)).heap[w.heap.size]? = some (.cells (o.cells (.slice (some ⟨g', 0, none⟩) o.ids.length cap)) 26 (0, 0)) := e1
    have hd : (w9.setCell ⟨w.heap.size, 13, none⟩ (.slice (some ⟨g', 0, none⟩) o.ids.length cap)).heap[w.heap.size + 1]? = some (.cells #[.int .i64 0, .int .i64 0, .int .i64 0, .int .i64 0, .int .i64 0, .int .i64 0, .int .i64 0, .int .i64 0, .int .i64 0, .int .i64 0, .bool false, .string ⟨#[]⟩, .string ⟨#[]⟩, .slice none 0 0] 26 (0, 0)) := e2
    have one := o.cells_one (some ⟨g', 0, none⟩) o.ids.length cap
    have hss : (#[.int .i64 0, .int .i64 0, .int .i64 0, .int .i64 0, .int .i64 0, .int .i64 0, .int .i64 0, .int .i64 0, .int .i64 0, .int .i64 0, .bool false, .string ⟨#[]⟩, .string ⟨#[]⟩, .slice none 0 0] : Array Value).size = (o.cells (.slice (some ⟨g', 0, none⟩) o.ids.length cap)).size := by rw [Ov.cells_size]; rfl
    have HE := Lib.hid (And.intro e3 (And.intro e4 e5))
    clear e1 e2 e3 e4 e5 hr hC9 hZ9 hB9
    go_wp2_with (first | (with_reducible refine wpList_load_row rfl 26 _ rfl _ rfl 26 _ (0, 0) _ hl Try.underlying26 rfl (sizeOpt' _ _) ?_) | (with_reducible refine wpList_store_row rfl 26 _ _ rfl _ rfl _ rfl 26 _ hd (sizeOpt' _ _) hss one ?_))
    obtain ⟨e3, e4, e5⟩ := HE.out
    refine bodyPost_ret (Cel.result e3 rfl _ rfl Try.underlying26 rfl (sizeOpt' _ _)) rfl ⟨_, rfl, e5, e4⟩

  · have h0 : o.ids.length = 0 := by omega
    have hids : o.ids = [] := List.eq_nil_of_length_eq_zero h0
    rw [h0] at hC c13 ⊢
    have f13 := hC.frozen 13
    go_upto_region 3 with (
      at_builtin
      refine wpList_append_zero rfl _ _ rfl rfl rfl va vc rfl ?_)
    have hr : IRow W5 (w.heap.size + 2) W5.heap.size (.slice none 0 0) o.ids := by
      rw [hids]
      exact IRow.none
    have hC9 := hC
    have hZ9 := hZ
    have hB9 := hB
    clear hC hZ hB c13 f13
    obtain ⟨e1, e2, e3, e4, e5⟩ := copy_end (x := .slice none 0 0) hC9 hZ9 hB9 hr
    have hl : (W5.setCell ⟨w.heap.size, 13, none⟩ (.slice none 0 0)).heap[w.heap.size]? = some (.cells (o.cells (.slice none 0 0)) 26 (0, 0)) := e1
    have hd : (W5.setCell ⟨w.heap.size, 13, none⟩ (.slice none 0 0)).heap[w.heap.size + 1]? = some (.cells #[.int .i64 0, .int .i64 0, .int .i64 0, .int .i64 0, .int .i64 0, .int .i64 0, .int .i64 0, .int .i64 0, .int .i64 0, .int .i64 0, .bool false, .string ⟨#[]⟩, .string ⟨#[]⟩, .slice none 0 0] 26 (0, 0)) := e2
    have one := o.cells_one none 0 0
    have hss : (#[.int .i64 0, .int .i64 0, .int .i64 0, .int .i64 0, .int .i64 0, .int .i64 0, .int .i64 0, .int .i64 0, .int .i64 0, .int .i64 0, .bool false, .string ⟨#[]⟩, .string ⟨#[]⟩, .slice none 0 0] : Array Value).size = (o.cells (.slice none 0 0)).size := by rw [Ov.cells_size]; rfl
    have HE := Lib.hid (And.intro e3 (And.intro e4 e5))
    clear e1 e2 e3 e4 e5 hr hC9 hZ9 hB9
    go_wp2_with (first | (with_reducible refine wpList_load_row rfl 26 _ rfl _ rfl 26 _ (0, 0) _ hl Try.underlying26 rfl (sizeOpt' _ _) ?_) | (with_reducible refine wpList_store_row rfl 26 _ _ rfl _ rfl _ rfl 26 _ hd (sizeOpt' _ _) hss one ?_))
    obtain ⟨e3, e4, e5⟩ := HE.out
    refine bodyPost_ret (Cel.result e3 rfl _ rfl Try.underlying26 rfl (sizeOpt' _ _)) rfl ⟨_, rfl, e5, e4⟩

end Go.Proofs.Ytkpajakangaekab

namespace Go.Proofs.Ytkpajakangaekab
open Go.RowKit
attribute [-go_sem] loadCells loadCellsFrom

set_option maxRecDepth 100000 in
set_option maxHeartbeats 4000000 in
theorem spec_copy (o : Ov) (v : Value) (w : World) (hv : Rd w v o.ids) (hn : o.ids.length ≤ 1048576) :
    Calls Try.prog 47 #[.agg (o.cells v)] w fun e w' => ∃ v', e = .returned (.agg (o.cells v')) ∧ IRow w' w.heap.size w'.heap.size v' o.ids ∧ Below w.heap.size w w' := by
  obtain ⟨va, vc, rfl⟩ : ∃ a c, v = .slice a o.ids.length c := by obtain ⟨a, c, h, -⟩ := hv; exact ⟨a, c, h⟩
  have hB0 : Below w.heap.size w ((w.alloc (.cells (o.cells (.slice va o.ids.length vc)) 26)).alloc (.cells #[.int .i64 0, .int .i64 0, .int .i64 0, .int .i64 0, .int .i64 0, .int .i64 0, .int .i64 0, .int .i64 0, .int .i64 0, .int .i64 0, .bool false, .string ⟨#[]⟩, .string ⟨#[]⟩, .slice none 0 0] 26)) := ((Below.refl _ _).alloc (Nat.le_refl _) _).alloc (by simp) _
  have hC0 : Cel ((w.alloc (.cells (o.cells (.slice va o.ids.length vc)) 26)).alloc (.cells #[.int .i64 0, .int .i64 0, .int .i64 0, .int .i64 0, .int .i64 0, .int .i64 0, .int .i64 0, .int .i64 0, .int .i64 0, .int .i64 0, .bool false, .string ⟨#[]⟩, .string ⟨#[]⟩, .slice none 0 0] 26)) w.heap.size 26 (o.cells (.slice va o.ids.length vc)) := (Cel.new w _ _).alloc _
  have hZ0 : Cel ((w.alloc (.cells (o.cells (.slice va o.ids.length vc)) 26)).alloc (.cells #[.int .i64 0, .int .i64 0, .int .i64 0, .int .i64 0, .int .i64 0, .int .i64 0, .int .i64 0, .int .i64 0, .int .i64 0, .int .i64 0, .bool false, .string ⟨#[]⟩, .string ⟨#[]⟩, .slice none 0 0] 26)) (w.heap.size + 1) 26 #[.int .i64 0, .int .i64 0, .int .i64 0, .int .i64 0, .int .i64 0, .int .i64 0, .int .i64 0, .int .i64 0, .int .i64 0, .int .i64 0, .bool false, .string ⟨#[]⟩, .string ⟨#[]⟩, .slice none 0 0] := by
    have := Cel.new (w.alloc (.cells (o.cells (.slice va o.ids.length vc)) 26)) 26 #[.int .i64 0, .int .i64 0, .int .i64 0, .int .i64 0, .int .i64 0, .int .i64 0, .int .i64 0, .int .i64 0, .int .i64 0, .int .i64 0, .bool false, .string ⟨#[]⟩, .string ⟨#[]⟩, .slice none 0 0]
    rw [World.size_alloc] at this
    exact this
  have ho0 := World.ownsRow_made ((w.alloc (.cells (o.cells (.slice va o.ids.length vc)) 26)).alloc (.cells #[.int .i64 0, .int .i64 0, .int .i64 0, .int .i64 0, .int .i64 0, .int .i64 0, .int .i64 0, .int .i64 0, .int .i64 0, .int .i64 0, .bool false, .string ⟨#[]⟩, .string ⟨#[]⟩, .slice none 0 0] 26)) (e := 3) (size := 1) (base := w.heap.size + 2) #[] 0 (by simp) (by unfold maxLen; omega) rfl
  have hB := hB0.alloc hB0.size (.cells #[] 3)
  have hC := hC0.alloc (.cells #[] 3)
  have hZ := hZ0.alloc (.cells #[] 3)
  have hlt : w.heap.size + 2 < (((w.alloc (.cells (o.cells (.slice va o.ids.length vc)) 26)).alloc (.cells #[.int .i64 0, .int .i64 0, .int .i64 0, .int .i64 0, .int .i64 0, .int .i64 0, .int .i64 0, .int .i64 0, .int .i64 0, .int .i64 0, .bool false, .string ⟨#[]⟩, .string ⟨#[]⟩, .slice none 0 0] 26)).alloc (.cells #[] 3)).heap.size := by simp
  clear hB0 hC0 hZ0
  go_enter Try.func47, Try.ntmps47
  go_wp2_with (fail)
  go_loopw [3, 4] (fun d i wr => ∃ p gg cap : Nat, p ≤ o.ids.length ∧ d = .slice (some ⟨gg, 0, none⟩) p cap ∧ i = .int .i64 p ∧ wr.ownsRow (w.heap.size + 2) 3 1 (.slice (some ⟨gg, 0, none⟩) p cap) p ((o.ids.take p).map (Value.int .i64)) ∧ gg < wr.heap.size ∧ Cel wr w.heap.size 26 (o.cells (.slice va o.ids.length vc)) ∧ Cel wr (w.heap.size + 1) 26 #[.int .i64 0, .int .i64 0, .int .i64 0, .int .i64 0, .int .i64 0, .int .i64 0, .int .i64 0, .int .i64 0, .int .i64 0, .int .i64 0, .bool false, .string ⟨#[]⟩, .string ⟨#[]⟩, .slice none 0 0] ∧ Below w.heap.size w wr) (fun _ i _ => o.ids.length - (intOf i).toNat)
  case atStart => exact ⟨0, w.heap.size + 2, 0, by omega, by simp, rfl, by simpa using ho0, hlt, hC, hZ, hB⟩
  case round =>
    clear hC hZ hB ho0 hlt
    obtain ⟨p, gg, cap, hp, rfl, rfl, hown, hgg, hC, hZ, hB⟩ := hrel
    have c13 := (hC.cell 13).trans (o.ats (.slice va o.ids.length vc)).2.2.2.2.2.2.2.2.2.2.2.2.2
    have f13 := hC.frozen 13
    have hbase : w.heap.size + 2 ≤ wr.heap.size := by have := Cel.lt hZ; omega
    obtain ⟨i0, hi, hz0, hz1, hz2⟩ := info_parts infoI
    by_cases hpl : p < o.ids.length
    · obtain ⟨_, _, he, h⟩ := hv.below hB
      injection he with e1 e2 e3
      subst e1 e3
      obtain ⟨b, off, ha, hcell⟩ := h (by omega)
      subst ha
      have hz := hcell p hpl
      have htk : (o.ids.take (p + 1)).map (Value.int .i64) = (o.ids.take p).map (Value.int .i64) ++ [.int .i64 (o.ids[p])] := by
        rw [List.take_succ_eq_append_getElem hpl, List.map_append]
        rfl
      clear h hcell
      generalize o.ids[p] = z at *
      have q1 : (p : Int) < (o.ids.length : Int) := by omega
      have q2 : (0 : Int) ≤ (p : Int) ∧ (p : Int) < (o.ids.length : Int) := by omega
      have HT := Lib.hid htk
      clear htk
      go_wp2_with (at_builtin; refine wpList_append_one _ rfl _ _ 24 rfl (w.heap.size + 2) 3 i0 _ 8 Try.underlying24 hi hz0 hz1 hz2 rfl (.int .i64 z) rfl rfl (hown.alloc _) (by simp; omega) wr.heap.size 1 rfl (by simp) (by unfold maxLen; omega) (by omega) ?_; intro g' cap' w9 hown' hgrow _)
      have hfo := hown'.form (by omega)
      obtain ⟨g2, cp2, hge, hg2a, hg2b⟩ := hfo
      injection hge with hge
      injection hge with hge
      injection hge with hge
      subst hge
      have hgge : w.heap.size + 2 ≤ gg := by
        rcases hown.2 with ⟨hno, -⟩ | ⟨g3, c3, cur, h3, h4, -⟩
        · cases hno
        · injection h3 with h3
          injection h3 with h3
          injection h3 with h3
          omega
      have hC9 := Cel.grown (hC.alloc _) hgrow (by simp; omega)
      have hZ9 := Cel.grown (hZ.alloc _) hgrow (by simp; omega)
      have hB9 : Below w.heap.size w w9 := (hB.alloc hB.size _).grown hgrow (by have := hB.size; simp; omega) (fun j hj => by simp at hj; omega)
      have HO := Lib.hid hown'
      clear hC hZ hB hown hgg hgrow hown' hz
      go_wp2_with (fail)
      go_roundw
      case rel =>
        have hown' := HO.out
        rw [← HT.out] at hown'
        exact ⟨p + 1, g', cap', by omega, rfl, by go_num, hown', hg2b, hC9, hZ9, hB9⟩
      case measure => simp [intOf]; omega
    · obtain rfl : p = o.ids.length := by omega
      have q : ¬ (o.ids.length : Int) < (o.ids.length : Int) := by omega
      rw [List.take_length] at hown
      have hr : IRow wr (w.heap.size + 2) wr.heap.size (.slice (some ⟨gg, 0, none⟩) o.ids.length cap) o.ids :=
        ⟨hown, fun g hg => by simp [Value.ownBlock] at hg; omega⟩
      go_upto_region 7 with (fail)
      have hC9 := hC
      have hZ9 := hZ
      have hB9 := hB
      clear hC hZ hB c13 f13 hown hgg
      obtain ⟨e1, e2, e3, e4, e5⟩ := copy_end (x := .slice (some ⟨gg, 0, none⟩) o.ids.length cap) hC9 hZ9 hB9 hr
      have hl : (wr.setCell ⟨w.heap.size, 13, none⟩ (.slice (some ⟨gg, 0, none⟩) o.ids.length cap)).heap[w.heap.size]? = some (.cells (o.cells (.slice (some ⟨gg, 0, none⟩) o.ids.length cap)) 26 (0, 0)) := e1
      have hd : (wr.setCell ⟨w.heap.size, 13, none⟩ (.slice (some ⟨gg, 0, none⟩) o.ids.length cap)).heap[w.heap.size + 1]? = some (.cells #[.int .i64 0, .int .i64 0, .int .i64 0, .int .i64 0, .int .i64 0, .int .i64 0, .int .i64 0, .int .i64 0, .int .i64 0, .int .i64 0, .bool false, .string ⟨#[]⟩, .string ⟨#[]⟩, .slice none 0 0] 26 (0, 0)) := e2
      have one := o.cells_one (some ⟨gg, 0, none⟩) o.ids.length cap
      have hss : (#[.int .i64 0, .int .i64 0, .int .i64 0, .int .i64 0, .int .i64 0, .int .i64 0, .int .i64 0, .int .i64 0, .int .i64 0, .int .i64 0, .bool false, .string ⟨#[]⟩, .string ⟨#[]⟩, .slice none 0 0] : Array Value).size = (o.cells (.slice (some ⟨gg, 0, none⟩) o.ids.length cap)).size := by rw [Ov.cells_size]; rfl
      have HE := Lib.hid (And.intro e3 (And.intro e4 e5))
      clear e1 e2 e3 e4 e5 hr hC9 hZ9 hB9
      go_wp2_with (first | (with_reducible refine wpList_load_row rfl 26 _ rfl _ rfl 26 _ (0, 0) _ hl Try.underlying26 rfl (sizeOpt' _ _) ?_) | (with_reducible refine wpList_store_row rfl 26 _ _ rfl _ rfl _ rfl 26 _ hd (sizeOpt' _ _) hss one ?_))
      obtain ⟨e3, e4, e5⟩ := HE.out
      refine bodyPost_ret (Cel.result e3 rfl _ rfl Try.underlying26 rfl (sizeOpt' _ _)) rfl ⟨_, rfl, e5, e4⟩

end Go.Proofs.Ytkpajakangaekab

namespace Go.Proofs.Ytkpajakangaekab
open Go.RowKit
attribute [-go_sem] loadCells loadCellsFrom

def firstOv (os : List Ov) (n : Int) : Ov := (os.find? (fun o => decide (o.kind = n))).getD Ov.zero
def hasK (os : List Ov) (n : Int) : Bool := (os.find? (fun o => decide (o.kind = n))).isSome

theorem find_skip (os : List Ov) (n : Int) (k : Nat) (h : ∀ o ∈ os.take k, ¬ o.kind = n) : os.find? (fun o => decide (o.kind = n)) = (os.drop k).find? (fun o => decide (o.kind = n)) := by
  conv => lhs; rw [← List.take_append_drop k os]
  rw [List.find?_append, List.find?_eq_none.2 (fun o ho => by simpa using h o ho)]
  rfl

theorem first_hit {os : List Ov} {n : Int} {k : Nat} (hk : k < os.length) (h : ∀ o ∈ os.take k, ¬ o.kind = n) : os[k].kind = n → firstOv os n = os[k] ∧ hasK os n = true := fun e => by
  have : os.find? (fun o => decide (o.kind = n)) = some os[k] := by
    rw [find_skip os n k h, List.drop_eq_getElem_cons hk, List.find?_cons_of_pos (by simpa using e)]
  unfold firstOv hasK
  rw [this]
  exact ⟨rfl, rfl⟩

theorem first_miss {os : List Ov} {n : Int} {k : Nat} (hk : k < os.length) (h : ∀ o ∈ os.take k, ¬ o.kind = n) : ¬ os[k].kind = n → ∀ o ∈ os.take (k + 1), ¬ o.kind = n := fun e o ho => by
  rw [List.take_succ_eq_append_getElem hk] at ho
  rcases List.mem_append.1 ho with ho | ho
  · exact h o ho
  · rw [List.mem_singleton.1 ho]
    exact e

theorem first_none {os : List Ov} {n : Int} (h : ∀ o ∈ os, ¬ o.kind = n) : firstOv os n = Ov.zero ∧ hasK os n = false := by
  have : os.find? (fun o => decide (o.kind = n)) = none := List.find?_eq_none.2 (fun o ho => by simpa using h o ho)
  unfold firstOv hasK
  rw [this]
  exact ⟨rfl, rfl⟩

theorem first_end {w W w7 : World} {v : Value} {zs : List Int} {cs : Array Value} (hr : IRow w7 W.heap.size w7.heap.size v zs) (hB : Below w.heap.size w w7) (hlo : w.heap.size + 2 ≤ W.heap.size) :
    IRow (w7.setRow (w.heap.size + 1) cs) w.heap.size (w7.setRow (w.heap.size + 1) cs).heap.size v zs ∧ Below w.heap.size w (w7.setRow (w.heap.size + 1) cs) := by
  refine ⟨?_, below_setRow hB (by omega) _⟩
  have hz : (w7.setRow (w.heap.size + 1) cs).heap.size = w7.heap.size := by simp [World.setRow]
  rw [hz]
  refine (hr.keepAt (fun g hg => ?_)).wider (by omega) (Nat.le_refl _)
  have := (hr.block g hg).1
  show ((World.heap _).modify _ _)[g]? = _
  rw [Array.getElem?_modify, if_neg (by omega)]

set_option maxRecDepth 100000 in
set_option maxHeartbeats 4000000 in
theorem impl_firstOpt (x : Sv) (v : Value) (n : Int) (w : World) (hv : RdO w v x.opts) (hn : x.opts.length ≤ 1048576) (hbig : ∀ o ∈ x.opts, o.ids.length ≤ 1048576 ∧ o.key.size ≤ 1048576 ∧ o.mark.size ≤ 1048576) :
    Calls Try.prog 17 #[.agg (x.cells v), .int .i64 n] w fun e w' => ∃ v', e = .returned (.tuple #[.agg ((firstOv x.opts n).cells v'), .bool (hasK x.opts n)]) ∧ IRow w' w.heap.size w'.heap.size v' (firstOv x.opts n).ids ∧ Below w.heap.size w w' := by
  obtain ⟨va, vc, rfl⟩ : ∃ a c, v = .slice a x.opts.length c := by obtain ⟨a, c, h, -⟩ := hv; exact ⟨a, c, h⟩
  have hB0 : Below w.heap.size w ((w.alloc (.cells (x.cells (.slice va x.opts.length vc)) 36)).alloc (.cells #[.int .i64 0, .int .i64 0, .int .i64 0, .int .i64 0, .int .i64 0, .int .i64 0, .int .i64 0, .int .i64 0, .int .i64 0, .int .i64 0, .bool false, .string ⟨#[]⟩, .string ⟨#[]⟩, .slice none 0 0] 26)) := ((Below.refl _ _).alloc (Nat.le_refl _) _).alloc (by simp) _
  have hC0 : Cel ((w.alloc (.cells (x.cells (.slice va x.opts.length vc)) 36)).alloc (.cells #[.int .i64 0, .int .i64 0, .int .i64 0, .int .i64 0, .int .i64 0, .int .i64 0, .int .i64 0, .int .i64 0, .int .i64 0, .int .i64 0, .bool false, .string ⟨#[]⟩, .string ⟨#[]⟩, .slice none 0 0] 26)) w.heap.size 36 (x.cells (.slice va x.opts.length vc)) := (Cel.new w _ _).alloc _
  have hZ0 : Cel ((w.alloc (.cells (x.cells (.slice va x.opts.length vc)) 36)).alloc (.cells #[.int .i64 0, .int .i64 0, .int .i64 0, .int .i64 0, .int .i64 0, .int .i64 0, .int .i64 0, .int .i64 0, .int .i64 0, .int .i64 0, .bool false, .string ⟨#[]⟩, .string ⟨#[]⟩, .slice none 0 0] 26)) (w.heap.size + 1) 26 #[.int .i64 0, .int .i64 0, .int .i64 0, .int .i64 0, .int .i64 0, .int .i64 0, .int .i64 0, .int .i64 0, .int .i64 0, .int .i64 0, .bool false, .string ⟨#[]⟩, .string ⟨#[]⟩, .slice none 0 0] := by
    have := Cel.new (w.alloc (.cells (x.cells (.slice va x.opts.length vc)) 36)) 26 #[.int .i64 0, .int .i64 0, .int .i64 0, .int .i64 0, .int .i64 0, .int .i64 0, .int .i64 0, .int .i64 0, .int .i64 0, .int .i64 0, .bool false, .string ⟨#[]⟩, .string ⟨#[]⟩, .slice none 0 0]
    rw [World.size_alloc] at this
    exact this
  go_enter Try.func17, Try.ntmps17
  have k7 := (hC0.cell 7).trans (x.ats _).2.2.2.2.2.2.2.1
  go_wp2_with (fail)
  clear k7
  go_loopw [11] (fun i wr => ∃ k : Nat, k ≤ x.opts.length ∧ i = .int .i64 k ∧ (∀ o ∈ x.opts.take k, ¬ o.kind = n) ∧ Cel wr w.heap.size 36 (x.cells (.slice va x.opts.length vc)) ∧ Cel wr (w.heap.size + 1) 26 #[.int .i64 0, .int .i64 0, .int .i64 0, .int .i64 0, .int .i64 0, .int .i64 0, .int .i64 0, .int .i64 0, .int .i64 0, .int .i64 0, .bool false, .string ⟨#[]⟩, .string ⟨#[]⟩, .slice none 0 0] ∧ Below w.heap.size w wr) (fun i _ => x.opts.length - (intOf i).toNat)
  case atStart => exact ⟨0, by omega, rfl, by simp, hC0, hZ0, hB0⟩
  case round =>
    clear hC0 hZ0 hB0
    obtain ⟨k, hk, rfl, hne, hC, hZ, hB⟩ := hrel
    have k7 := (hC.cell 7).trans (x.ats _).2.2.2.2.2.2.2.1
    have hlo : w.heap.size + 2 ≤ wr.heap.size := by have := Cel.lt hZ; omega
    by_cases hlt : k < x.opts.length
    · have q : (k : Int) < (x.opts.length : Int) := by omega
      have q2 : (0 : Int) ≤ (k : Int) ∧ (k : Int) < (x.opts.length : Int) := by omega
      obtain ⟨_, _, he, h⟩ := hv.below hB
      injection he with e1 e2 e3
      subst e1 e3
      obtain ⟨b, off, ha, h3⟩ := h (by omega)
      subst ha
      obtain ⟨u, r1, r2⟩ := h3 k hlt
      clear h3 h
      obtain ⟨ua, uc, rfl⟩ := slice_of2 r2
      have ld := r1.load
      have hd := r1.head
      obtain ⟨hbo, hbk, hbm⟩ := hbig x.opts[k] (List.getElem_mem hlt)
      have hhit := @first_hit x.opts n k hlt hne
      have hmiss := @first_miss x.opts n k hlt hne
      generalize x.opts[k] = o at *
      have one := o.cells_one ua o.ids.length uc
      have hz := zeroOpt wr
      have hss : (#[.int .i64 0, .int .i64 0, .int .i64 0, .int .i64 0, .int .i64 0, .int .i64 0, .int .i64 0, .int .i64 0, .int .i64 0, .int .i64 0, .bool false, .string ⟨#[]⟩, .string ⟨#[]⟩, .slice none 0 0] : Array Value).size = (o.cells (.slice ua o.ids.length uc)).size := by rw [Ov.cells_size]; rfl
      have hn6 := new_row wr 26 #[.int .i64 0, .int .i64 0, .int .i64 0, .int .i64 0, .int .i64 0, .int .i64 0, .int .i64 0, .int .i64 0, .int .i64 0, .int .i64 0, .bool false, .string ⟨#[]⟩, .string ⟨#[]⟩, .slice none 0 0] (o.cells (.slice ua o.ids.length uc))
      have r6 := r2.below hn6.2
      have c6 := hn6.1
      have hb6 := hn6.2
      clear hn6 r1 r2 hd
      have HH := Lib.hid (And.intro hhit hmiss)
      clear hhit hmiss hne
      go_upto_region 4 with (with_reducible refine wpList_store_row rfl 26 _ _ rfl _ rfl _ rfl 26 _ hz (sizeOpt' _ _) hss one ?_)
      clear ld hz one hss
      generalize (wr.alloc (.cells #[.int .i64 0, .int .i64 0, .int .i64 0, .int .i64 0, .int .i64 0, .int .i64 0, .int .i64 0, .int .i64 0, .int .i64 0, .int .i64 0, .bool false, .string ⟨#[]⟩, .string ⟨#[]⟩, .slice none 0 0] 26)).setRow wr.heap.size (o.cells (.slice ua o.ids.length uc)) = W6 at *
      have f6 := Cel.loadRow c6 14 (Ov.cells_size _ _) (P := Try.prog)
      have k0 := (c6.cell 0).trans (o.ats (.slice ua o.ids.length uc)).1
      have hC6 := hC.kept hb6
      have hZ6 := hZ.kept hb6
      have hB6 := Below.then_ hB hb6
      have hlo6 : w.heap.size + 2 ≤ W6.heap.size := Nat.le_trans hlo hb6.size
      by_cases hkn : o.kind = n
      · have HE := Lib.hid (HH.out.1 hkn)
        have co := impl_copy o (.slice ua o.ids.length uc) W6 r6 hbo hbk hbm
        subst hkn
        clear hlo
        go_wp2_with (fail)
        with_reducible refine co.mono ?_
        rintro e w7 ⟨v7, rfl, hr7, hb7⟩
        have hZ7 := hZ6.kept hb7
        have hB7 := Below.then_ hB6 hb7
        have hlo := hlo6
        clear co f6 k0 c6 r6 hC6 hZ6 hB6
        obtain ⟨v1, v2, rfl⟩ := slice_of2 hr7.rd
        have one7 := o.cells_one v1 o.ids.length v2
        have hz7 : w7.heap[w.heap.size + 1]? = some (.cells #[.int .i64 0, .int .i64 0, .int .i64 0, .int .i64 0, .int .i64 0, .int .i64 0, .int .i64 0, .int .i64 0, .int .i64 0, .int .i64 0, .bool false, .string ⟨#[]⟩, .string ⟨#[]⟩, .slice none 0 0] 26 (0, 0)) := hZ7
        have hss7 : (#[.int .i64 0, .int .i64 0, .int .i64 0, .int .i64 0, .int .i64 0, .int .i64 0, .int .i64 0, .int .i64 0, .int .i64 0, .int .i64 0, .bool false, .string ⟨#[]⟩, .string ⟨#[]⟩, .slice none 0 0] : Array Value).size = (o.cells (.slice v1 o.ids.length v2)).size := by rw [Ov.cells_size]; rfl
        have hE := first_end (cs := o.cells (.slice v1 o.ids.length v2)) hr7 hB7 hlo
        clear hB7 hC hZ hB hb6 hb7 hlo hr7
        go_upto_region 90 with (with_reducible refine wpList_store_row rfl 26 _ _ rfl (w.heap.size + 1) rfl _ rfl 26 _ hz7 (sizeOpt' _ _) hss7 one7 ?_)
        refine bodyPost_ret (Cel.result_tmp (g := w.heap.size + 1) (t := 26) (cs := o.cells (.slice v1 o.ids.length v2)) ?hh rfl _ rfl Try.underlying26 rfl (sizeOpt' _ _)) rfl ?zz
        case hh => exact Cel.row hZ7 _
        case zz => rw [HE.out.1, HE.out.2]; exact ⟨_, rfl, hE.1, hE.2⟩
      · have hm := HH.out.2 hkn
        have HM := Lib.hid hm
        clear hm
        go_wp2_with (fail)
        go_roundw
        case rel => exact ⟨k + 1, by omega, by go_num, HM.out, hC6, hZ6, hB6⟩
        case measure => simp [intOf]; omega
    · obtain rfl : k = x.opts.length := by omega
      have q : ¬ (x.opts.length : Int) < (x.opts.length : Int) := by omega
      rw [List.take_length] at hne
      have hz7 : wr.heap[w.heap.size + 1]? = some (.cells #[.int .i64 0, .int .i64 0, .int .i64 0, .int .i64 0, .int .i64 0, .int .i64 0, .int .i64 0, .int .i64 0, .int .i64 0, .int .i64 0, .bool false, .string ⟨#[]⟩, .string ⟨#[]⟩, .slice none 0 0] 26 (0, 0)) := hZ
      have hi0 : (Try.prog.info? 26).map (·.size) = some (#[.int .i64 0, .int .i64 0, .int .i64 0, .int .i64 0, .int .i64 0, .int .i64 0, .int .i64 0, .int .i64 0, .int .i64 0, .int .i64 0, .bool false, .string ⟨#[]⟩, .string ⟨#[]⟩, .slice none 0 0] : Array Value).size := by kernel_rfl
      have one0 : (#[.int .i64 0, .int .i64 0, .int .i64 0, .int .i64 0, .int .i64 0, .int .i64 0, .int .i64 0, .int .i64 0, .int .i64 0, .int .i64 0, .bool false, .string ⟨#[]⟩, .string ⟨#[]⟩, .slice none 0 0] : Array Value).all (·.oneCell') = true := by kernel_rfl
      have HE := Lib.hid (first_none hne)
      clear hne
      go_upto_region 90 with (with_reducible refine wpList_store_row rfl 26 _ _ rfl (w.heap.size + 1) rfl _ rfl 26 _ hz7 hi0 rfl one0 ?_)
      refine bodyPost_ret (Cel.result_tmp (g := w.heap.size + 1) (t := 26) (cs := #[.int .i64 0, .int .i64 0, .int .i64 0, .int .i64 0, .int .i64 0, .int .i64 0, .int .i64 0, .int .i64 0, .int .i64 0, .int .i64 0, .bool false, .string ⟨#[]⟩, .string ⟨#[]⟩, .slice none 0 0]) ?hh rfl _ rfl Try.underlying26 rfl hi0) rfl ?zz
      case hh => exact Cel.row hZ _
      case zz => rw [HE.out.1, HE.out.2]; exact ⟨.slice none 0 0, by rw [zeros_eq]; rfl, IRow.none, below_setRow hB (by omega) _⟩

set_option maxRecDepth 100000 in
set_option maxHeartbeats 4000000 in
theorem spec_firstOpt (x : Sv) (v : Value) (n : Int) (w : World) (hv : RdO w v x.opts) (hn : x.opts.length ≤ 1048576) (hbig : ∀ o ∈ x.opts, o.ids.length ≤ 1048576 ∧ o.key.size ≤ 1048576 ∧ o.mark.size ≤ 1048576) :
    Calls Try.prog 18 #[.agg (x.cells v), .int .i64 n] w fun e w' => ∃ v', e = .returned (.tuple #[.agg ((firstOv x.opts n).cells v'), .bool (hasK x.opts n)]) ∧ IRow w' w.heap.size w'.heap.size v' (firstOv x.opts n).ids ∧ Below w.heap.size w w' := by
  obtain ⟨va, vc, rfl⟩ : ∃ a c, v = .slice a x.opts.length c := by obtain ⟨a, c, h, -⟩ := hv; exact ⟨a, c, h⟩
  have hB0 : Below w.heap.size w ((w.alloc (.cells (x.cells (.slice va x.opts.length vc)) 36)).alloc (.cells #[.int .i64 0, .int .i64 0, .int .i64 0, .int .i64 0, .int .i64 0, .int .i64 0, .int .i64 0, .int .i64 0, .int .i64 0, .int .i64 0, .bool false, .string ⟨#[]⟩, .string ⟨#[]⟩, .slice none 0 0] 26)) := ((Below.refl _ _).alloc (Nat.le_refl _) _).alloc (by simp) _
  have hC0 : Cel ((w.alloc (.cells (x.cells (.slice va x.opts.length vc)) 36)).alloc (.cells #[.int .i64 0, .int .i64 0, .int .i64 0, .int .i64 0, .int .i64 0, .int .i64 0, .int .i64 0, .int .i64 0, .int .i64 0, .int .i64 0, .bool false, .string ⟨#[]⟩, .string ⟨#[]⟩, .slice none 0 0] 26)) w.heap.size 36 (x.cells (.slice va x.opts.length vc)) := (Cel.new w _ _).alloc _
  have hZ0 : Cel ((w.alloc (.cells (x.cells (.slice va x.opts.length vc)) 36)).alloc (.cells #[.int .i64 0, .int .i64 0, .int .i64 0, .int .i64 0, .int .i64 0, .int .i64 0, .int .i64 0, .int .i64 0, .int .i64 0, .int .i64 0, .bool false, .string ⟨#[]⟩, .string ⟨#[]⟩, .slice none 0 0] 26)) (w.heap.size + 1) 26 #[.int .i64 0, .int .i64 0, .int .i64 0, .int .i64 0, .int .i64 0, .int .i64 0, .int .i64 0, .int .i64 0, .int .i64 0, .int .i64 0, .bool false, .string ⟨#[]⟩, .string ⟨#[]⟩, .slice none 0 0] := by
    have := Cel.new (w.alloc (.cells (x.cells (.slice va x.opts.length vc)) 36)) 26 #[.int .i64 0, .int .i64 0, .int .i64 0, .int .i64 0, .int .i64 0, .int .i64 0, .int .i64 0, .int .i64 0, .int .i64 0, .int .i64 0, .bool false, .string ⟨#[]⟩, .string ⟨#[]⟩, .slice none 0 0]
    rw [World.size_alloc] at this
    exact this
  go_enter Try.func18, Try.ntmps18
  have k7 := (hC0.cell 7).trans (x.ats _).2.2.2.2.2.2.2.1
  go_wp2_with (fail)
  clear k7
  go_loopw [6] (fun i wr => ∃ k : Nat, k ≤ x.opts.length ∧ i = .int .i64 k ∧ (∀ o ∈ x.opts.take k, ¬ o.kind = n) ∧ Cel wr w.heap.size 36 (x.cells (.slice va x.opts.length vc)) ∧ Cel wr (w.heap.size + 1) 26 #[.int .i64 0, .int .i64 0, .int .i64 0, .int .i64 0, .int .i64 0, .int .i64 0, .int .i64 0, .int .i64 0, .int .i64 0, .int .i64 0, .bool false, .string ⟨#[]⟩, .string ⟨#[]⟩, .slice none 0 0] ∧ Below w.heap.size w wr) (fun i _ => x.opts.length - (intOf i).toNat)
  case atStart => exact ⟨0, by omega, rfl, by simp, hC0, hZ0, hB0⟩
  case round =>
    clear hC0 hZ0 hB0
    obtain ⟨k, hk, rfl, hne, hC, hZ, hB⟩ := hrel
    have k7 := (hC.cell 7).trans (x.ats _).2.2.2.2.2.2.2.1
    have hlo : w.heap.size + 2 ≤ wr.heap.size := by have := Cel.lt hZ; omega
    by_cases hlt : k < x.opts.length
    · have q : (k : Int) < (x.opts.length : Int) := by omega
      have q2 : (0 : Int) ≤ (k : Int) ∧ (k : Int) < (x.opts.length : Int) := by omega
      obtain ⟨_, _, he, h⟩ := hv.below hB
      injection he with e1 e2 e3
      subst e1 e3
      obtain ⟨b, off, ha, h3⟩ := h (by omega)
      subst ha
      obtain ⟨u, r1, r2⟩ := h3 k hlt
      clear h3 h
      obtain ⟨ua, uc, rfl⟩ := slice_of2 r2
      have ld := r1.load
      have hd := r1.head
      obtain ⟨hbo, hbk, hbm⟩ := hbig x.opts[k] (List.getElem_mem hlt)
      have hhit := @first_hit x.opts n k hlt hne
      have hmiss := @first_miss x.opts n k hlt hne
      generalize x.opts[k] = o at *
      have one := o.cells_one ua o.ids.length uc
      have HH := Lib.hid (And.intro hhit hmiss)
      clear hhit hmiss hne
      by_cases hkn : o.kind = n
      · have HE := Lib.hid (HH.out.1 hkn)
        have co := spec_copy o (.slice ua o.ids.length uc) wr r2 hbo
        subst hkn
        go_wp2_with (fail)
        with_reducible refine co.mono ?_
        rintro e w7 ⟨v7, rfl, hr7, hb7⟩
        have hZ7 := hZ.kept hb7
        have hB7 := Below.then_ hB hb7
        have hb6 := hb7
        clear co ld hd r1 r2
        obtain ⟨v1, v2, rfl⟩ := slice_of2 hr7.rd
        have one7 := o.cells_one v1 o.ids.length v2
        have hz7 : w7.heap[w.heap.size + 1]? = some (.cells #[.int .i64 0, .int .i64 0, .int .i64 0, .int .i64 0, .int .i64 0, .int .i64 0, .int .i64 0, .int .i64 0, .int .i64 0, .int .i64 0, .bool false, .string ⟨#[]⟩, .string ⟨#[]⟩, .slice none 0 0] 26 (0, 0)) := hZ7
        have hss7 : (#[.int .i64 0, .int .i64 0, .int .i64 0, .int .i64 0, .int .i64 0, .int .i64 0, .int .i64 0, .int .i64 0, .int .i64 0, .int .i64 0, .bool false, .string ⟨#[]⟩, .string ⟨#[]⟩, .slice none 0 0] : Array Value).size = (o.cells (.slice v1 o.ids.length v2)).size := by rw [Ov.cells_size]; rfl
        have hE := first_end (cs := o.cells (.slice v1 o.ids.length v2)) hr7 hB7 hlo
        clear hB7 hC hZ hB hb6 hb7 hlo hr7
        go_upto_region 90 with (with_reducible refine wpList_store_row rfl 26 _ _ rfl (w.heap.size + 1) rfl _ rfl 26 _ hz7 (sizeOpt' _ _) hss7 one7 ?_)
        refine bodyPost_ret (Cel.result_tmp (g := w.heap.size + 1) (t := 26) (cs := o.cells (.slice v1 o.ids.length v2)) ?hh rfl _ rfl Try.underlying26 rfl (sizeOpt' _ _)) rfl ?zz
        case hh => exact Cel.row hZ7 _
        case zz => rw [HE.out.1, HE.out.2]; exact ⟨_, rfl, hE.1, hE.2⟩
      · have hm := HH.out.2 hkn
        have HM := Lib.hid hm
        clear hm
        go_wp2_with (fail)
        go_roundw
        case rel => exact ⟨k + 1, by omega, by go_num, HM.out, hC, hZ, hB⟩
        case measure => simp [intOf]; omega
    · obtain rfl : k = x.opts.length := by omega
      have q : ¬ (x.opts.length : Int) < (x.opts.length : Int) := by omega
      rw [List.take_length] at hne
      have hz7 : wr.heap[w.heap.size + 1]? = some (.cells #[.int .i64 0, .int .i64 0, .int .i64 0, .int .i64 0, .int .i64 0, .int .i64 0, .int .i64 0, .int .i64 0, .int .i64 0, .int .i64 0, .bool false, .string ⟨#[]⟩, .string ⟨#[]⟩, .slice none 0 0] 26 (0, 0)) := hZ
      have hi0 : (Try.prog.info? 26).map (·.size) = some (#[.int .i64 0, .int .i64 0, .int .i64 0, .int .i64 0, .int .i64 0, .int .i64 0, .int .i64 0, .int .i64 0, .int .i64 0, .int .i64 0, .bool false, .string ⟨#[]⟩, .string ⟨#[]⟩, .slice none 0 0] : Array Value).size := by kernel_rfl
      have one0 : (#[.int .i64 0, .int .i64 0, .int .i64 0, .int .i64 0, .int .i64 0, .int .i64 0, .int .i64 0, .int .i64 0, .int .i64 0, .int .i64 0, .bool false, .string ⟨#[]⟩, .string ⟨#[]⟩, .slice none 0 0] : Array Value).all (·.oneCell') = true := by kernel_rfl
      have HE := Lib.hid (first_none hne)
      clear hne
      go_upto_region 90 with (with_reducible refine wpList_store_row rfl 26 _ _ rfl (w.heap.size + 1) rfl _ rfl 26 _ hz7 hi0 rfl one0 ?_)
      refine bodyPost_ret (Cel.result_tmp (g := w.heap.size + 1) (t := 26) (cs := #[.int .i64 0, .int .i64 0, .int .i64 0, .int .i64 0, .int .i64 0, .int .i64 0, .int .i64 0, .int .i64 0, .int .i64 0, .int .i64 0, .bool false, .string ⟨#[]⟩, .string ⟨#[]⟩, .slice none 0 0]) ?hh rfl _ rfl Try.underlying26 rfl hi0) rfl ?zz
      case hh => exact Cel.row hZ _
      case zz => rw [HE.out.1, HE.out.2]; exact ⟨.slice none 0 0, by rw [zeros_eq]; rfl, IRow.none, below_setRow hB (by omega) _⟩

end Go.Proofs.Ytkpajakangaekab

