import Derived.Test.YtkpajakangaekabRpu
namespace Go.Proofs.Ytkpajakangaekab
open Go.RowKit
attribute [-go_sem] loadCells loadCellsFrom

theorem cells_set_id (o : Ov) (v : Value) (n : Int) : (o.cells v).setIfInBounds 1 (.int .i64 n) = ({ o with id := n } : Ov).cells v := by unfold Ov.cells; rfl

set_option maxRecDepth 100000 in
set_option maxHeartbeats 1000000 in
theorem put_id (o : Ov) (va : Option Addr) (m vc : Nat) (n : Int) (x : ByteArray) (w : World) :
    Calls Try.prog 73 #[.agg (o.cells (.slice va m vc)), .int .u8 105, .int .i64 n, .string x] w fun e w' => e = .returned (.agg (({ o with id := n } : Ov).cells (.slice va m vc))) ∧ Below w.heap.size w w' := by
  have hB : Below w.heap.size w ((w.alloc (.cells (o.cells (.slice va m vc)) 26)).alloc (.cells #[.int .i64 0, .int .i64 0, .int .i64 0, .int .i64 0, .int .i64 0, .int .i64 0, .int .i64 0, .int .i64 0, .int .i64 0, .int .i64 0, .bool false, .string ⟨#[]⟩, .string ⟨#[]⟩, .slice none 0 0] 26)) := ((Below.refl _ _).alloc (Nat.le_refl _) _).alloc (by simp) _
  have hA : Cel ((w.alloc (.cells (o.cells (.slice va m vc)) 26)).alloc (.cells #[.int .i64 0, .int .i64 0, .int .i64 0, .int .i64 0, .int .i64 0, .int .i64 0, .int .i64 0, .int .i64 0, .int .i64 0, .int .i64 0, .bool false, .string ⟨#[]⟩, .string ⟨#[]⟩, .slice none 0 0] 26)) w.heap.size 26 (o.cells (.slice va m vc)) := (Cel.new w _ _).alloc _
  have hZ : Cel ((w.alloc (.cells (o.cells (.slice va m vc)) 26)).alloc (.cells #[.int .i64 0, .int .i64 0, .int .i64 0, .int .i64 0, .int .i64 0, .int .i64 0, .int .i64 0, .int .i64 0, .int .i64 0, .int .i64 0, .bool false, .string ⟨#[]⟩, .string ⟨#[]⟩, .slice none 0 0] 26)) (w.heap.size + 1) 26 #[.int .i64 0, .int .i64 0, .int .i64 0, .int .i64 0, .int .i64 0, .int .i64 0, .int .i64 0, .int .i64 0, .int .i64 0, .int .i64 0, .bool false, .string ⟨#[]⟩, .string ⟨#[]⟩, .slice none 0 0] := by
    have := Cel.new (w.alloc (.cells (o.cells (.slice va m vc)) 26)) 26 #[.int .i64 0, .int .i64 0, .int .i64 0, .int .i64 0, .int .i64 0, .int .i64 0, .int .i64 0, .int .i64 0, .int .i64 0, .int .i64 0, .bool false, .string ⟨#[]⟩, .string ⟨#[]⟩, .slice none 0 0]
    rw [World.size_alloc] at this
    exact this
  go_enter Try.func73, Try.ntmps73
  go_upto_region 1 with (fail)
  generalize ((w.alloc (.cells (o.cells (.slice va m vc)) 26)).alloc (.cells #[.int .i64 0, .int .i64 0, .int .i64 0, .int .i64 0, .int .i64 0, .int .i64 0, .int .i64 0, .int .i64 0, .int .i64 0, .int .i64 0, .bool false, .string ⟨#[]⟩, .string ⟨#[]⟩, .slice none 0 0] 26)) = W at *
  have l0 := hA.cell 1
  rw [(o.ats (.slice va m vc)).2.1] at l0
  have f0 := hA.frozen 1
  have hA2 := hA.set 1 (.int .i64 n)
  rw [cells_set_id] at hA2
  have hZ2 := hZ.other ⟨w.heap.size, 1, none⟩ (.int .i64 n) (by simp)
  have hB2 := hB.setCell (p := ⟨w.heap.size, 1, none⟩) (by simp) (.int .i64 n)
  have hB3 := below_setRow (g := w.heap.size + 1) hB2 (by omega) (({ o with id := n } : Ov).cells (.slice va m vc))
  have hZ3 := hZ2.row (({ o with id := n } : Ov).cells (.slice va m vc))
  have one := ({ o with id := n } : Ov).cells_one va m vc
  have hss : (#[.int .i64 0, .int .i64 0, .int .i64 0, .int .i64 0, .int .i64 0, .int .i64 0, .int .i64 0, .int .i64 0, .int .i64 0, .int .i64 0, .bool false, .string ⟨#[]⟩, .string ⟨#[]⟩, .slice none 0 0] : Array Value).size = (({ o with id := n } : Ov).cells (.slice va m vc)).size := by rw [Ov.cells_size]; rfl
  have hl : (W.setCell ⟨w.heap.size, 1, none⟩ (.int .i64 n)).heap[w.heap.size]? = some (.cells (({ o with id := n } : Ov).cells (.slice va m vc)) 26 (0, 0)) := hA2
  have hz : (W.setCell ⟨w.heap.size, 1, none⟩ (.int .i64 n)).heap[w.heap.size + 1]? = some (.cells #[.int .i64 0, .int .i64 0, .int .i64 0, .int .i64 0, .int .i64 0, .int .i64 0, .int .i64 0, .int .i64 0, .int .i64 0, .int .i64 0, .bool false, .string ⟨#[]⟩, .string ⟨#[]⟩, .slice none 0 0] 26 (0, 0)) := hZ2
  have HF := Lib.hid (And.intro hZ3 hB3)
  clear hA hZ hB hA2 hZ2 hB2 hB3 hZ3
  go_wp2_with (first | (with_reducible refine wpList_load_row rfl 26 _ rfl _ rfl 26 _ (0, 0) _ hl Try.underlying26 rfl (sizeOpt' _ _) ?_) | (with_reducible refine wpList_store_row rfl 26 _ _ rfl _ rfl _ rfl 26 _ hz (sizeOpt' _ _) hss one ?_))
  obtain ⟨hZ3, hB3⟩ := HF.out
  refine bodyPost_ret (Cel.result hZ3 rfl _ rfl Try.underlying26 rfl (sizeOpt' _ _)) rfl ⟨rfl, hB3⟩

theorem cells_set_flag (o : Ov) (v : Value) (n : Int) : (o.cells v).setIfInBounds 10 (.bool (n != 0)) = ({ o with flag := n != 0 } : Ov).cells v := by unfold Ov.cells; rfl

set_option maxRecDepth 100000 in
set_option maxHeartbeats 1000000 in
theorem put_flag (o : Ov) (va : Option Addr) (m vc : Nat) (n : Int) (x : ByteArray) (w : World) :
    Calls Try.prog 73 #[.agg (o.cells (.slice va m vc)), .int .u8 102, .int .i64 n, .string x] w fun e w' => e = .returned (.agg (({ o with flag := n != 0 } : Ov).cells (.slice va m vc))) ∧ Below w.heap.size w w' := by
  have hB : Below w.heap.size w ((w.alloc (.cells (o.cells (.slice va m vc)) 26)).alloc (.cells #[.int .i64 0, .int .i64 0, .int .i64 0, .int .i64 0, .int .i64 0, .int .i64 0, .int .i64 0, .int .i64 0, .int .i64 0, .int .i64 0, .bool false, .string ⟨#[]⟩, .string ⟨#[]⟩, .slice none 0 0] 26)) := ((Below.refl _ _).alloc (Nat.le_refl _) _).alloc (by simp) _
  have hA : Cel ((w.alloc (.cells (o.cells (.slice va m vc)) 26)).alloc (.cells #[.int .i64 0, .int .i64 0, .int .i64 0, .int .i64 0, .int .i64 0, .int .i64 0, .int .i64 0, .int .i64 0, .int .i64 0, .int .i64 0, .bool false, .string ⟨#[]⟩, .string ⟨#[]⟩, .slice none 0 0] 26)) w.heap.size 26 (o.cells (.slice va m vc)) := (Cel.new w _ _).alloc _
  have hZ : Cel ((w.alloc (.cells (o.cells (.slice va m vc)) 26)).alloc (.cells #[.int .i64 0, .int .i64 0, .int .i64 0, .int .i64 0, .int .i64 0, .int .i64 0, .int .i64 0, .int .i64 0, .int .i64 0, .int .i64 0, .bool false, .string ⟨#[]⟩, .string ⟨#[]⟩, .slice none 0 0] 26)) (w.heap.size + 1) 26 #[.int .i64 0, .int .i64 0, .int .i64 0, .int .i64 0, .int .i64 0, .int .i64 0, .int .i64 0, .int .i64 0, .int .i64 0, .int .i64 0, .bool false, .string ⟨#[]⟩, .string ⟨#[]⟩, .slice none 0 0] := by
    have := Cel.new (w.alloc (.cells (o.cells (.slice va m vc)) 26)) 26 #[.int .i64 0, .int .i64 0, .int .i64 0, .int .i64 0, .int .i64 0, .int .i64 0, .int .i64 0, .int .i64 0, .int .i64 0, .int .i64 0, .bool false, .string ⟨#[]⟩, .string ⟨#[]⟩, .slice none 0 0]
    rw [World.size_alloc] at this
    exact this
  go_enter Try.func73, Try.ntmps73
  go_upto_region 1 with (fail)
  generalize ((w.alloc (.cells (o.cells (.slice va m vc)) 26)).alloc (.cells #[.int .i64 0, .int .i64 0, .int .i64 0, .int .i64 0, .int .i64 0, .int .i64 0, .int .i64 0, .int .i64 0, .int .i64 0, .int .i64 0, .bool false, .string ⟨#[]⟩, .string ⟨#[]⟩, .slice none 0 0] 26)) = W at *
  have l0 := hA.cell 10
  rw [(o.ats (.slice va m vc)).2.2.2.2.2.2.2.2.2.2.1] at l0
  have f0 := hA.frozen 10
  have hA2 := hA.set 10 (.bool (n != 0))
  rw [cells_set_flag] at hA2
  have hZ2 := hZ.other ⟨w.heap.size, 10, none⟩ (.bool (n != 0)) (by simp)
  have hB2 := hB.setCell (p := ⟨w.heap.size, 10, none⟩) (by simp) (.bool (n != 0))
  have hB3 := below_setRow (g := w.heap.size + 1) hB2 (by omega) (({ o with flag := n != 0 } : Ov).cells (.slice va m vc))
  have hZ3 := hZ2.row (({ o with flag := n != 0 } : Ov).cells (.slice va m vc))
  have one := ({ o with flag := n != 0 } : Ov).cells_one va m vc
  have hss : (#[.int .i64 0, .int .i64 0, .int .i64 0, .int .i64 0, .int .i64 0, .int .i64 0, .int .i64 0, .int .i64 0, .int .i64 0, .int .i64 0, .bool false, .string ⟨#[]⟩, .string ⟨#[]⟩, .slice none 0 0] : Array Value).size = (({ o with flag := n != 0 } : Ov).cells (.slice va m vc)).size := by rw [Ov.cells_size]; rfl
  have hl : (W.setCell ⟨w.heap.size, 10, none⟩ (.bool (n != 0))).heap[w.heap.size]? = some (.cells (({ o with flag := n != 0 } : Ov).cells (.slice va m vc)) 26 (0, 0)) := hA2
  have hz : (W.setCell ⟨w.heap.size, 10, none⟩ (.bool (n != 0))).heap[w.heap.size + 1]? = some (.cells #[.int .i64 0, .int .i64 0, .int .i64 0, .int .i64 0, .int .i64 0, .int .i64 0, .int .i64 0, .int .i64 0, .int .i64 0, .int .i64 0, .bool false, .string ⟨#[]⟩, .string ⟨#[]⟩, .slice none 0 0] 26 (0, 0)) := hZ2
  have HF := Lib.hid (And.intro hZ3 hB3)
  clear hA hZ hB hA2 hZ2 hB2 hB3 hZ3
  go_wp2_with (first | (with_reducible refine wpList_load_row rfl 26 _ rfl _ rfl 26 _ (0, 0) _ hl Try.underlying26 rfl (sizeOpt' _ _) ?_) | (with_reducible refine wpList_store_row rfl 26 _ _ rfl _ rfl _ rfl 26 _ hz (sizeOpt' _ _) hss one ?_))
  obtain ⟨hZ3, hB3⟩ := HF.out
  refine bodyPost_ret (Cel.result hZ3 rfl _ rfl Try.underlying26 rfl (sizeOpt' _ _)) rfl ⟨rfl, hB3⟩

theorem cells_set_token (o : Ov) (v : Value) (n : Int) : (o.cells v).setIfInBounds 4 (.int .i64 n) = ({ o with token := n } : Ov).cells v := by unfold Ov.cells; rfl

set_option maxRecDepth 100000 in
set_option maxHeartbeats 1000000 in
theorem put_token (o : Ov) (va : Option Addr) (m vc : Nat) (n : Int) (x : ByteArray) (w : World) :
    Calls Try.prog 73 #[.agg (o.cells (.slice va m vc)), .int .u8 116, .int .i64 n, .string x] w fun e w' => e = .returned (.agg (({ o with token := n } : Ov).cells (.slice va m vc))) ∧ Below w.heap.size w w' := by
  have hB : Below w.heap.size w ((w.alloc (.cells (o.cells (.slice va m vc)) 26)).alloc (.cells #[.int .i64 0, .int .i64 0, .int .i64 0, .int .i64 0, .int .i64 0, .int .i64 0, .int .i64 0, .int .i64 0, .int .i64 0, .int .i64 0, .bool false, .string ⟨#[]⟩, .string ⟨#[]⟩, .slice none 0 0] 26)) := ((Below.refl _ _).alloc (Nat.le_refl _) _).alloc (by simp) _
  have hA : Cel ((w.alloc (.cells (o.cells (.slice va m vc)) 26)).alloc (.cells #[.int .i64 0, .int .i64 0, .int .i64 0, .int .i64 0, .int .i64 0, .int .i64 0, .int .i64 0, .int .i64 0, .int .i64 0, .int .i64 0, .bool false, .string ⟨#[]⟩, .string ⟨#[]⟩, .slice none 0 0] 26)) w.heap.size 26 (o.cells (.slice va m vc)) := (Cel.new w _ _).alloc _
  have hZ : Cel ((w.alloc (.cells (o.cells (.slice va m vc)) 26)).alloc (.cells #[.int .i64 0, .int .i64 0, .int .i64 0, .int .i64 0, .int .i64 0, .int .i64 0, .int .i64 0, .int .i64 0, .int .i64 0, .int .i64 0, .bool false, .string ⟨#[]⟩, .string ⟨#[]⟩, .slice none 0 0] 26)) (w.heap.size + 1) 26 #[.int .i64 0, .int .i64 0, .int .i64 0, .int .i64 0, .int .i64 0, .int .i64 0, .int .i64 0, .int .i64 0, .int .i64 0, .int .i64 0, .bool false, .string ⟨#[]⟩, .string ⟨#[]⟩, .slice none 0 0] := by
    have := Cel.new (w.alloc (.cells (o.cells (.slice va m vc)) 26)) 26 #[.int .i64 0, .int .i64 0, .int .i64 0, .int .i64 0, .int .i64 0, .int .i64 0, .int .i64 0, .int .i64 0, .int .i64 0, .int .i64 0, .bool false, .string ⟨#[]⟩, .string ⟨#[]⟩, .slice none 0 0]
    rw [World.size_alloc] at this
    exact this
  go_enter Try.func73, Try.ntmps73
  go_upto_region 1 with (fail)
  generalize ((w.alloc (.cells (o.cells (.slice va m vc)) 26)).alloc (.cells #[.int .i64 0, .int .i64 0, .int .i64 0, .int .i64 0, .int .i64 0, .int .i64 0, .int .i64 0, .int .i64 0, .int .i64 0, .int .i64 0, .bool false, .string ⟨#[]⟩, .string ⟨#[]⟩, .slice none 0 0] 26)) = W at *
  have l0 := hA.cell 4
  rw [(o.ats (.slice va m vc)).2.2.2.2.1] at l0
  have f0 := hA.frozen 4
  have hA2 := hA.set 4 (.int .i64 n)
  rw [cells_set_token] at hA2
  have hZ2 := hZ.other ⟨w.heap.size, 4, none⟩ (.int .i64 n) (by simp)
  have hB2 := hB.setCell (p := ⟨w.heap.size, 4, none⟩) (by simp) (.int .i64 n)
  have hB3 := below_setRow (g := w.heap.size + 1) hB2 (by omega) (({ o with token := n } : Ov).cells (.slice va m vc))
  have hZ3 := hZ2.row (({ o with token := n } : Ov).cells (.slice va m vc))
  have one := ({ o with token := n } : Ov).cells_one va m vc
  have hss : (#[.int .i64 0, .int .i64 0, .int .i64 0, .int .i64 0, .int .i64 0, .int .i64 0, .int .i64 0, .int .i64 0, .int .i64 0, .int .i64 0, .bool false, .string ⟨#[]⟩, .string ⟨#[]⟩, .slice none 0 0] : Array Value).size = (({ o with token := n } : Ov).cells (.slice va m vc)).size := by rw [Ov.cells_size]; rfl
  have hl : (W.setCell ⟨w.heap.size, 4, none⟩ (.int .i64 n)).heap[w.heap.size]? = some (.cells (({ o with token := n } : Ov).cells (.slice va m vc)) 26 (0, 0)) := hA2
  have hz : (W.setCell ⟨w.heap.size, 4, none⟩ (.int .i64 n)).heap[w.heap.size + 1]? = some (.cells #[.int .i64 0, .int .i64 0, .int .i64 0, .int .i64 0, .int .i64 0, .int .i64 0, .int .i64 0, .int .i64 0, .int .i64 0, .int .i64 0, .bool false, .string ⟨#[]⟩, .string ⟨#[]⟩, .slice none 0 0] 26 (0, 0)) := hZ2
  have HF := Lib.hid (And.intro hZ3 hB3)
  clear hA hZ hB hA2 hZ2 hB2 hB3 hZ3
  go_wp2_with (first | (with_reducible refine wpList_load_row rfl 26 _ rfl _ rfl 26 _ (0, 0) _ hl Try.underlying26 rfl (sizeOpt' _ _) ?_) | (with_reducible refine wpList_store_row rfl 26 _ _ rfl _ rfl _ rfl 26 _ hz (sizeOpt' _ _) hss one ?_))
  obtain ⟨hZ3, hB3⟩ := HF.out
  refine bodyPost_ret (Cel.result hZ3 rfl _ rfl Try.underlying26 rfl (sizeOpt' _ _)) rfl ⟨rfl, hB3⟩

theorem cells_set_nonce (o : Ov) (v : Value) (n : Int) : (o.cells v).setIfInBounds 5 (.int .i64 n) = ({ o with nonce := n } : Ov).cells v := by unfold Ov.cells; rfl

set_option maxRecDepth 100000 in
set_option maxHeartbeats 1000000 in
theorem put_nonce (o : Ov) (va : Option Addr) (m vc : Nat) (n : Int) (x : ByteArray) (w : World) :
    Calls Try.prog 73 #[.agg (o.cells (.slice va m vc)), .int .u8 110, .int .i64 n, .string x] w fun e w' => e = .returned (.agg (({ o with nonce := n } : Ov).cells (.slice va m vc))) ∧ Below w.heap.size w w' := by
  have hB : Below w.heap.size w ((w.alloc (.cells (o.cells (.slice va m vc)) 26)).alloc (.cells #[.int .i64 0, .int .i64 0, .int .i64 0, .int .i64 0, .int .i64 0, .int .i64 0, .int .i64 0, .int .i64 0, .int .i64 0, .int .i64 0, .bool false, .string ⟨#[]⟩, .string ⟨#[]⟩, .slice none 0 0] 26)) := ((Below.refl _ _).alloc (Nat.le_refl _) _).alloc (by simp) _
  have hA : Cel ((w.alloc (.cells (o.cells (.slice va m vc)) 26)).alloc (.cells #[.int .i64 0, .int .i64 0, .int .i64 0, .int .i64 0, .int .i64 0, .int .i64 0, .int .i64 0, .int .i64 0, .int .i64 0, .int .i64 0, .bool false, .string ⟨#[]⟩, .string ⟨#[]⟩, .slice none 0 0] 26)) w.heap.size 26 (o.cells (.slice va m vc)) := (Cel.new w _ _).alloc _
  have hZ : Cel ((w.alloc (.cells (o.cells (.slice va m vc)) 26)).alloc (.cells #[.int .i64 0, .int .i64 0, .int .i64 0, .int .i64 0, .int .i64 0, .int .i64 0, .int .i64 0, .int .i64 0, .int .i64 0, .int .i64 0, .bool false, .string ⟨#[]⟩, .string ⟨#[]⟩, .slice none 0 0] 26)) (w.heap.size + 1) 26 #[.int .i64 0, .int .i64 0, .int .i64 0, .int .i64 0, .int .i64 0, .int .i64 0, .int .i64 0, .int .i64 0, .int .i64 0, .int .i64 0, .bool false, .string ⟨#[]⟩, .string ⟨#[]⟩, .slice none 0 0] := by
    have := Cel.new (w.alloc (.cells (o.cells (.slice va m vc)) 26)) 26 #[.int .i64 0, .int .i64 0, .int .i64 0, .int .i64 0, .int .i64 0, .int .i64 0, .int .i64 0, .int .i64 0, .int .i64 0, .int .i64 0, .bool false, .string ⟨#[]⟩, .string ⟨#[]⟩, .slice none 0 0]
    rw [World.size_alloc] at this
    exact this
  go_enter Try.func73, Try.ntmps73
  go_upto_region 1 with (fail)
  generalize ((w.alloc (.cells (o.cells (.slice va m vc)) 26)).alloc (.cells #[.int .i64 0, .int .i64 0, .int .i64 0, .int .i64 0, .int .i64 0, .int .i64 0, .int .i64 0, .int .i64 0, .int .i64 0, .int .i64 0, .bool false, .string ⟨#[]⟩, .string ⟨#[]⟩, .slice none 0 0] 26)) = W at *
  have l0 := hA.cell 5
  rw [(o.ats (.slice va m vc)).2.2.2.2.2.1] at l0
  have f0 := hA.frozen 5
  have hA2 := hA.set 5 (.int .i64 n)
  rw [cells_set_nonce] at hA2
  have hZ2 := hZ.other ⟨w.heap.size, 5, none⟩ (.int .i64 n) (by simp)
  have hB2 := hB.setCell (p := ⟨w.heap.size, 5, none⟩) (by simp) (.int .i64 n)
  have hB3 := below_setRow (g := w.heap.size + 1) hB2 (by omega) (({ o with nonce := n } : Ov).cells (.slice va m vc))
  have hZ3 := hZ2.row (({ o with nonce := n } : Ov).cells (.slice va m vc))
  have one := ({ o with nonce := n } : Ov).cells_one va m vc
  have hss : (#[.int .i64 0, .int .i64 0, .int .i64 0, .int .i64 0, .int .i64 0, .int .i64 0, .int .i64 0, .int .i64 0, .int .i64 0, .int .i64 0, .bool false, .string ⟨#[]⟩, .string ⟨#[]⟩, .slice none 0 0] : Array Value).size = (({ o with nonce := n } : Ov).cells (.slice va m vc)).size := by rw [Ov.cells_size]; rfl
  have hl : (W.setCell ⟨w.heap.size, 5, none⟩ (.int .i64 n)).heap[w.heap.size]? = some (.cells (({ o with nonce := n } : Ov).cells (.slice va m vc)) 26 (0, 0)) := hA2
  have hz : (W.setCell ⟨w.heap.size, 5, none⟩ (.int .i64 n)).heap[w.heap.size + 1]? = some (.cells #[.int .i64 0, .int .i64 0, .int .i64 0, .int .i64 0, .int .i64 0, .int .i64 0, .int .i64 0, .int .i64 0, .int .i64 0, .int .i64 0, .bool false, .string ⟨#[]⟩, .string ⟨#[]⟩, .slice none 0 0] 26 (0, 0)) := hZ2
  have HF := Lib.hid (And.intro hZ3 hB3)
  clear hA hZ hB hA2 hZ2 hB2 hB3 hZ3
  go_wp2_with (first | (with_reducible refine wpList_load_row rfl 26 _ rfl _ rfl 26 _ (0, 0) _ hl Try.underlying26 rfl (sizeOpt' _ _) ?_) | (with_reducible refine wpList_store_row rfl 26 _ _ rfl _ rfl _ rfl 26 _ hz (sizeOpt' _ _) hss one ?_))
  obtain ⟨hZ3, hB3⟩ := HF.out
  refine bodyPost_ret (Cel.result hZ3 rfl _ rfl Try.underlying26 rfl (sizeOpt' _ _)) rfl ⟨rfl, hB3⟩

theorem cells_set_ack (o : Ov) (v : Value) (n : Int) : (o.cells v).setIfInBounds 9 (.int .i64 n) = ({ o with ack := n } : Ov).cells v := by unfold Ov.cells; rfl

set_option maxRecDepth 100000 in
set_option maxHeartbeats 1000000 in
theorem put_ack (o : Ov) (va : Option Addr) (m vc : Nat) (n : Int) (x : ByteArray) (w : World) :
    Calls Try.prog 73 #[.agg (o.cells (.slice va m vc)), .int .u8 97, .int .i64 n, .string x] w fun e w' => e = .returned (.agg (({ o with ack := n } : Ov).cells (.slice va m vc))) ∧ Below w.heap.size w w' := by
  have hB : Below w.heap.size w ((w.alloc (.cells (o.cells (.slice va m vc)) 26)).alloc (.cells #[.int .i64 0, .int .i64 0, .int .i64 0, .int .i64 0, .int .i64 0, .int .i64 0, .int .i64 0, .int .i64 0, .int .i64 0, .int .i64 0, .bool false, .string ⟨#[]⟩, .string ⟨#[]⟩, .slice none 0 0] 26)) := ((Below.refl _ _).alloc (Nat.le_refl _) _).alloc (by simp) _
  have hA : Cel ((w.alloc (.cells (o.cells (.slice va m vc)) 26)).alloc (.cells #[.int .i64 0, .int .i64 0, .int .i64 0, .int .i64 0, .int .i64 0, .int .i64 0, .int .i64 0, .int .i64 0, .int .i64 0, .int .i64 0, .bool false, .string ⟨#[]⟩, .string ⟨#[]⟩, .slice none 0 0] 26)) w.heap.size 26 (o.cells (.slice va m vc)) := (Cel.new w _ _).alloc _
  have hZ : Cel ((w.alloc (.cells (o.cells (.slice va m vc)) 26)).alloc (.cells #[.int .i64 0, .int .i64 0, .int .i64 0, .int .i64 0, .int .i64 0, .int .i64 0, .int .i64 0, .int .i64 0, .int .i64 0, .int .i64 0, .bool false, .string ⟨#[]⟩, .string ⟨#[]⟩, .slice none 0 0] 26)) (w.heap.size + 1) 26 #[.int .i64 0, .int .i64 0, .int .i64 0, .int .i64 0, .int .i64 0, .int .i64 0, .int .i64 0, .int .i64 0, .int .i64 0, .int .i64 0, .bool false, .string ⟨#[]⟩, .string ⟨#[]⟩, .slice none 0 0] := by
    have := Cel.new (w.alloc (.cells (o.cells (.slice va m vc)) 26)) 26 #[.int .i64 0, .int .i64 0, .int .i64 0, .int .i64 0, .int .i64 0, .int .i64 0, .int .i64 0, .int .i64 0, .int .i64 0, .int .i64 0, .bool false, .string ⟨#[]⟩, .string ⟨#[]⟩, .slice none 0 0]
    rw [World.size_alloc] at this
    exact this
  go_enter Try.func73, Try.ntmps73
  go_upto_region 1 with (fail)
  generalize ((w.alloc (.cells (o.cells (.slice va m vc)) 26)).alloc (.cells #[.int .i64 0, .int .i64 0, .int .i64 0, .int .i64 0, .int .i64 0, .int .i64 0, .int .i64 0, .int .i64 0, .int .i64 0, .int .i64 0, .bool false, .string ⟨#[]⟩, .string ⟨#[]⟩, .slice none 0 0] 26)) = W at *
  have l0 := hA.cell 9
  rw [(o.ats (.slice va m vc)).2.2.2.2.2.2.2.2.2.1] at l0
  have f0 := hA.frozen 9
  have hA2 := hA.set 9 (.int .i64 n)
  rw [cells_set_ack] at hA2
  have hZ2 := hZ.other ⟨w.heap.size, 9, none⟩ (.int .i64 n) (by simp)
  have hB2 := hB.setCell (p := ⟨w.heap.size, 9, none⟩) (by simp) (.int .i64 n)
  have hB3 := below_setRow (g := w.heap.size + 1) hB2 (by omega) (({ o with ack := n } : Ov).cells (.slice va m vc))
  have hZ3 := hZ2.row (({ o with ack := n } : Ov).cells (.slice va m vc))
  have one := ({ o with ack := n } : Ov).cells_one va m vc
  have hss : (#[.int .i64 0, .int .i64 0, .int .i64 0, .int .i64 0, .int .i64 0, .int .i64 0, .int .i64 0, .int .i64 0, .int .i64 0, .int .i64 0, .bool false, .string ⟨#[]⟩, .string ⟨#[]⟩, .slice none 0 0] : Array Value).size = (({ o with ack := n } : Ov).cells (.slice va m vc)).size := by rw [Ov.cells_size]; rfl
  have hl : (W.setCell ⟨w.heap.size, 9, none⟩ (.int .i64 n)).heap[w.heap.size]? = some (.cells (({ o with ack := n } : Ov).cells (.slice va m vc)) 26 (0, 0)) := hA2
  have hz : (W.setCell ⟨w.heap.size, 9, none⟩ (.int .i64 n)).heap[w.heap.size + 1]? = some (.cells #[.int .i64 0, .int .i64 0, .int .i64 0, .int .i64 0, .int .i64 0, .int .i64 0, .int .i64 0, .int .i64 0, .int .i64 0, .int .i64 0, .bool false, .string ⟨#[]⟩, .string ⟨#[]⟩, .slice none 0 0] 26 (0, 0)) := hZ2
  have HF := Lib.hid (And.intro hZ3 hB3)
  clear hA hZ hB hA2 hZ2 hB2 hB3 hZ3
  go_wp2_with (first | (with_reducible refine wpList_load_row rfl 26 _ rfl _ rfl 26 _ (0, 0) _ hl Try.underlying26 rfl (sizeOpt' _ _) ?_) | (with_reducible refine wpList_store_row rfl 26 _ _ rfl _ rfl _ rfl 26 _ hz (sizeOpt' _ _) hss one ?_))
  obtain ⟨hZ3, hB3⟩ := HF.out
  refine bodyPost_ret (Cel.result hZ3 rfl _ rfl Try.underlying26 rfl (sizeOpt' _ _)) rfl ⟨rfl, hB3⟩

theorem cells_set_seq (o : Ov) (v : Value) (n : Int) : (o.cells v).setIfInBounds 6 (.int .i64 n) = ({ o with seq := n } : Ov).cells v := by unfold Ov.cells; rfl

set_option maxRecDepth 100000 in
set_option maxHeartbeats 1000000 in
theorem put_seq (o : Ov) (va : Option Addr) (m vc : Nat) (n : Int) (x : ByteArray) (w : World) :
    Calls Try.prog 73 #[.agg (o.cells (.slice va m vc)), .int .u8 115, .int .i64 n, .string x] w fun e w' => e = .returned (.agg (({ o with seq := n } : Ov).cells (.slice va m vc))) ∧ Below w.heap.size w w' := by
  have hB : Below w.heap.size w ((w.alloc (.cells (o.cells (.slice va m vc)) 26)).alloc (.cells #[.int .i64 0, .int .i64 0, .int .i64 0, .int .i64 0, .int .i64 0, .int .i64 0, .int .i64 0, .int .i64 0, .int .i64 0, .int .i64 0, .bool false, .string ⟨#[]⟩, .string ⟨#[]⟩, .slice none 0 0] 26)) := ((Below.refl _ _).alloc (Nat.le_refl _) _).alloc (by simp) _
  have hA : Cel ((w.alloc (.cells (o.cells (.slice va m vc)) 26)).alloc (.cells #[.int .i64 0, .int .i64 0, .int .i64 0, .int .i64 0, .int .i64 0, .int .i64 0, .int .i64 0, .int .i64 0, .int .i64 0, .int .i64 0, .bool false, .string ⟨#[]⟩, .string ⟨#[]⟩, .slice none 0 0] 26)) w.heap.size 26 (o.cells (.slice va m vc)) := (Cel.new w _ _).alloc _
  have hZ : Cel ((w.alloc (.cells (o.cells (.slice va m vc)) 26)).alloc (.cells #[.int .i64 0, .int .i64 0, .int .i64 0, .int .i64 0, .int .i64 0, .int .i64 0, .int .i64 0, .int .i64 0, .int .i64 0, .int .i64 0, .bool false, .string ⟨#[]⟩, .string ⟨#[]⟩, .slice none 0 0] 26)) (w.heap.size + 1) 26 #[.int .i64 0, .int .i64 0, .int .i64 0, .int .i64 0, .int .i64 0, .int .i64 0, .int .i64 0, .int .i64 0, .int .i64 0, .int .i64 0, .bool false, .string ⟨#[]⟩, .string ⟨#[]⟩, .slice none 0 0] := by
    have := Cel.new (w.alloc (.cells (o.cells (.slice va m vc)) 26)) 26 #[.int .i64 0, .int .i64 0, .int .i64 0, .int .i64 0, .int .i64 0, .int .i64 0, .int .i64 0, .int .i64 0, .int .i64 0, .int .i64 0, .bool false, .string ⟨#[]⟩, .string ⟨#[]⟩, .slice none 0 0]
    rw [World.size_alloc] at this
    exact this
  go_enter Try.func73, Try.ntmps73
  go_upto_region 1 with (fail)
  generalize ((w.alloc (.cells (o.cells (.slice va m vc)) 26)).alloc (.cells #[.int .i64 0, .int .i64 0, .int .i64 0, .int .i64 0, .int .i64 0, .int .i64 0, .int .i64 0, .int .i64 0, .int .i64 0, .int .i64 0, .bool false, .string ⟨#[]⟩, .string ⟨#[]⟩, .slice none 0 0] 26)) = W at *
  have l0 := hA.cell 6
  rw [(o.ats (.slice va m vc)).2.2.2.2.2.2.1] at l0
  have f0 := hA.frozen 6
  have hA2 := hA.set 6 (.int .i64 n)
  rw [cells_set_seq] at hA2
  have hZ2 := hZ.other ⟨w.heap.size, 6, none⟩ (.int .i64 n) (by simp)
  have hB2 := hB.setCell (p := ⟨w.heap.size, 6, none⟩) (by simp) (.int .i64 n)
  have hB3 := below_setRow (g := w.heap.size + 1) hB2 (by omega) (({ o with seq := n } : Ov).cells (.slice va m vc))
  have hZ3 := hZ2.row (({ o with seq := n } : Ov).cells (.slice va m vc))
  have one := ({ o with seq := n } : Ov).cells_one va m vc
  have hss : (#[.int .i64 0, .int .i64 0, .int .i64 0, .int .i64 0, .int .i64 0, .int .i64 0, .int .i64 0, .int .i64 0, .int .i64 0, .int .i64 0, .bool false, .string ⟨#[]⟩, .string ⟨#[]⟩, .slice none 0 0] : Array Value).size = (({ o with seq := n } : Ov).cells (.slice va m vc)).size := by rw [Ov.cells_size]; rfl
  have hl : (W.setCell ⟨w.heap.size, 6, none⟩ (.int .i64 n)).heap[w.heap.size]? = some (.cells (({ o with seq := n } : Ov).cells (.slice va m vc)) 26 (0, 0)) := hA2
  have hz : (W.setCell ⟨w.heap.size, 6, none⟩ (.int .i64 n)).heap[w.heap.size + 1]? = some (.cells #[.int .i64 0, .int .i64 0, .int .i64 0, .int .i64 0, .int .i64 0, .int .i64 0, .int .i64 0, .int .i64 0, .int .i64 0, .int .i64 0, .bool false, .string ⟨#[]⟩, .string ⟨#[]⟩, .slice none 0 0] 26 (0, 0)) := hZ2
  have HF := Lib.hid (And.intro hZ3 hB3)
  clear hA hZ hB hA2 hZ2 hB2 hB3 hZ3
  go_wp2_with (first | (with_reducible refine wpList_load_row rfl 26 _ rfl _ rfl 26 _ (0, 0) _ hl Try.underlying26 rfl (sizeOpt' _ _) ?_) | (with_reducible refine wpList_store_row rfl 26 _ _ rfl _ rfl _ rfl 26 _ hz (sizeOpt' _ _) hss one ?_))
  obtain ⟨hZ3, hB3⟩ := HF.out
  refine bodyPost_ret (Cel.result hZ3 rfl _ rfl Try.underlying26 rfl (sizeOpt' _ _)) rfl ⟨rfl, hB3⟩

theorem cells_set_sub (o : Ov) (v : Value) (n : Int) : (o.cells v).setIfInBounds 7 (.int .i64 n) = ({ o with sub := n } : Ov).cells v := by unfold Ov.cells; rfl

set_option maxRecDepth 100000 in
set_option maxHeartbeats 1000000 in
theorem put_sub (o : Ov) (va : Option Addr) (m vc : Nat) (n : Int) (x : ByteArray) (w : World) :
    Calls Try.prog 73 #[.agg (o.cells (.slice va m vc)), .int .u8 117, .int .i64 n, .string x] w fun e w' => e = .returned (.agg (({ o with sub := n } : Ov).cells (.slice va m vc))) ∧ Below w.heap.size w w' := by
  have hB : Below w.heap.size w ((w.alloc (.cells (o.cells (.slice va m vc)) 26)).alloc (.cells #[.int .i64 0, .int .i64 0, .int .i64 0, .int .i64 0, .int .i64 0, .int .i64 0, .int .i64 0, .int .i64 0, .int .i64 0, .int .i64 0, .bool false, .string ⟨#[]⟩, .string ⟨#[]⟩, .slice none 0 0] 26)) := ((Below.refl _ _).alloc (Nat.le_refl _) _).alloc (by simp) _
  have hA : Cel ((w.alloc (.cells (o.cells (.slice va m vc)) 26)).alloc (.cells #[.int .i64 0, .int .i64 0, .int .i64 0, .int .i64 0, .int .i64 0, .int .i64 0, .int .i64 0, .int .i64 0, .int .i64 0, .int .i64 0, .bool false, .string ⟨#[]⟩, .string ⟨#[]⟩, .slice none 0 0] 26)) w.heap.size 26 (o.cells (.slice va m vc)) := (Cel.new w _ _).alloc _
  have hZ : Cel ((w.alloc (.cells (o.cells (.slice va m vc)) 26)).alloc (.cells #[.int .i64 0, .int .i64 0, .int .i64 0, .int .i64 0, .int .i64 0, .int .i64 0, .int .i64 0, .int .i64 0, .int .i64 0, .int .i64 0, .bool false, .string ⟨#[]⟩, .string ⟨#[]⟩, .slice none 0 0] 26)) (w.heap.size + 1) 26 #[.int .i64 0, .int .i64 0, .int .i64 0, .int .i64 0, .int .i64 0, .int .i64 0, .int .i64 0, .int .i64 0, .int .i64 0, .int .i64 0, .bool false, .string ⟨#[]⟩, .string ⟨#[]⟩, .slice none 0 0] := by
    have := Cel.new (w.alloc (.cells (o.cells (.slice va m vc)) 26)) 26 #[.int .i64 0, .int .i64 0, .int .i64 0, .int .i64 0, .int .i64 0, .int .i64 0, .int .i64 0, .int .i64 0, .int .i64 0, .int .i64 0, .bool false, .string ⟨#[]⟩, .string ⟨#[]⟩, .slice none 0 0]
    rw [World.size_alloc] at this
    exact this
  go_enter Try.func73, Try.ntmps73
  go_upto_region 1 with (fail)
  generalize ((w.alloc (.cells (o.cells (.slice va m vc)) 26)).alloc (.cells #[.int .i64 0, .int .i64 0, .int .i64 0, .int .i64 0, .int .i64 0, .int .i64 0, .int .i64 0, .int .i64 0, .int .i64 0, .int .i64 0, .bool false, .string ⟨#[]⟩, .string ⟨#[]⟩, .slice none 0 0] 26)) = W at *
  have l0 := hA.cell 7
  rw [(o.ats (.slice va m vc)).2.2.2.2.2.2.2.1] at l0
  have f0 := hA.frozen 7
  have hA2 := hA.set 7 (.int .i64 n)
  rw [cells_set_sub] at hA2
  have hZ2 := hZ.other ⟨w.heap.size, 7, none⟩ (.int .i64 n) (by simp)
  have hB2 := hB.setCell (p := ⟨w.heap.size, 7, none⟩) (by simp) (.int .i64 n)
  have hB3 := below_setRow (g := w.heap.size + 1) hB2 (by omega) (({ o with sub := n } : Ov).cells (.slice va m vc))
  have hZ3 := hZ2.row (({ o with sub := n } : Ov).cells (.slice va m vc))
  have one := ({ o with sub := n } : Ov).cells_one va m vc
  have hss : (#[.int .i64 0, .int .i64 0, .int .i64 0, .int .i64 0, .int .i64 0, .int .i64 0, .int .i64 0, .int .i64 0, .int .i64 0, .int .i64 0, .bool false, .string ⟨#[]⟩, .string ⟨#[]⟩, .slice none 0 0] : Array Value).size = (({ o with sub := n } : Ov).cells (.slice va m vc)).size := by rw [Ov.cells_size]; rfl
  have hl : (W.setCell ⟨w.heap.size, 7, none⟩ (.int .i64 n)).heap[w.heap.size]? = some (.cells (({ o with sub := n } : Ov).cells (.slice va m vc)) 26 (0, 0)) := hA2
  have hz : (W.setCell ⟨w.heap.size, 7, none⟩ (.int .i64 n)).heap[w.heap.size + 1]? = some (.cells #[.int .i64 0, .int .i64 0, .int .i64 0, .int .i64 0, .int .i64 0, .int .i64 0, .int .i64 0, .int .i64 0, .int .i64 0, .int .i64 0, .bool false, .string ⟨#[]⟩, .string ⟨#[]⟩, .slice none 0 0] 26 (0, 0)) := hZ2
  have HF := Lib.hid (And.intro hZ3 hB3)
  clear hA hZ hB hA2 hZ2 hB2 hB3 hZ3
  go_wp2_with (first | (with_reducible refine wpList_load_row rfl 26 _ rfl _ rfl 26 _ (0, 0) _ hl Try.underlying26 rfl (sizeOpt' _ _) ?_) | (with_reducible refine wpList_store_row rfl 26 _ _ rfl _ rfl _ rfl 26 _ hz (sizeOpt' _ _) hss one ?_))
  obtain ⟨hZ3, hB3⟩ := HF.out
  refine bodyPost_ret (Cel.result hZ3 rfl _ rfl Try.underlying26 rfl (sizeOpt' _ _)) rfl ⟨rfl, hB3⟩

theorem cells_set_len (o : Ov) (v : Value) (n : Int) : (o.cells v).setIfInBounds 8 (.int .i64 n) = ({ o with len := n } : Ov).cells v := by unfold Ov.cells; rfl

set_option maxRecDepth 100000 in
set_option maxHeartbeats 1000000 in
theorem put_len (o : Ov) (va : Option Addr) (m vc : Nat) (n : Int) (x : ByteArray) (w : World) :
    Calls Try.prog 73 #[.agg (o.cells (.slice va m vc)), .int .u8 108, .int .i64 n, .string x] w fun e w' => e = .returned (.agg (({ o with len := n } : Ov).cells (.slice va m vc))) ∧ Below w.heap.size w w' := by
  have hB : Below w.heap.size w ((w.alloc (.cells (o.cells (.slice va m vc)) 26)).alloc (.cells #[.int .i64 0, .int .i64 0, .int .i64 0, .int .i64 0, .int .i64 0, .int .i64 0, .int .i64 0, .int .i64 0, .int .i64 0, .int .i64 0, .bool false, .string ⟨#[]⟩, .string ⟨#[]⟩, .slice none 0 0] 26)) := ((Below.refl _ _).alloc (Nat.le_refl _) _).alloc (by simp) _
  have hA : Cel ((w.alloc (.cells (o.cells (.slice va m vc)) 26)).alloc (.cells #[.int .i64 0, .int .i64 0, .int .i64 0, .int .i64 0, .int .i64 0, .int .i64 0, .int .i64 0, .int .i64 0, .int .i64 0, .int .i64 0, .bool false, .string ⟨#[]⟩, .string ⟨#[]⟩, .slice none 0 0] 26)) w.heap.size 26 (o.cells (.slice va m vc)) := (Cel.new w _ _).alloc _
  have hZ : Cel ((w.alloc (.cells (o.cells (.slice va m vc)) 26)).alloc (.cells #[.int .i64 0, .int .i64 0, .int .i64 0, .int .i64 0, .int .i64 0, .int .i64 0, .int .i64 0, .int .i64 0, .int .i64 0, .int .i64 0, .bool false, .string ⟨#[]⟩, .string ⟨#[]⟩, .slice none 0 0] 26)) (w.heap.size + 1) 26 #[.int .i64 0, .int .i64 0, .int .i64 0, .int .i64 0, .int .i64 0, .int .i64 0, .int .i64 0, .int .i64 0, .int .i64 0, .int .i64 0, .bool false, .string ⟨#[]⟩, .string ⟨#[]⟩, .slice none 0 0] := by
    have := Cel.new (w.alloc (.cells (o.cells (.slice va m vc)) 26)) 26 #[.int .i64 0, .int .i64 0, .int .i64 0, .int .i64 0, .int .i64 0, .int .i64 0, .int .i64 0, .int .i64 0, .int .i64 0, .int .i64 0, .bool false, .string ⟨#[]⟩, .string ⟨#[]⟩, .slice none 0 0]
    rw [World.size_alloc] at this
    exact this
  go_enter Try.func73, Try.ntmps73
  go_upto_region 1 with (fail)
  generalize ((w.alloc (.cells (o.cells (.slice va m vc)) 26)).alloc (.cells #[.int .i64 0, .int .i64 0, .int .i64 0, .int .i64 0, .int .i64 0, .int .i64 0, .int .i64 0, .int .i64 0, .int .i64 0, .int .i64 0, .bool false, .string ⟨#[]⟩, .string ⟨#[]⟩, .slice none 0 0] 26)) = W at *
  have l0 := hA.cell 8
  rw [(o.ats (.slice va m vc)).2.2.2.2.2.2.2.2.1] at l0
  have f0 := hA.frozen 8
  have hA2 := hA.set 8 (.int .i64 n)
  rw [cells_set_len] at hA2
  have hZ2 := hZ.other ⟨w.heap.size, 8, none⟩ (.int .i64 n) (by simp)
  have hB2 := hB.setCell (p := ⟨w.heap.size, 8, none⟩) (by simp) (.int .i64 n)
  have hB3 := below_setRow (g := w.heap.size + 1) hB2 (by omega) (({ o with len := n } : Ov).cells (.slice va m vc))
  have hZ3 := hZ2.row (({ o with len := n } : Ov).cells (.slice va m vc))
  have one := ({ o with len := n } : Ov).cells_one va m vc
  have hss : (#[.int .i64 0, .int .i64 0, .int .i64 0, .int .i64 0, .int .i64 0, .int .i64 0, .int .i64 0, .int .i64 0, .int .i64 0, .int .i64 0, .bool false, .string ⟨#[]⟩, .string ⟨#[]⟩, .slice none 0 0] : Array Value).size = (({ o with len := n } : Ov).cells (.slice va m vc)).size := by rw [Ov.cells_size]; rfl
  have hl : (W.setCell ⟨w.heap.size, 8, none⟩ (.int .i64 n)).heap[w.heap.size]? = some (.cells (({ o with len := n } : Ov).cells (.slice va m vc)) 26 (0, 0)) := hA2
  have hz : (W.setCell ⟨w.heap.size, 8, none⟩ (.int .i64 n)).heap[w.heap.size + 1]? = some (.cells #[.int .i64 0, .int .i64 0, .int .i64 0, .int .i64 0, .int .i64 0, .int .i64 0, .int .i64 0, .int .i64 0, .int .i64 0, .int .i64 0, .bool false, .string ⟨#[]⟩, .string ⟨#[]⟩, .slice none 0 0] 26 (0, 0)) := hZ2
  have HF := Lib.hid (And.intro hZ3 hB3)
  clear hA hZ hB hA2 hZ2 hB2 hB3 hZ3
  go_wp2_with (first | (with_reducible refine wpList_load_row rfl 26 _ rfl _ rfl 26 _ (0, 0) _ hl Try.underlying26 rfl (sizeOpt' _ _) ?_) | (with_reducible refine wpList_store_row rfl 26 _ _ rfl _ rfl _ rfl 26 _ hz (sizeOpt' _ _) hss one ?_))
  obtain ⟨hZ3, hB3⟩ := HF.out
  refine bodyPost_ret (Cel.result hZ3 rfl _ rfl Try.underlying26 rfl (sizeOpt' _ _)) rfl ⟨rfl, hB3⟩

theorem cells_set_addr (o : Ov) (v : Value) (n : Int) : (o.cells v).setIfInBounds 2 (.int .i64 n) = ({ o with addr := n } : Ov).cells v := by unfold Ov.cells; rfl

set_option maxRecDepth 100000 in
set_option maxHeartbeats 1000000 in
theorem put_addr (o : Ov) (va : Option Addr) (m vc : Nat) (n : Int) (x : ByteArray) (w : World) :
    Calls Try.prog 73 #[.agg (o.cells (.slice va m vc)), .int .u8 100, .int .i64 n, .string x] w fun e w' => e = .returned (.agg (({ o with addr := n } : Ov).cells (.slice va m vc))) ∧ Below w.heap.size w w' := by
  have hB : Below w.heap.size w ((w.alloc (.cells (o.cells (.slice va m vc)) 26)).alloc (.cells #[.int .i64 0, .int .i64 0, .int .i64 0, .int .i64 0, .int .i64 0, .int .i64 0, .int .i64 0, .int .i64 0, .int .i64 0, .int .i64 0, .bool false, .string ⟨#[]⟩, .string ⟨#[]⟩, .slice none 0 0] 26)) := ((Below.refl _ _).alloc (Nat.le_refl _) _).alloc (by simp) _
  have hA : Cel ((w.alloc (.cells (o.cells (.slice va m vc)) 26)).alloc (.cells #[.int .i64 0, .int .i64 0, .int .i64 0, .int .i64 0, .int .i64 0, .int .i64 0, .int .i64 0, .int .i64 0, .int .i64 0, .int .i64 0, .bool false, .string ⟨#[]⟩, .string ⟨#[]⟩, .slice none 0 0] 26)) w.heap.size 26 (o.cells (.slice va m vc)) := (Cel.new w _ _).alloc _
  have hZ : Cel ((w.alloc (.cells (o.cells (.slice va m vc)) 26)).alloc (.cells #[.int .i64 0, .int .i64 0, .int .i64 0, .int .i64 0, .int .i64 0, .int .i64 0, .int .i64 0, .int .i64 0, .int .i64 0, .int .i64 0, .bool false, .string ⟨#[]⟩, .string ⟨#[]⟩, .slice none 0 0] 26)) (w.heap.size + 1) 26 #[.int .i64 0, .int .i64 0, .int .i64 0, .int .i64 0, .int .i64 0, .int .i64 0, .int .i64 0, .int .i64 0, .int .i64 0, .int .i64 0, .bool false, .string ⟨#[]⟩, .string ⟨#[]⟩, .slice none 0 0] := by
    have := Cel.new (w.alloc (.cells (o.cells (.slice va m vc)) 26)) 26 #[.int .i64 0, .int .i64 0, .int .i64 0, .int .i64 0, .int .i64 0, .int .i64 0, .int .i64 0, .int .i64 0, .int .i64 0, .int .i64 0, .bool false, .string ⟨#[]⟩, .string ⟨#[]⟩, .slice none 0 0]
    rw [World.size_alloc] at this
    exact this
  go_enter Try.func73, Try.ntmps73
  go_upto_region 1 with (fail)
  generalize ((w.alloc (.cells (o.cells (.slice va m vc)) 26)).alloc (.cells #[.int .i64 0, .int .i64 0, .int .i64 0, .int .i64 0, .int .i64 0, .int .i64 0, .int .i64 0, .int .i64 0, .int .i64 0, .int .i64 0, .bool false, .string ⟨#[]⟩, .string ⟨#[]⟩, .slice none 0 0] 26)) = W at *
  have l0 := hA.cell 2
  rw [(o.ats (.slice va m vc)).2.2.1] at l0
  have f0 := hA.frozen 2
  have hA2 := hA.set 2 (.int .i64 n)
  rw [cells_set_addr] at hA2
  have hZ2 := hZ.other ⟨w.heap.size, 2, none⟩ (.int .i64 n) (by simp)
  have hB2 := hB.setCell (p := ⟨w.heap.size, 2, none⟩) (by simp) (.int .i64 n)
  have hB3 := below_setRow (g := w.heap.size + 1) hB2 (by omega) (({ o with addr := n } : Ov).cells (.slice va m vc))
  have hZ3 := hZ2.row (({ o with addr := n } : Ov).cells (.slice va m vc))
  have one := ({ o with addr := n } : Ov).cells_one va m vc
  have hss : (#[.int .i64 0, .int .i64 0, .int .i64 0, .int .i64 0, .int .i64 0, .int .i64 0, .int .i64 0, .int .i64 0, .int .i64 0, .int .i64 0, .bool false, .string ⟨#[]⟩, .string ⟨#[]⟩, .slice none 0 0] : Array Value).size = (({ o with addr := n } : Ov).cells (.slice va m vc)).size := by rw [Ov.cells_size]; rfl
  have hl : (W.setCell ⟨w.heap.size, 2, none⟩ (.int .i64 n)).heap[w.heap.size]? = some (.cells (({ o with addr := n } : Ov).cells (.slice va m vc)) 26 (0, 0)) := hA2
  have hz : (W.setCell ⟨w.heap.size, 2, none⟩ (.int .i64 n)).heap[w.heap.size + 1]? = some (.cells #[.int .i64 0, .int .i64 0, .int .i64 0, .int .i64 0, .int .i64 0, .int .i64 0, .int .i64 0, .int .i64 0, .int .i64 0, .int .i64 0, .bool false, .string ⟨#[]⟩, .string ⟨#[]⟩, .slice none 0 0] 26 (0, 0)) := hZ2
  have HF := Lib.hid (And.intro hZ3 hB3)
  clear hA hZ hB hA2 hZ2 hB2 hB3 hZ3
  go_wp2_with (first | (with_reducible refine wpList_load_row rfl 26 _ rfl _ rfl 26 _ (0, 0) _ hl Try.underlying26 rfl (sizeOpt' _ _) ?_) | (with_reducible refine wpList_store_row rfl 26 _ _ rfl _ rfl _ rfl 26 _ hz (sizeOpt' _ _) hss one ?_))
  obtain ⟨hZ3, hB3⟩ := HF.out
  refine bodyPost_ret (Cel.result hZ3 rfl _ rfl Try.underlying26 rfl (sizeOpt' _ _)) rfl ⟨rfl, hB3⟩

theorem cells_set_port (o : Ov) (v : Value) (n : Int) : (o.cells v).setIfInBounds 3 (.int .i64 n) = ({ o with port := n } : Ov).cells v := by unfold Ov.cells; rfl

set_option maxRecDepth 100000 in
set_option maxHeartbeats 1000000 in
theorem put_port (o : Ov) (va : Option Addr) (m vc : Nat) (n : Int) (x : ByteArray) (w : World) :
    Calls Try.prog 73 #[.agg (o.cells (.slice va m vc)), .int .u8 112, .int .i64 n, .string x] w fun e w' => e = .returned (.agg (({ o with port := n } : Ov).cells (.slice va m vc))) ∧ Below w.heap.size w w' := by
  have hB : Below w.heap.size w ((w.alloc (.cells (o.cells (.slice va m vc)) 26)).alloc (.cells #[.int .i64 0, .int .i64 0, .int .i64 0, .int .i64 0, .int .i64 0, .int .i64 0, .int .i64 0, .int .i64 0, .int .i64 0, .int .i64 0, .bool false, .string ⟨#[]⟩, .string ⟨#[]⟩, .slice none 0 0] 26)) := ((Below.refl _ _).alloc (Nat.le_refl _) _).alloc (by simp) _
  have hA : Cel ((w.alloc (.cells (o.cells (.slice va m vc)) 26)).alloc (.cells #[.int .i64 0, .int .i64 0, .int .i64 0, .int .i64 0, .int .i64 0, .int .i64 0, .int .i64 0, .int .i64 0, .int .i64 0, .int .i64 0, .bool false, .string ⟨#[]⟩, .string ⟨#[]⟩, .slice none 0 0] 26)) w.heap.size 26 (o.cells (.slice va m vc)) := (Cel.new w _ _).alloc _
  have hZ : Cel ((w.alloc (.cells (o.cells (.slice va m vc)) 26)).alloc (.cells #[.int .i64 0, .int .i64 0, .int .i64 0, .int .i64 0, .int .i64 0, .int .i64 0, .int .i64 0, .int .i64 0, .int .i64 0, .int .i64 0, .bool false, .string ⟨#[]⟩, .string ⟨#[]⟩, .slice none 0 0] 26)) (w.heap.size + 1) 26 #[.int .i64 0, .int .i64 0, .int .i64 0, .int .i64 0, .int .i64 0, .int .i64 0, .int .i64 0, .int .i64 0, .int .i64 0, .int .i64 0, .bool false, .string ⟨#[]⟩, .string ⟨#[]⟩, .slice none 0 0] := by
    have := Cel.new (w.alloc (.cells (o.cells (.slice va m vc)) 26)) 26 #[.int .i64 0, .int .i64 0, .int .i64 0, .int .i64 0, .int .i64 0, .int .i64 0, .int .i64 0, .int .i64 0, .int .i64 0, .int .i64 0, .bool false, .string ⟨#[]⟩, .string ⟨#[]⟩, .slice none 0 0]
    rw [World.size_alloc] at this
    exact this
  go_enter Try.func73, Try.ntmps73
  go_upto_region 1 with (fail)
  generalize ((w.alloc (.cells (o.cells (.slice va m vc)) 26)).alloc (.cells #[.int .i64 0, .int .i64 0, .int .i64 0, .int .i64 0, .int .i64 0, .int .i64 0, .int .i64 0, .int .i64 0, .int .i64 0, .int .i64 0, .bool false, .string ⟨#[]⟩, .string ⟨#[]⟩, .slice none 0 0] 26)) = W at *
  have l0 := hA.cell 3
  rw [(o.ats (.slice va m vc)).2.2.2.1] at l0
  have f0 := hA.frozen 3
  have hA2 := hA.set 3 (.int .i64 n)
  rw [cells_set_port] at hA2
  have hZ2 := hZ.other ⟨w.heap.size, 3, none⟩ (.int .i64 n) (by simp)
  have hB2 := hB.setCell (p := ⟨w.heap.size, 3, none⟩) (by simp) (.int .i64 n)
  have hB3 := below_setRow (g := w.heap.size + 1) hB2 (by omega) (({ o with port := n } : Ov).cells (.slice va m vc))
  have hZ3 := hZ2.row (({ o with port := n } : Ov).cells (.slice va m vc))
  have one := ({ o with port := n } : Ov).cells_one va m vc
  have hss : (#[.int .i64 0, .int .i64 0, .int .i64 0, .int .i64 0, .int .i64 0, .int .i64 0, .int .i64 0, .int .i64 0, .int .i64 0, .int .i64 0, .bool false, .string ⟨#[]⟩, .string ⟨#[]⟩, .slice none 0 0] : Array Value).size = (({ o with port := n } : Ov).cells (.slice va m vc)).size := by rw [Ov.cells_size]; rfl
  have hl : (W.setCell ⟨w.heap.size, 3, none⟩ (.int .i64 n)).heap[w.heap.size]? = some (.cells (({ o with port := n } : Ov).cells (.slice va m vc)) 26 (0, 0)) := hA2
  have hz : (W.setCell ⟨w.heap.size, 3, none⟩ (.int .i64 n)).heap[w.heap.size + 1]? = some (.cells #[.int .i64 0, .int .i64 0, .int .i64 0, .int .i64 0, .int .i64 0, .int .i64 0, .int .i64 0, .int .i64 0, .int .i64 0, .int .i64 0, .bool false, .string ⟨#[]⟩, .string ⟨#[]⟩, .slice none 0 0] 26 (0, 0)) := hZ2
  have HF := Lib.hid (And.intro hZ3 hB3)
  clear hA hZ hB hA2 hZ2 hB2 hB3 hZ3
  go_wp2_with (first | (with_reducible refine wpList_load_row rfl 26 _ rfl _ rfl 26 _ (0, 0) _ hl Try.underlying26 rfl (sizeOpt' _ _) ?_) | (with_reducible refine wpList_store_row rfl 26 _ _ rfl _ rfl _ rfl 26 _ hz (sizeOpt' _ _) hss one ?_))
  obtain ⟨hZ3, hB3⟩ := HF.out
  refine bodyPost_ret (Cel.result hZ3 rfl _ rfl Try.underlying26 rfl (sizeOpt' _ _)) rfl ⟨rfl, hB3⟩

theorem cells_set_key (o : Ov) (v : Value) (x : ByteArray) : (o.cells v).setIfInBounds 11 (.string x) = ({ o with key := x } : Ov).cells v := by unfold Ov.cells; rfl

set_option maxRecDepth 100000 in
set_option maxHeartbeats 1000000 in
theorem put_key (o : Ov) (va : Option Addr) (m vc : Nat) (n : Int) (x : ByteArray) (w : World) :
    Calls Try.prog 73 #[.agg (o.cells (.slice va m vc)), .int .u8 107, .int .i64 n, .string x] w fun e w' => e = .returned (.agg (({ o with key := x } : Ov).cells (.slice va m vc))) ∧ Below w.heap.size w w' := by
  have hB : Below w.heap.size w ((w.alloc (.cells (o.cells (.slice va m vc)) 26)).alloc (.cells #[.int .i64 0, .int .i64 0, .int .i64 0, .int .i64 0, .int .i64 0, .int .i64 0, .int .i64 0, .int .i64 0, .int .i64 0, .int .i64 0, .bool false, .string ⟨#[]⟩, .string ⟨#[]⟩, .slice none 0 0] 26)) := ((Below.refl _ _).alloc (Nat.le_refl _) _).alloc (by simp) _
  have hA : Cel ((w.alloc (.cells (o.cells (.slice va m vc)) 26)).alloc (.cells #[.int .i64 0, .int .i64 0, .int .i64 0, .int .i64 0, .int .i64 0, .int .i64 0, .int .i64 0, .int .i64 0, .int .i64 0, .int .i64 0, .bool false, .string ⟨#[]⟩, .string ⟨#[]⟩, .slice none 0 0] 26)) w.heap.size 26 (o.cells (.slice va m vc)) := (Cel.new w _ _).alloc _
  have hZ : Cel ((w.alloc (.cells (o.cells (.slice va m vc)) 26)).alloc (.cells #[.int .i64 0, .int .i64 0, .int .i64 0, .int .i64 0, .int .i64 0, .int .i64 0, .int .i64 0, .int .i64 0, .int .i64 0, .int .i64 0, .bool false, .string ⟨#[]⟩, .string ⟨#[]⟩, .slice none 0 0] 26)) (w.heap.size + 1) 26 #[.int .i64 0, .int .i64 0, .int .i64 0, .int .i64 0, .int .i64 0, .int .i64 0, .int .i64 0, .int .i64 0, .int .i64 0, .int .i64 0, .bool false, .string ⟨#[]⟩, .string ⟨#[]⟩, .slice none 0 0] := by
    have := Cel.new (w.alloc (.cells (o.cells (.slice va m vc)) 26)) 26 #[.int .i64 0, .int .i64 0, .int .i64 0, .int .i64 0, .int .i64 0, .int .i64 0, .int .i64 0, .int .i64 0, .int .i64 0, .int .i64 0, .bool false, .string ⟨#[]⟩, .string ⟨#[]⟩, .slice none 0 0]
    rw [World.size_alloc] at this
    exact this
  go_enter Try.func73, Try.ntmps73
  go_upto_region 1 with (fail)
  generalize ((w.alloc (.cells (o.cells (.slice va m vc)) 26)).alloc (.cells #[.int .i64 0, .int .i64 0, .int .i64 0, .int .i64 0, .int .i64 0, .int .i64 0, .int .i64 0, .int .i64 0, .int .i64 0, .int .i64 0, .bool false, .string ⟨#[]⟩, .string ⟨#[]⟩, .slice none 0 0] 26)) = W at *
  have l0 := hA.cell 11
  rw [(o.ats (.slice va m vc)).2.2.2.2.2.2.2.2.2.2.2.1] at l0
  have f0 := hA.frozen 11
  have hA2 := hA.set 11 (.string x)
  rw [cells_set_key] at hA2
  have hZ2 := hZ.other ⟨w.heap.size, 11, none⟩ (.string x) (by simp)
  have hB2 := hB.setCell (p := ⟨w.heap.size, 11, none⟩) (by simp) (.string x)
  have hB3 := below_setRow (g := w.heap.size + 1) hB2 (by omega) (({ o with key := x } : Ov).cells (.slice va m vc))
  have hZ3 := hZ2.row (({ o with key := x } : Ov).cells (.slice va m vc))
  have one := ({ o with key := x } : Ov).cells_one va m vc
  have hss : (#[.int .i64 0, .int .i64 0, .int .i64 0, .int .i64 0, .int .i64 0, .int .i64 0, .int .i64 0, .int .i64 0, .int .i64 0, .int .i64 0, .bool false, .string ⟨#[]⟩, .string ⟨#[]⟩, .slice none 0 0] : Array Value).size = (({ o with key := x } : Ov).cells (.slice va m vc)).size := by rw [Ov.cells_size]; rfl
  have hl : (W.setCell ⟨w.heap.size, 11, none⟩ (.string x)).heap[w.heap.size]? = some (.cells (({ o with key := x } : Ov).cells (.slice va m vc)) 26 (0, 0)) := hA2
  have hz : (W.setCell ⟨w.heap.size, 11, none⟩ (.string x)).heap[w.heap.size + 1]? = some (.cells #[.int .i64 0, .int .i64 0, .int .i64 0, .int .i64 0, .int .i64 0, .int .i64 0, .int .i64 0, .int .i64 0, .int .i64 0, .int .i64 0, .bool false, .string ⟨#[]⟩, .string ⟨#[]⟩, .slice none 0 0] 26 (0, 0)) := hZ2
  have HF := Lib.hid (And.intro hZ3 hB3)
  clear hA hZ hB hA2 hZ2 hB2 hB3 hZ3
  go_wp2_with (first | (with_reducible refine wpList_load_row rfl 26 _ rfl _ rfl 26 _ (0, 0) _ hl Try.underlying26 rfl (sizeOpt' _ _) ?_) | (with_reducible refine wpList_store_row rfl 26 _ _ rfl _ rfl _ rfl 26 _ hz (sizeOpt' _ _) hss one ?_))
  obtain ⟨hZ3, hB3⟩ := HF.out
  refine bodyPost_ret (Cel.result hZ3 rfl _ rfl Try.underlying26 rfl (sizeOpt' _ _)) rfl ⟨rfl, hB3⟩

theorem cells_set_mark (o : Ov) (v : Value) (x : ByteArray) : (o.cells v).setIfInBounds 12 (.string x) = ({ o with mark := x } : Ov).cells v := by unfold Ov.cells; rfl

set_option maxRecDepth 100000 in
set_option maxHeartbeats 1000000 in
theorem put_mark (o : Ov) (va : Option Addr) (m vc : Nat) (n : Int) (x : ByteArray) (w : World) :
    Calls Try.prog 73 #[.agg (o.cells (.slice va m vc)), .int .u8 109, .int .i64 n, .string x] w fun e w' => e = .returned (.agg (({ o with mark := x } : Ov).cells (.slice va m vc))) ∧ Below w.heap.size w w' := by
  have hB : Below w.heap.size w ((w.alloc (.cells (o.cells (.slice va m vc)) 26)).alloc (.cells #[.int .i64 0, .int .i64 0, .int .i64 0, .int .i64 0, .int .i64 0, .int .i64 0, .int .i64 0, .int .i64 0, .int .i64 0, .int .i64 0, .bool false, .string ⟨#[]⟩, .string ⟨#[]⟩, .slice none 0 0] 26)) := ((Below.refl _ _).alloc (Nat.le_refl _) _).alloc (by simp) _
  have hA : Cel ((w.alloc (.cells (o.cells (.slice va m vc)) 26)).alloc (.cells #[.int .i64 0, .int .i64 0, .int .i64 0, .int .i64 0, .int .i64 0, .int .i64 0, .int .i64 0, .int .i64 0, .int .i64 0, .int .i64 0, .bool false, .string ⟨#[]⟩, .string ⟨#[]⟩, .slice none 0 0] 26)) w.heap.size 26 (o.cells (.slice va m vc)) := (Cel.new w _ _).alloc _
  have hZ : Cel ((w.alloc (.cells (o.cells (.slice va m vc)) 26)).alloc (.cells #[.int .i64 0, .int .i64 0, .int .i64 0, .int .i64 0, .int .i64 0, .int .i64 0, .int .i64 0, .int .i64 0, .int .i64 0, .int .i64 0, .bool false, .string ⟨#[]⟩, .string ⟨#[]⟩, .slice none 0 0] 26)) (w.heap.size + 1) 26 #[.int .i64 0, .int .i64 0, .int .i64 0, .int .i64 0, .int .i64 0, .int .i64 0, .int .i64 0, .int .i64 0, .int .i64 0, .int .i64 0, .bool false, .string ⟨#[]⟩, .string ⟨#[]⟩, .slice none 0 0] := by
    have := Cel.new (w.alloc (.cells (o.cells (.slice va m vc)) 26)) 26 #[.int .i64 0, .int .i64 0, .int .i64 0, .int .i64 0, .int .i64 0, .int .i64 0, .int .i64 0, .int .i64 0, .int .i64 0, .int .i64 0, .bool false, .string ⟨#[]⟩, .string ⟨#[]⟩, .slice none 0 0]
    rw [World.size_alloc] at this
    exact this
  go_enter Try.func73, Try.ntmps73
  go_upto_region 1 with (fail)
  generalize ((w.alloc (.cells (o.cells (.slice va m vc)) 26)).alloc (.cells #[.int .i64 0, .int .i64 0, .int .i64 0, .int .i64 0, .int .i64 0, .int .i64 0, .int .i64 0, .int .i64 0, .int .i64 0, .int .i64 0, .bool false, .string ⟨#[]⟩, .string ⟨#[]⟩, .slice none 0 0] 26)) = W at *
  have l0 := hA.cell 12
  rw [(o.ats (.slice va m vc)).2.2.2.2.2.2.2.2.2.2.2.2.1] at l0
  have f0 := hA.frozen 12
  have hA2 := hA.set 12 (.string x)
  rw [cells_set_mark] at hA2
  have hZ2 := hZ.other ⟨w.heap.size, 12, none⟩ (.string x) (by simp)
  have hB2 := hB.setCell (p := ⟨w.heap.size, 12, none⟩) (by simp) (.string x)
  have hB3 := below_setRow (g := w.heap.size + 1) hB2 (by omega) (({ o with mark := x } : Ov).cells (.slice va m vc))
  have hZ3 := hZ2.row (({ o with mark := x } : Ov).cells (.slice va m vc))
  have one := ({ o with mark := x } : Ov).cells_one va m vc
  have hss : (#[.int .i64 0, .int .i64 0, .int .i64 0, .int .i64 0, .int .i64 0, .int .i64 0, .int .i64 0, .int .i64 0, .int .i64 0, .int .i64 0, .bool false, .string ⟨#[]⟩, .string ⟨#[]⟩, .slice none 0 0] : Array Value).size = (({ o with mark := x } : Ov).cells (.slice va m vc)).size := by rw [Ov.cells_size]; rfl
  have hl : (W.setCell ⟨w.heap.size, 12, none⟩ (.string x)).heap[w.heap.size]? = some (.cells (({ o with mark := x } : Ov).cells (.slice va m vc)) 26 (0, 0)) := hA2
  have hz : (W.setCell ⟨w.heap.size, 12, none⟩ (.string x)).heap[w.heap.size + 1]? = some (.cells #[.int .i64 0, .int .i64 0, .int .i64 0, .int .i64 0, .int .i64 0, .int .i64 0, .int .i64 0, .int .i64 0, .int .i64 0, .int .i64 0, .bool false, .string ⟨#[]⟩, .string ⟨#[]⟩, .slice none 0 0] 26 (0, 0)) := hZ2
  have HF := Lib.hid (And.intro hZ3 hB3)
  clear hA hZ hB hA2 hZ2 hB2 hB3 hZ3
  go_wp2_with (first | (with_reducible refine wpList_load_row rfl 26 _ rfl _ rfl 26 _ (0, 0) _ hl Try.underlying26 rfl (sizeOpt' _ _) ?_) | (with_reducible refine wpList_store_row rfl 26 _ _ rfl _ rfl _ rfl 26 _ hz (sizeOpt' _ _) hss one ?_))
  obtain ⟨hZ3, hB3⟩ := HF.out
  refine bodyPost_ret (Cel.result hZ3 rfl _ rfl Try.underlying26 rfl (sizeOpt' _ _)) rfl ⟨rfl, hB3⟩


/-- A letter of a shape. -/
def isLet (b : Int) : Prop := b = 105 ∨ b = 102 ∨ b = 116 ∨ b = 110 ∨ b = 97 ∨ b = 115 ∨ b = 117 ∨ b = 108 ∨ b = 100 ∨ b = 112 ∨ b = 107 ∨ b = 109
theorem spec_put (o : Ov) (va : Option Addr) (m vc : Nat) (b n : Int) (x : ByteArray) (w : World) (hb : isLet b) :
    Calls Try.prog 73 #[.agg (o.cells (.slice va m vc)), .int .u8 b, .int .i64 n, .string x] w fun e w' => e = .returned (.agg ((putL o b n x).cells (.slice va m vc))) ∧ Below w.heap.size w w' := by
  rcases hb with rfl | rfl | rfl | rfl | rfl | rfl | rfl | rfl | rfl | rfl | rfl | rfl
  · exact put_id o va m vc n x w
  · exact put_flag o va m vc n x w
  · exact put_token o va m vc n x w
  · exact put_nonce o va m vc n x w
  · exact put_ack o va m vc n x w
  · exact put_seq o va m vc n x w
  · exact put_sub o va m vc n x w
  · exact put_len o va m vc n x w
  · exact put_addr o va m vc n x w
  · exact put_port o va m vc n x w
  · exact put_key o va m vc n x w
  · exact put_mark o va m vc n x w

theorem shN_out (k : Int) (h : ¬ (1 ≤ k ∧ k ≤ 10)) : shN k = 0 := by
  unfold shN shapeOf
  repeat' split
  all_goals first | omega | rfl
theorem let_ok (k : Int) (j : Nat) (hj : j < shN k) : isLet (letOf (shapeOf k) j) := by
  have h4 := (shape_even k).2
  by_cases h : 1 ≤ k ∧ k ≤ 10
  · rcases kind_ten k h with rfl | rfl | rfl | rfl | rfl | rfl | rfl | rfl | rfl | rfl
    all_goals
      have hc : j = 0 ∨ j = 1 ∨ j = 2 ∨ j = 3 := by omega
      rcases hc with rfl | rfl | rfl | rfl
      all_goals (revert hj; unfold isLet; decide +kernel)
  · rw [shN_out k h] at hj
    omega
theorem putL_ids (o : Ov) (b n : Int) (x : ByteArray) : (putL o b n x).ids = o.ids := by
  unfold putL
  by_cases h105 : b = 105
  · rw [if_pos h105]
  rw [if_neg h105]
  by_cases h102 : b = 102
  · rw [if_pos h102]
  rw [if_neg h102]
  by_cases h116 : b = 116
  · rw [if_pos h116]
  rw [if_neg h116]
  by_cases h110 : b = 110
  · rw [if_pos h110]
  rw [if_neg h110]
  by_cases h97 : b = 97
  · rw [if_pos h97]
  rw [if_neg h97]
  by_cases h115 : b = 115
  · rw [if_pos h115]
  rw [if_neg h115]
  by_cases h117 : b = 117
  · rw [if_pos h117]
  rw [if_neg h117]
  by_cases h108 : b = 108
  · rw [if_pos h108]
  rw [if_neg h108]
  by_cases h100 : b = 100
  · rw [if_pos h100]
  rw [if_neg h100]
  by_cases h112 : b = 112
  · rw [if_pos h112]
  rw [if_neg h112]
  by_cases h107 : b = 107
  · rw [if_pos h107]
  rw [if_neg h107]
  by_cases h109 : b = 109
  · rw [if_pos h109]
  rw [if_neg h109]
theorem candUp_ids (k0 : Int) (t sh : ByteArray) (k : Nat) : (candUp k0 t sh k).ids = [] := by
  induction k with
  | zero => rw [candUp_zero]; rfl
  | succ k ih => rw [candUp_succ, putL_ids, ih]
end Go.Proofs.Ytkpajakangaekab
