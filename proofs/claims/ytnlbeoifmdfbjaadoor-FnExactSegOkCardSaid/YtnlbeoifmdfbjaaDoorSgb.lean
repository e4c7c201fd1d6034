import Derived.Test.YtnlbeoifmdfbjaaDoorSgs
import Derived.Test.YtnlbeoifmdfbjaaDoorSok
import Derived.Test.YtnlbeoifmdfbjaaDoorOty
namespace Go.Proofs.YtnlbeoifmdfbjaaDoor
open Go.RowKit
attribute [-go_sem] loadCells loadCellsFrom

def limTx (n most w : Int) : ByteArray := if most < n then ⟨#[]⟩ else numText n w
theorem limTx_le (n most w : Int) : (limTx n most w).size ≤ 6 := by
  unfold limTx
  split
  · show 0 ≤ 6; omega
  · exact numTx_le n w

theorem impl_lim (n most w : Int) (W : World) :
    Calls Tryd.prog 25 #[.int .i64 n, .int .i64 most, .int .i64 w] W fun e w' => e = .returned (.string (limTx n most w)) ∧ Below W.heap.size W w' := by
  unfold limTx
  by_cases h : most < n
  · rw [if_pos h]
    go_enter Tryd.func25, Tryd.ntmps25
    go_wp2_with (fail)
    go_ret
    exact ⟨rfl, Below.refl _ _⟩
  · rw [if_neg h]
    have c1 := impl_numText n w W
    go_enter Tryd.func25, Tryd.ntmps25
    go_wp2_with (fail)
    with_reducible refine c1.mono ?_
    rintro e w1 ⟨rfl, hb⟩
    go_wp2_with (fail)
    go_ret
    exact ⟨rfl, hb⟩

/-- The parts of a segment's text, ahead of its data. -/
def headParts (x : Sv) : List ByteArray := [numText x.frm 4, numText x.to 4, numText x.port 2, numText x.peer 2, numText x.seq 4, numText x.ack 4, limTx x.flags 15 1, limTx (x.opts.length : Int) 4 1]
def segParts (x : Sv) : List ByteArray := (headParts x ++ x.opts.map optTx) ++ [limTx (x.data.size : Int) 120 2]
def segGood (x : Sv) : Prop := ∀ p ∈ segParts x, ¬ p = ⟨#[]⟩
def segTx (x : Sv) : ByteArray := if placeOf (segParts x) ⟨#[]⟩ < (segParts x).length then ⟨#[]⟩ else joinOf (segParts x) ++ x.data
theorem segGood_iff (x : Sv) : segGood x ↔ ¬ placeOf (segParts x) ⟨#[]⟩ < (segParts x).length := by
  unfold segGood
  rw [placeOf_mem]
  exact ⟨fun h hm => h _ hm rfl, fun h p hp he => h (he ▸ hp)⟩
theorem segTx_yes (x : Sv) (h : segGood x) : segTx x = joinOf (segParts x) ++ x.data := by unfold segTx; rw [if_neg ((segGood_iff x).1 h)]
theorem segTx_no (x : Sv) (h : ¬ segGood x) : segTx x = ⟨#[]⟩ := by
  unfold segTx
  rw [if_pos]
  exact Classical.byContradiction fun h2 => h ((segGood_iff x).2 h2)

theorem rowOf_le4 (a b c d : ByteArray) (n : Nat) (h : a.size + b.size + c.size + d.size ≤ n) : (rowOf [a, b, c, d]).size ≤ n := by
  have := rowOf_le [a, b, c, d]
  simp only [List.map_cons, List.map_nil, List.sum_cons, List.sum_nil] at this
  omega
theorem rowOf_le3 (a b c : ByteArray) (n : Nat) (h : a.size + b.size + c.size ≤ n) : (rowOf [a, b, c]).size ≤ n := by
  have := rowOf_le [a, b, c]
  simp only [List.map_cons, List.map_nil, List.sum_cons, List.sum_nil] at this
  omega
theorem fieldsOf_le (o : Ov) : (fieldsOf o).size ≤ 1000 := by
  have k8 := ofSz_le o.key 8 (by omega)
  have m8 := ofSz_le o.mark 8 (by omega)
  have m20 := ofSz_le o.mark 20 (by omega)
  have n1 := numTx_le o.id 1
  have n2 := numTx_le o.token 4
  have n3 := numTx_le o.nonce 4
  have n4 := numTx_le o.ack 6
  have n5 := numTx_le o.seq 6
  have n6 := numTx_le o.sub 4
  have n7 := numTx_le o.len 2
  have n8 := numTx_le o.addr 4
  have n9 := numTx_le o.port 2
  have n10 : (flagTx o.flag).size ≤ 6 := numTx_le _ _
  have n11 := goneTx_le o.ids
  unfold fieldsOf
  repeat' split
  all_goals first
    | omega
    | exact rowOf_le4 _ _ _ _ _ (by omega)
    | exact rowOf_le3 _ _ _ _ (by omega)
    | (show 0 ≤ 1000; omega)
theorem optTx_le (o : Ov) : (optTx o).size ≤ 1100 := by
  have h1 := fieldsOf_le o
  have h2 := numTx_le o.kind 1
  have h3 := numTx_le ((fieldsOf o).size : Int) 1
  unfold optTx headed
  repeat' split
  all_goals first
    | (show 0 ≤ 1100; omega)
    | (simp only [ByteArray.size_append]; omega)

theorem segParts_le (x : Sv) : ∀ p ∈ segParts x, p.size ≤ 1100 := by
  intro p hp
  unfold segParts headParts at hp
  simp only [List.mem_append, List.mem_cons, List.not_mem_nil, or_false, List.mem_map] at hp
  have h := fun n m => numTx_le n m
  have h' := fun n m w => limTx_le n m w
  rcases hp with ((rfl | rfl | rfl | rfl | rfl | rfl | rfl | rfl) | ⟨o, -, rfl⟩) | rfl
  all_goals first
    | exact Nat.le_trans (h _ _) (by omega)
    | exact Nat.le_trans (h' _ _ _) (by omega)
    | exact optTx_le _
theorem join_take_le (xs : List ByteArray) (h : ∀ p ∈ xs, p.size ≤ 1100) (k : Nat) (hk : k ≤ xs.length) : (joinOf (xs.take k)).size ≤ 1100 * k := by
  rw [joinOf_size]
  have := sum_le (xs.take k) 1100 (fun p hp => h p (List.mem_of_mem_take hp))
  rw [List.length_take, Nat.min_eq_left hk] at this
  exact this

theorem seg_all {w W : World} {g : Nat} {x : Sv} {v : Value} (h : Cel W g 29 (x.cells v)) (hb : Below w.heap.size w W) :
    W.cell? ⟨g, 0, none⟩ = some (.int .i64 x.frm) ∧ W.cell? ⟨g, 1, none⟩ = some (.int .i64 x.to) ∧ W.cell? ⟨g, 2, none⟩ = some (.int .i64 x.port) ∧ W.cell? ⟨g, 3, none⟩ = some (.int .i64 x.peer) ∧ W.cell? ⟨g, 4, none⟩ = some (.int .i64 x.seq) ∧ W.cell? ⟨g, 5, none⟩ = some (.int .i64 x.ack) ∧ W.cell? ⟨g, 6, none⟩ = some (.int .i64 x.flags) ∧ W.cell? ⟨g, 7, none⟩ = some v ∧ W.cell? ⟨g, 8, none⟩ = some (.string x.data) ∧ Cel W g 29 (x.cells v) ∧ Below w.heap.size w W := by
  obtain ⟨a0, a1, a2, a3, a4, a5, a6, a7, a8⟩ := x.ats v
  refine ⟨?_, ?_, ?_, ?_, ?_, ?_, ?_, ?_, ?_, h, hb⟩ <;> rw [Cel.cell h] <;> assumption
theorem seg_keep {w W W' : World} {g : Nat} {x : Sv} {v : Value} (h : W.cell? ⟨g, 0, none⟩ = some (.int .i64 x.frm) ∧ W.cell? ⟨g, 1, none⟩ = some (.int .i64 x.to) ∧ W.cell? ⟨g, 2, none⟩ = some (.int .i64 x.port) ∧ W.cell? ⟨g, 3, none⟩ = some (.int .i64 x.peer) ∧ W.cell? ⟨g, 4, none⟩ = some (.int .i64 x.seq) ∧ W.cell? ⟨g, 5, none⟩ = some (.int .i64 x.ack) ∧ W.cell? ⟨g, 6, none⟩ = some (.int .i64 x.flags) ∧ W.cell? ⟨g, 7, none⟩ = some v ∧ W.cell? ⟨g, 8, none⟩ = some (.string x.data) ∧ Cel W g 29 (x.cells v) ∧ Below w.heap.size w W) (hb : Below W.heap.size W W') :
    W'.cell? ⟨g, 0, none⟩ = some (.int .i64 x.frm) ∧ W'.cell? ⟨g, 1, none⟩ = some (.int .i64 x.to) ∧ W'.cell? ⟨g, 2, none⟩ = some (.int .i64 x.port) ∧ W'.cell? ⟨g, 3, none⟩ = some (.int .i64 x.peer) ∧ W'.cell? ⟨g, 4, none⟩ = some (.int .i64 x.seq) ∧ W'.cell? ⟨g, 5, none⟩ = some (.int .i64 x.ack) ∧ W'.cell? ⟨g, 6, none⟩ = some (.int .i64 x.flags) ∧ W'.cell? ⟨g, 7, none⟩ = some v ∧ W'.cell? ⟨g, 8, none⟩ = some (.string x.data) ∧ Cel W' g 29 (x.cells v) ∧ Below w.heap.size w W' :=
  seg_all (h.2.2.2.2.2.2.2.2.2.1.kept hb) (Below.then_ h.2.2.2.2.2.2.2.2.2.2 hb)
theorem seg_drew {w W : World} {g : Nat} {x : Sv} {v : Value} (h : Cel W g 29 (x.cells v)) (hb : Below w.heap.size w W) :
    W.drew.cell? ⟨g, 0, none⟩ = some (.int .i64 x.frm) ∧ W.drew.cell? ⟨g, 1, none⟩ = some (.int .i64 x.to) ∧ W.drew.cell? ⟨g, 2, none⟩ = some (.int .i64 x.port) ∧ W.drew.cell? ⟨g, 3, none⟩ = some (.int .i64 x.peer) ∧ W.drew.cell? ⟨g, 4, none⟩ = some (.int .i64 x.seq) ∧ W.drew.cell? ⟨g, 5, none⟩ = some (.int .i64 x.ack) ∧ W.drew.cell? ⟨g, 6, none⟩ = some (.int .i64 x.flags) ∧ W.drew.cell? ⟨g, 7, none⟩ = some v ∧ W.drew.cell? ⟨g, 8, none⟩ = some (.string x.data) ∧ Cel W.drew g 29 (x.cells v) ∧ Below w.heap.size w W.drew := seg_all (W := W.drew) h hb.drew

theorem own_keep {W W' : World} {e : TypeId} {B n : Nat} {v : Value} {xs : List Value} (h : W.ownsRow B e 1 v n xs) (hb : ∀ g, v.ownBlock = some g → W'.heap[g]? = W.heap[g]?) : W'.ownsRow B e 1 v n xs := by
  obtain ⟨h1, h2⟩ := h
  refine ⟨h1, ?_⟩
  rcases h2 with h2 | ⟨g, cap, cur, hv, hg, hh, r⟩
  · exact .inl h2
  · exact .inr ⟨g, cap, cur, hv, hg, by rw [hb g (by rw [hv]; rfl)]; exact hh, r⟩
theorem own_cell {W : World} {e : TypeId} {B n g cap : Nat} {xs : List Value} (h : W.ownsRow B e 1 (.slice (some ⟨g, 0, none⟩) n cap) n xs) (j : Nat) (hj : j < xs.length) : W.cell? ⟨g, j, none⟩ = some xs[j] := by
  obtain ⟨h1, h2⟩ := h
  rcases h2 with ⟨h2, -⟩ | ⟨g', cap', cur, hv, hg, hh, -, -, hz, ht⟩
  · cases h2
  · injection hv with e1
    injection e1 with e1
    injection e1 with e1
    subst e1
    rw [cell_of_row W g j cur e _ hh, ← Array.getElem?_toList]
    have h3 : (cur.toList.take (n * 1))[j]? = some xs[j] := by rw [ht, List.getElem?_eq_getElem hj]
    rw [List.getElem?_take_of_lt (by omega)] at h3
    exact h3
theorem slice_of2 {W : World} {v : Value} {zs : List Int} (h : Rd W v zs) : ∃ x c, v = .slice x zs.length c := by obtain ⟨x, c, h, -⟩ := h; exact ⟨x, c, h⟩
theorem joinOf_snoc (xs : List ByteArray) (y : ByteArray) : joinOf (xs ++ [y]) = joinOf xs ++ y := by
  apply ByteArray.ext
  apply Array.toList_inj.1
  simp [joinOf]

set_option maxRecDepth 100000 in
set_option maxHeartbeats 8000000 in
theorem impl_segBytes (x : Sv) (v : Value) (w : World) (hv : RdO w v x.opts) (hn : x.opts.length ≤ 1048576) (hd : x.data.size ≤ 1048576) (hbig : ∀ o ∈ x.opts, o.ids.length ≤ 1048576) :
    Calls Tryd.prog 14 #[.agg (x.cells v)] w fun e w' => ∃ ev, e = .returned (.tuple #[.string (segTx x), ev]) ∧ (segGood x → ev = .nilIface) ∧ (¬ segGood x → ∃ n : Nat, n ≤ 9223372036854775807 ∧ ev = .iface 62 (.agg #[.int .i64 (n : Int)])) ∧ Below w.heap.size w w' := by
  obtain ⟨va, vc, rfl⟩ : ∃ a c, v = .slice a x.opts.length c := by obtain ⟨a, c, h, -⟩ := hv; exact ⟨a, c, h⟩
  have hB0 := below_new w (.cells (x.cells (.slice va x.opts.length vc)) 29)
  have hC0 : Cel (w.alloc (.cells (x.cells (.slice va x.opts.length vc)) 29)) w.heap.size 29 (x.cells (.slice va x.opts.length vc)) := Cel.new _ _ _
  have hs0 : (w.alloc (.cells (x.cells (.slice va x.opts.length vc)) 29)).heap.size = w.heap.size + 1 := by simp
  have c0 := fun W => impl_numText x.frm 4 W
  have c1 := fun W => impl_numText x.to 4 W
  have c2 := fun W => impl_numText x.port 2 W
  have c3 := fun W => impl_numText x.peer 2 W
  have c4 := fun W => impl_numText x.seq 4 W
  have c5 := fun W => impl_numText x.ack 4 W
  have c6 := fun W => impl_lim x.flags 15 1 W
  have c7 := fun W => impl_lim (x.opts.length : Int) 4 1 W
  have c8 := fun W => impl_lim (x.data.size : Int) 120 2 W
  have hle := segParts_le x
  have hgood := segGood_iff x
  have hyes := segTx_yes x
  have hno := segTx_no x
  obtain ⟨D, hD⟩ : ∃ D, headParts x = D := ⟨_, rfl⟩
  have hD2 := hD
  have hP : segParts x = (headParts x ++ x.opts.map optTx) ++ [limTx (x.data.size : Int) 120 2] := rfl
  unfold headParts at hD
  generalize numText x.frm 4 = tf at *
  generalize numText x.to 4 = tt at *
  generalize numText x.port 2 = tp at *
  generalize numText x.peer 2 = tq at *
  generalize numText x.seq 4 = ts at *
  generalize numText x.ack 4 = ta at *
  generalize limTx x.flags 15 1 = tl at *
  generalize limTx (x.opts.length : Int) 4 1 = tn at *
  generalize limTx (x.data.size : Int) 120 2 = td at *
  rw [hD2] at hP
  clear hD2
  have HG := Lib.hid (And.intro hgood (And.intro hyes hno))
  clear hgood hyes hno
  go_enter Tryd.func14, Tryd.ntmps14
  go_wp2_with (fail)
  generalize (w.alloc (.cells (x.cells (.slice va x.opts.length vc)) 29)) = W at *
  have S0 := seg_drew hC0 hB0
  refine wp_region_held_drew (S := fun W => W.cell? ⟨w.heap.size, 0, none⟩ = some (.int .i64 x.frm) ∧ W.cell? ⟨w.heap.size, 1, none⟩ = some (.int .i64 x.to) ∧ W.cell? ⟨w.heap.size, 2, none⟩ = some (.int .i64 x.port) ∧ W.cell? ⟨w.heap.size, 3, none⟩ = some (.int .i64 x.peer) ∧ W.cell? ⟨w.heap.size, 4, none⟩ = some (.int .i64 x.seq) ∧ W.cell? ⟨w.heap.size, 5, none⟩ = some (.int .i64 x.ack) ∧ W.cell? ⟨w.heap.size, 6, none⟩ = some (.int .i64 x.flags) ∧ W.cell? ⟨w.heap.size, 7, none⟩ = some (.slice va x.opts.length vc) ∧ W.cell? ⟨w.heap.size, 8, none⟩ = some (.string x.data) ∧ Cel W w.heap.size 29 (x.cells (.slice va x.opts.length vc)) ∧ Below w.heap.size w W) (by kernel_rfl) S0 (fun hHeld => ?_)
  refine take_yes (i := 0) (oi := { dst := some 10, op := Op.fieldAddr 29 (Operand.tmp 1) 0, type := 0, pos := "l07_segments.go:92", after := #[], guard := none }) (v := .pointer (some ⟨w.heap.size, 0, none⟩)) rfl (by kernel_rfl) (by kernel_rfl) (by kernel_rfl) (fun _ _ _ h => h) (by rfl) (fun w hSw => by (try dsimp only at hSw); go_simp) (by assumption) ?_
  try simp only [Act.put, List.setIfInBounds_toArray, List.set_cons_zero, List.set_cons_succ]
  refine take_yes (i := 1) (oi := { dst := some 11, op := Op.load 3 (Operand.tmp 10), type := 3, pos := "l07_segments.go:92", after := #[{ on := 0, ground := Ground.data }], guard := none }) (v := .int .i64 x.frm) rfl (by kernel_rfl) (by kernel_rfl) (by kernel_rfl) (fun _ _ _ h => h) (by rfl) (fun w hSw => by (try dsimp only at hSw); go_simp) (by assumption) ?_
  try simp only [Act.put, List.setIfInBounds_toArray, List.set_cons_zero, List.set_cons_succ]
  refine take_yes (i := 3) (oi := { dst := some 13, op := Op.fieldAddr 29 (Operand.tmp 1) 1, type := 0, pos := "l07_segments.go:92", after := #[], guard := none }) (v := .pointer (some ⟨w.heap.size, 1, none⟩)) rfl (by kernel_rfl) (by kernel_rfl) (by kernel_rfl) (fun _ _ _ h => h) (by rfl) (fun w hSw => by (try dsimp only at hSw); go_simp) (by assumption) ?_
  try simp only [Act.put, List.setIfInBounds_toArray, List.set_cons_zero, List.set_cons_succ]
  refine take_yes (i := 4) (oi := { dst := some 14, op := Op.load 3 (Operand.tmp 13), type := 3, pos := "l07_segments.go:92", after := #[{ on := 3, ground := Ground.data }], guard := none }) (v := .int .i64 x.to) rfl (by kernel_rfl) (by kernel_rfl) (by kernel_rfl) (fun _ _ _ h => h) (by rfl) (fun w hSw => by (try dsimp only at hSw); go_simp) (by assumption) ?_
  try simp only [Act.put, List.setIfInBounds_toArray, List.set_cons_zero, List.set_cons_succ]
  refine take_yes (i := 6) (oi := { dst := some 16, op := Op.fieldAddr 29 (Operand.tmp 1) 2, type := 0, pos := "l07_segments.go:92", after := #[], guard := none }) (v := .pointer (some ⟨w.heap.size, 2, none⟩)) rfl (by kernel_rfl) (by kernel_rfl) (by kernel_rfl) (fun _ _ _ h => h) (by rfl) (fun w hSw => by (try dsimp only at hSw); go_simp) (by assumption) ?_
  try simp only [Act.put, List.setIfInBounds_toArray, List.set_cons_zero, List.set_cons_succ]
  refine take_yes (i := 7) (oi := { dst := some 17, op := Op.load 3 (Operand.tmp 16), type := 3, pos := "l07_segments.go:92", after := #[{ on := 6, ground := Ground.data }], guard := none }) (v := .int .i64 x.port) rfl (by kernel_rfl) (by kernel_rfl) (by kernel_rfl) (fun _ _ _ h => h) (by rfl) (fun w hSw => by (try dsimp only at hSw); go_simp) (by assumption) ?_
  try simp only [Act.put, List.setIfInBounds_toArray, List.set_cons_zero, List.set_cons_succ]
  refine take_yes (i := 9) (oi := { dst := some 19, op := Op.fieldAddr 29 (Operand.tmp 1) 3, type := 0, pos := "l07_segments.go:92", after := #[], guard := none }) (v := .pointer (some ⟨w.heap.size, 3, none⟩)) rfl (by kernel_rfl) (by kernel_rfl) (by kernel_rfl) (fun _ _ _ h => h) (by rfl) (fun w hSw => by (try dsimp only at hSw); go_simp) (by assumption) ?_
  try simp only [Act.put, List.setIfInBounds_toArray, List.set_cons_zero, List.set_cons_succ]
  refine take_yes (i := 10) (oi := { dst := some 20, op := Op.load 3 (Operand.tmp 19), type := 3, pos := "l07_segments.go:92", after := #[{ on := 9, ground := Ground.data }], guard := none }) (v := .int .i64 x.peer) rfl (by kernel_rfl) (by kernel_rfl) (by kernel_rfl) (fun _ _ _ h => h) (by rfl) (fun w hSw => by (try dsimp only at hSw); go_simp) (by assumption) ?_
  try simp only [Act.put, List.setIfInBounds_toArray, List.set_cons_zero, List.set_cons_succ]
  refine take_yes (i := 12) (oi := { dst := some 22, op := Op.fieldAddr 29 (Operand.tmp 1) 4, type := 0, pos := "l07_segments.go:92", after := #[], guard := none }) (v := .pointer (some ⟨w.heap.size, 4, none⟩)) rfl (by kernel_rfl) (by kernel_rfl) (by kernel_rfl) (fun _ _ _ h => h) (by rfl) (fun w hSw => by (try dsimp only at hSw); go_simp) (by assumption) ?_
  try simp only [Act.put, List.setIfInBounds_toArray, List.set_cons_zero, List.set_cons_succ]
  refine take_yes (i := 13) (oi := { dst := some 23, op := Op.load 3 (Operand.tmp 22), type := 3, pos := "l07_segments.go:92", after := #[{ on := 12, ground := Ground.data }], guard := none }) (v := .int .i64 x.seq) rfl (by kernel_rfl) (by kernel_rfl) (by kernel_rfl) (fun _ _ _ h => h) (by rfl) (fun w hSw => by (try dsimp only at hSw); go_simp) (by assumption) ?_
  try simp only [Act.put, List.setIfInBounds_toArray, List.set_cons_zero, List.set_cons_succ]
  refine take_yes (i := 15) (oi := { dst := some 25, op := Op.fieldAddr 29 (Operand.tmp 1) 5, type := 0, pos := "l07_segments.go:92", after := #[], guard := none }) (v := .pointer (some ⟨w.heap.size, 5, none⟩)) rfl (by kernel_rfl) (by kernel_rfl) (by kernel_rfl) (fun _ _ _ h => h) (by rfl) (fun w hSw => by (try dsimp only at hSw); go_simp) (by assumption) ?_
  try simp only [Act.put, List.setIfInBounds_toArray, List.set_cons_zero, List.set_cons_succ]
  refine take_yes (i := 16) (oi := { dst := some 26, op := Op.load 3 (Operand.tmp 25), type := 3, pos := "l07_segments.go:92", after := #[{ on := 15, ground := Ground.data }], guard := none }) (v := .int .i64 x.ack) rfl (by kernel_rfl) (by kernel_rfl) (by kernel_rfl) (fun _ _ _ h => h) (by rfl) (fun w hSw => by (try dsimp only at hSw); go_simp) (by assumption) ?_
  try simp only [Act.put, List.setIfInBounds_toArray, List.set_cons_zero, List.set_cons_succ]
  refine take_yes (i := 18) (oi := { dst := some 28, op := Op.fieldAddr 29 (Operand.tmp 1) 6, type := 0, pos := "l07_segments.go:92", after := #[], guard := none }) (v := .pointer (some ⟨w.heap.size, 6, none⟩)) rfl (by kernel_rfl) (by kernel_rfl) (by kernel_rfl) (fun _ _ _ h => h) (by rfl) (fun w hSw => by (try dsimp only at hSw); go_simp) (by assumption) ?_
  try simp only [Act.put, List.setIfInBounds_toArray, List.set_cons_zero, List.set_cons_succ]
  refine take_yes (i := 19) (oi := { dst := some 29, op := Op.load 3 (Operand.tmp 28), type := 3, pos := "l07_segments.go:92", after := #[{ on := 18, ground := Ground.data }], guard := none }) (v := .int .i64 x.flags) rfl (by kernel_rfl) (by kernel_rfl) (by kernel_rfl) (fun _ _ _ h => h) (by rfl) (fun w hSw => by (try dsimp only at hSw); go_simp) (by assumption) ?_
  try simp only [Act.put, List.setIfInBounds_toArray, List.set_cons_zero, List.set_cons_succ]
  refine take_yes (i := 21) (oi := { dst := some 31, op := Op.fieldAddr 29 (Operand.tmp 1) 7, type := 0, pos := "l07_segments.go:92", after := #[], guard := none }) (v := .pointer (some ⟨w.heap.size, 7, none⟩)) rfl (by kernel_rfl) (by kernel_rfl) (by kernel_rfl) (fun _ _ _ h => h) (by rfl) (fun w hSw => by (try dsimp only at hSw); go_simp) (by assumption) ?_
  try simp only [Act.put, List.setIfInBounds_toArray, List.set_cons_zero, List.set_cons_succ]
  refine take_yes (i := 22) (oi := { dst := some 32, op := Op.load 27 (Operand.tmp 31), type := 27, pos := "l07_segments.go:92", after := #[{ on := 21, ground := Ground.data }], guard := none }) (v := .slice va x.opts.length vc) rfl (by kernel_rfl) (by kernel_rfl) (by kernel_rfl) (fun _ _ _ h => h) (by rfl) (fun w hSw => by (try dsimp only at hSw); go_simp) (by assumption) ?_
  try simp only [Act.put, List.setIfInBounds_toArray, List.set_cons_zero, List.set_cons_succ]
  refine take_yes (i := 23) (oi := { dst := some 33, op := Op.call { callee := Callee.builtin Builtin.len, args := #[Operand.tmp 32], argTypes := #[27] }, type := 3, pos := "l07_segments.go:92", after := #[{ on := 22, ground := Ground.data }], guard := none }) (v := .int .i64 (x.opts.length : Int)) rfl (by kernel_rfl) (by kernel_rfl) (by kernel_rfl) (fun _ _ _ h => h) (by rfl) (fun w hSw => by (try dsimp only at hSw); go_simp) (by assumption) ?_
  try simp only [Act.put, List.setIfInBounds_toArray, List.set_cons_zero, List.set_cons_succ]
  refine wpAnyH_ready (rs := [2]) (by kernel_rfl) (by simp) ?_
  refine AllReadyH.cons (o := { dst := some 12, op := Op.call { callee := Callee.value (Operand.func 24), args := #[Operand.tmp 11, Operand.const (Value.int IntKind.i64 4)], argTypes := #[3, 3] }, type := 9, pos := "l07_segments.go:93", after := #[{ on := 1, ground := Ground.data }], guard := none }) rfl (fun K hK => ?_) AllReadyH.nil
  go_simp
  with_reducible refine (c0 _).mono ?_
  rintro e w1 ⟨rfl, hb1⟩
  refine hK.out _ _ (seg_keep (by assumption) hb1) (fun hHeld => ?_)
  clear hK K
  try simp only [Act.put, List.setIfInBounds_toArray, List.set_cons_zero, List.set_cons_succ]
  refine wpAnyH_ready (rs := [5]) (by kernel_rfl) (by simp) ?_
  refine AllReadyH.cons (o := { dst := some 15, op := Op.call { callee := Callee.value (Operand.func 24), args := #[Operand.tmp 14, Operand.const (Value.int IntKind.i64 4)], argTypes := #[3, 3] }, type := 9, pos := "l07_segments.go:93", after := #[{ on := 4, ground := Ground.data }, { on := 2, ground := Ground.chain }], guard := none }) rfl (fun K hK => ?_) AllReadyH.nil
  go_simp
  with_reducible refine (c1 _).mono ?_
  rintro e w2 ⟨rfl, hb2⟩
  refine hK.out _ _ (seg_keep (by assumption) hb2) (fun hHeld => ?_)
  clear hK K
  try simp only [Act.put, List.setIfInBounds_toArray, List.set_cons_zero, List.set_cons_succ]
  refine wpAnyH_ready (rs := [8]) (by kernel_rfl) (by simp) ?_
  refine AllReadyH.cons (o := { dst := some 18, op := Op.call { callee := Callee.value (Operand.func 24), args := #[Operand.tmp 17, Operand.const (Value.int IntKind.i64 2)], argTypes := #[3, 3] }, type := 9, pos := "l07_segments.go:94", after := #[{ on := 7, ground := Ground.data }, { on := 5, ground := Ground.chain }], guard := none }) rfl (fun K hK => ?_) AllReadyH.nil
  go_simp
  with_reducible refine (c2 _).mono ?_
  rintro e w3 ⟨rfl, hb3⟩
  refine hK.out _ _ (seg_keep (by assumption) hb3) (fun hHeld => ?_)
  clear hK K
  try simp only [Act.put, List.setIfInBounds_toArray, List.set_cons_zero, List.set_cons_succ]
  refine wpAnyH_ready (rs := [11]) (by kernel_rfl) (by simp) ?_
  refine AllReadyH.cons (o := { dst := some 21, op := Op.call { callee := Callee.value (Operand.func 24), args := #[Operand.tmp 20, Operand.const (Value.int IntKind.i64 2)], argTypes := #[3, 3] }, type := 9, pos := "l07_segments.go:94", after := #[{ on := 10, ground := Ground.data }, { on := 8, ground := Ground.chain }], guard := none }) rfl (fun K hK => ?_) AllReadyH.nil
  go_simp
  with_reducible refine (c3 _).mono ?_
  rintro e w4 ⟨rfl, hb4⟩
  refine hK.out _ _ (seg_keep (by assumption) hb4) (fun hHeld => ?_)
  clear hK K
  try simp only [Act.put, List.setIfInBounds_toArray, List.set_cons_zero, List.set_cons_succ]
  refine wpAnyH_ready (rs := [14]) (by kernel_rfl) (by simp) ?_
  refine AllReadyH.cons (o := { dst := some 24, op := Op.call { callee := Callee.value (Operand.func 24), args := #[Operand.tmp 23, Operand.const (Value.int IntKind.i64 4)], argTypes := #[3, 3] }, type := 9, pos := "l07_segments.go:95", after := #[{ on := 13, ground := Ground.data }, { on := 11, ground := Ground.chain }], guard := none }) rfl (fun K hK => ?_) AllReadyH.nil
  go_simp
  with_reducible refine (c4 _).mono ?_
  rintro e w5 ⟨rfl, hb5⟩
  refine hK.out _ _ (seg_keep (by assumption) hb5) (fun hHeld => ?_)
  clear hK K
  try simp only [Act.put, List.setIfInBounds_toArray, List.set_cons_zero, List.set_cons_succ]
  refine wpAnyH_ready (rs := [17]) (by kernel_rfl) (by simp) ?_
  refine AllReadyH.cons (o := { dst := some 27, op := Op.call { callee := Callee.value (Operand.func 24), args := #[Operand.tmp 26, Operand.const (Value.int IntKind.i64 4)], argTypes := #[3, 3] }, type := 9, pos := "l07_segments.go:95", after := #[{ on := 16, ground := Ground.data }, { on := 14, ground := Ground.chain }], guard := none }) rfl (fun K hK => ?_) AllReadyH.nil
  go_simp
  with_reducible refine (c5 _).mono ?_
  rintro e w6 ⟨rfl, hb6⟩
  refine hK.out _ _ (seg_keep (by assumption) hb6) (fun hHeld => ?_)
  clear hK K
  try simp only [Act.put, List.setIfInBounds_toArray, List.set_cons_zero, List.set_cons_succ]
  refine wpAnyH_ready (rs := [20]) (by kernel_rfl) (by simp) ?_
  refine AllReadyH.cons (o := { dst := some 30, op := Op.call { callee := Callee.value (Operand.func 25), args := #[Operand.tmp 29, Operand.const (Value.int IntKind.i64 15), Operand.const (Value.int IntKind.i64 1)], argTypes := #[3, 3, 3] }, type := 9, pos := "l07_segments.go:96", after := #[{ on := 19, ground := Ground.data }, { on := 17, ground := Ground.chain }], guard := none }) rfl (fun K hK => ?_) AllReadyH.nil
  go_simp
  with_reducible refine (c6 _).mono ?_
  rintro e w7 ⟨rfl, hb7⟩
  refine hK.out _ _ (seg_keep (by assumption) hb7) (fun hHeld => ?_)
  clear hK K
  try simp only [Act.put, List.setIfInBounds_toArray, List.set_cons_zero, List.set_cons_succ]
  refine wpAnyH_ready (rs := [24]) (by kernel_rfl) (by simp) ?_
  refine AllReadyH.cons (o := { dst := some 34, op := Op.call { callee := Callee.value (Operand.func 25), args := #[Operand.tmp 33, Operand.const (Value.int IntKind.i64 4), Operand.const (Value.int IntKind.i64 1)], argTypes := #[3, 3, 3] }, type := 9, pos := "l07_segments.go:96", after := #[{ on := 23, ground := Ground.data }, { on := 20, ground := Ground.chain }], guard := none }) rfl (fun K hK => ?_) AllReadyH.nil
  go_simp
  with_reducible refine (c7 _).mono ?_
  rintro e w8 ⟨rfl, hb8⟩
  refine hK.out _ _ (seg_keep (by assumption) hb8) (fun hHeld => ?_)
  clear hK K
  try simp only [Act.put, List.setIfInBounds_toArray, List.set_cons_zero, List.set_cons_succ]
  refine wpAnyH_ready (rs := [25]) (by kernel_rfl) (by simp) ?_
  refine AllReadyH.cons (o := { dst := some 35, op := Op.buildSlice 59 8 #[(0, Operand.tmp 12), (1, Operand.tmp 15), (2, Operand.tmp 18), (3, Operand.tmp 21), (4, Operand.tmp 24), (5, Operand.tmp 27), (6, Operand.tmp 30), (7, Operand.tmp 34)], type := 59, pos := "l07_segments.go:92", after := #[{ on := 2, ground := Ground.data }, { on := 5, ground := Ground.data }, { on := 8, ground := Ground.data }, { on := 11, ground := Ground.data }, { on := 14, ground := Ground.data }, { on := 17, ground := Ground.data }, { on := 20, ground := Ground.data }, { on := 24, ground := Ground.data }], guard := none }) rfl (fun K hK => ?_) AllReadyH.nil
  go_simp
  refine hK.out _ _ (seg_keep (by assumption) (below_new w8 _)) (fun hHeld => ?_)
  clear hK K
  try simp only [Act.put, List.setIfInBounds_toArray, List.set_cons_zero, List.set_cons_succ]
  refine take_yes (i := 26) (oi := { dst := some 4, op := Op.assign (Operand.tmp 35), type := 59, pos := "l07_segments.go:92", after := #[{ on := 25, ground := Ground.data }, { on := 24, ground := Ground.chain }, { on := 0, ground := Ground.phase }, { on := 1, ground := Ground.phase }, { on := 2, ground := Ground.phase }, { on := 3, ground := Ground.phase }, { on := 4, ground := Ground.phase }, { on := 5, ground := Ground.phase }, { on := 6, ground := Ground.phase }, { on := 7, ground := Ground.phase }, { on := 8, ground := Ground.phase }, { on := 9, ground := Ground.phase }, { on := 10, ground := Ground.phase }, { on := 11, ground := Ground.phase }, { on := 12, ground := Ground.phase }, { on := 13, ground := Ground.phase }, { on := 14, ground := Ground.phase }, { on := 15, ground := Ground.phase }, { on := 16, ground := Ground.phase }, { on := 17, ground := Ground.phase }, { on := 18, ground := Ground.phase }, { on := 19, ground := Ground.phase }, { on := 20, ground := Ground.phase }, { on := 21, ground := Ground.phase }, { on := 22, ground := Ground.phase }, { on := 23, ground := Ground.phase }, { on := 24, ground := Ground.phase }, { on := 25, ground := Ground.phase }], guard := none }) (v := .slice (some ⟨w8.heap.size, 0, none⟩) 8 8) rfl (by kernel_rfl) (by kernel_rfl) (by kernel_rfl) (fun _ _ _ h => h) (by rfl) (fun w hSw => by (try dsimp only at hSw); go_simp) (by assumption) ?_
  try simp only [Act.put, List.setIfInBounds_toArray, List.set_cons_zero, List.set_cons_succ]
  refine wpAnyH_done (by kernel_rfl) ?_ _
  have S9 : (w8.alloc (.cells #[.string tf, .string tt, .string tp, .string tq, .string ts, .string ta, .string tl, .string tn] 9)).cell? ⟨w.heap.size, 0, none⟩ = some (.int .i64 x.frm) ∧ (w8.alloc (.cells #[.string tf, .string tt, .string tp, .string tq, .string ts, .string ta, .string tl, .string tn] 9)).cell? ⟨w.heap.size, 1, none⟩ = some (.int .i64 x.to) ∧ (w8.alloc (.cells #[.string tf, .string tt, .string tp, .string tq, .string ts, .string ta, .string tl, .string tn] 9)).cell? ⟨w.heap.size, 2, none⟩ = some (.int .i64 x.port) ∧ (w8.alloc (.cells #[.string tf, .string tt, .string tp, .string tq, .string ts, .string ta, .string tl, .string tn] 9)).cell? ⟨w.heap.size, 3, none⟩ = some (.int .i64 x.peer) ∧ (w8.alloc (.cells #[.string tf, .string tt, .string tp, .string tq, .string ts, .string ta, .string tl, .string tn] 9)).cell? ⟨w.heap.size, 4, none⟩ = some (.int .i64 x.seq) ∧ (w8.alloc (.cells #[.string tf, .string tt, .string tp, .string tq, .string ts, .string ta, .string tl, .string tn] 9)).cell? ⟨w.heap.size, 5, none⟩ = some (.int .i64 x.ack) ∧ (w8.alloc (.cells #[.string tf, .string tt, .string tp, .string tq, .string ts, .string ta, .string tl, .string tn] 9)).cell? ⟨w.heap.size, 6, none⟩ = some (.int .i64 x.flags) ∧ (w8.alloc (.cells #[.string tf, .string tt, .string tp, .string tq, .string ts, .string ta, .string tl, .string tn] 9)).cell? ⟨w.heap.size, 7, none⟩ = some (.slice va x.opts.length vc) ∧ (w8.alloc (.cells #[.string tf, .string tt, .string tp, .string tq, .string ts, .string ta, .string tl, .string tn] 9)).cell? ⟨w.heap.size, 8, none⟩ = some (.string x.data) ∧ Cel (w8.alloc (.cells #[.string tf, .string tt, .string tp, .string tq, .string ts, .string ta, .string tl, .string tn] 9)) w.heap.size 29 (x.cells (.slice va x.opts.length vc)) ∧ Below w.heap.size w (w8.alloc (.cells #[.string tf, .string tt, .string tp, .string tq, .string ts, .string ta, .string tl, .string tn] 9)) := by assumption
  obtain ⟨-, -, -, -, -, -, -, k7, -, hC9, hB9⟩ := S9
  have hw8 : w.heap.size + 1 ≤ w8.heap.size := by
    have e0 : W.drew.heap.size = w.heap.size + 1 := hs0
    have e1 := hb1.size
    have e2 := hb2.size
    have e3 := hb3.size
    have e4 := hb4.size
    have e5 := hb5.size
    have e6 := hb6.size
    have e7 := hb7.size
    have e8 := hb8.size
    omega
  have hown9 : (w8.alloc (.cells #[.string tf, .string tt, .string tp, .string tq, .string ts, .string ta, .string tl, .string tn] 9)).ownsRow (w.heap.size + 1) 9 1 (.slice (some ⟨w8.heap.size, 0, none⟩) 8 8) 8 (D.map Value.string) := by
    rw [← hD]
    exact ⟨rfl, .inr ⟨w8.heap.size, 8, _, rfl, hw8, Cel.new _ _ _, by omega, by unfold maxLen; omega, rfl, rfl⟩⟩
  clear S0 hb1 hb2 hb3 hb4 hb5 hb6 hb7 hb8 c0 c1 c2 c3 c4 c5 c6 c7 hC0 hB0 hs0
  have hlt9 : w8.heap.size < (w8.alloc (.cells #[.string tf, .string tt, .string tp, .string tq, .string ts, .string ta, .string tl, .string tn] 9)).heap.size := by simp
  generalize w8.alloc (.cells #[.string tf, .string tt, .string tp, .string tq, .string ts, .string ta, .string tl, .string tn] 9) = W9 at *
  generalize w8.heap.size = g9 at *
  have hDl : D.length = 8 := by rw [← hD]; rfl
  clear hD hw8
  obtain ⟨i0, hi, hz0, hz1, hz2⟩ := info_parts infoS
  go_wp2_with (fail)
  clear k7
  go_loopw [4, 39] (fun p i wr => ∃ k gg cap : Nat, k ≤ x.opts.length ∧ i = .int .i64 k ∧ p = .slice (some ⟨gg, 0, none⟩) (8 + k) cap ∧ wr.ownsRow (w.heap.size + 1) 9 1 (.slice (some ⟨gg, 0, none⟩) (8 + k) cap) (8 + k) ((D ++ (x.opts.take k).map optTx).map Value.string) ∧ gg < wr.heap.size ∧ Cel wr w.heap.size 29 (x.cells (.slice va x.opts.length vc)) ∧ Below w.heap.size w wr) (fun _ i _ => x.opts.length - (intOf i).toNat)
  case atStart => exact ⟨0, g9, 8, by omega, rfl, rfl, by simpa using hown9, hlt9, hC9, hB9⟩
  case round =>
    clear hown9 hlt9 hC9 hB9
    obtain ⟨k, gg, cap, hk, rfl, rfl, hown, hgg, hC, hB⟩ := hrel
    have hg1 : w.heap.size + 1 ≤ gg := (hown.lt gg rfl).1
    by_cases hlt : k < x.opts.length
    · have q : (k : Int) < (x.opts.length : Int) := by omega
      have q2 : (0 : Int) ≤ (k : Int) := by omega
      obtain ⟨_, _, he, h⟩ := hv.below hB
      injection he with e1 e2 e3
      subst e1 e3
      obtain ⟨b, off, ha, h3⟩ := h (by omega)
      subst ha
      obtain ⟨u, r1, r2⟩ := h3 k hlt
      clear h3 h
      obtain ⟨ua, uc, rfl⟩ := slice_of2 r2
      have ld := r1.load
      have hsn : (D ++ (x.opts.take (k + 1)).map optTx).map Value.string = ((D ++ (x.opts.take k).map optTx).map Value.string) ++ [Value.string (optTx x.opts[k])] := by
        rw [List.take_succ_eq_append_getElem hlt]
        simp only [List.map_append, List.append_assoc, List.map_cons, List.map_nil]
      have hbo := hbig x.opts[k] (List.getElem_mem hlt)
      generalize x.opts[k] = o at *
      have one := o.cells_one ua o.ids.length uc
      have hz := zeroOpt wr
      have hss : (#[.int .i64 0, .int .i64 0, .int .i64 0, .int .i64 0, .int .i64 0, .int .i64 0, .int .i64 0, .int .i64 0, .int .i64 0, .int .i64 0, .bool false, .string ⟨#[]⟩, .string ⟨#[]⟩, .slice none 0 0] : Array Value).size = (o.cells (.slice ua o.ids.length uc)).size := by rw [Ov.cells_size]; rfl
      have hn6 := new_row wr 39 #[.int .i64 0, .int .i64 0, .int .i64 0, .int .i64 0, .int .i64 0, .int .i64 0, .int .i64 0, .int .i64 0, .int .i64 0, .int .i64 0, .bool false, .string ⟨#[]⟩, .string ⟨#[]⟩, .slice none 0 0] (o.cells (.slice ua o.ids.length uc))
      have r6 := r2.below hn6.2
      have c6 := hn6.1
      have hb6 := hn6.2
      clear hn6 r1 r2
      go_upto_region 5 with (with_reducible refine wpList_store_row rfl 39 _ _ rfl _ rfl _ rfl 39 _ hz (sizeOpt' _ _) hss one ?_)
      clear ld hz one hss
      generalize (wr.alloc (.cells #[.int .i64 0, .int .i64 0, .int .i64 0, .int .i64 0, .int .i64 0, .int .i64 0, .int .i64 0, .int .i64 0, .int .i64 0, .int .i64 0, .bool false, .string ⟨#[]⟩, .string ⟨#[]⟩, .slice none 0 0] 39)).setRow wr.heap.size (o.cells (.slice ua o.ids.length uc)) = W6 at *
      have hC6 := hC.kept hb6
      have hB6 := Below.then_ hB hb6
      have hown6 := own_keep (W' := W6) hown (fun g hg => hb6.block g (by simp [Value.ownBlock] at hg; omega))
      have hgg6 : gg < W6.heap.size := Nat.lt_of_lt_of_le hgg hb6.size
      have f6 := Cel.loadRow c6 14 (Ov.cells_size _ _) (P := Tryd.prog)
      have co := impl_optText o (.slice ua o.ids.length uc) W6 r6 hbo
      have hole := optTx_le o
      generalize optTx o = new at *
      clear hC hB hown hgg hb6 c6 r6
      go_wp2_with (fail)
      with_reducible refine co.mono ?_
      rintro e w7 ⟨rfl, hb7⟩
      have hC7 := hC6.kept hb7
      have hB7 := Below.then_ hB6 hb7
      have hown7 := own_keep (W' := w7) hown6 (fun g hg => hb7.block g (by simp [Value.ownBlock] at hg; omega))
      have hgg7 : gg < w7.heap.size := Nat.lt_of_lt_of_le hgg6 hb7.size
      clear hC6 hB6 hown6 hgg6 f6 co hb7
      go_wp2_with (at_builtin; refine wpList_append_one _ rfl _ _ 59 rfl (w.heap.size + 1) 9 i0 (.string ⟨#[]⟩) 16 Tryd.underlying59 hi hz0 hz1 hz2 rfl (.string new) rfl rfl (hown7.alloc _) (by simp; omega) w7.heap.size 1 rfl (by simp) (by unfold maxLen; omega) (by omega) ?_; intro g' cap' w9 hown' hgrow _)
      have hfo := hown'.form (by omega)
      obtain ⟨g2, cp2, hge, hg2a, hg2b⟩ := hfo
      injection hge with hge
      injection hge with hge
      injection hge with hge
      subst hge
      have hC9 := Cel.grown (hC7.alloc _) hgrow (by simp; omega)
      have hB9 : Below w.heap.size w w9 := (hB7.alloc hB7.size _).grown hgrow (by have := hB7.size; simp; omega) (fun j hj => by simp at hj; omega)
      have HO := Lib.hid (And.intro hsn hown')
      clear hC7 hB7 hown7 hgg7 hgrow hsn hown'
      go_wp2_with (fail)
      go_roundw
      case rel =>
        obtain ⟨hsn, hown'⟩ := HO.out
        exact ⟨k + 1, g', cap', by omega, by go_num, by rw [show 8 + (k + 1) = 8 + k + 1 by omega], by rw [hsn, show 8 + (k + 1) = 8 + k + 1 by omega]; exact hown', hg2b, hC9, hB9⟩
      case measure => simp [intOf]; omega
    · obtain rfl : k = x.opts.length := by omega
      have q : ¬ (x.opts.length : Int) < (x.opts.length : Int) := by omega
      rw [List.take_length] at hown
      have k8 := (hC.cell 8).trans (x.ats _).2.2.2.2.2.2.2.2
      go_wp2_with (fail)
      with_reducible refine (c8 _).mono ?_
      rintro e w7 ⟨rfl, hb7⟩
      have hC7 := hC.kept hb7
      have hB7 := Below.then_ hB hb7
      have hown7 := own_keep (W' := w7) hown (fun g hg => hb7.block g (by simp [Value.ownBlock] at hg; omega))
      have hgg7 : gg < w7.heap.size := Nat.lt_of_lt_of_le hgg hb7.size
      clear hC hB hown c8 k8
      go_wp2_with (at_builtin; refine wpList_append_one _ rfl _ _ 59 rfl (w.heap.size + 1) 9 i0 (.string ⟨#[]⟩) 16 Tryd.underlying59 hi hz0 hz1 hz2 rfl (.string td) rfl rfl (hown7.alloc _) (by simp; omega) w7.heap.size 1 rfl (by simp) (by unfold maxLen; omega) (by omega) ?_; intro g' cap' w9 hown' hgrow _)
      have hC9 := Cel.grown (hC7.alloc _) hgrow (by simp; omega)
      have hB9 : Below w.heap.size w w9 := (hB7.alloc hB7.size _).grown hgrow (by have := hB7.size; simp; omega) (fun j hj => by simp at hj; omega)
      have hXl : (segParts x).length = 8 + x.opts.length + 1 := by rw [hP]; simp [hDl]; omega
      have hcell : ∀ j (h : j < (segParts x).length), w9.cell? ⟨g', j, none⟩ = some (.string (segParts x)[j]) := by
        intro j h
        have h2 : ((D ++ x.opts.map optTx).map Value.string) ++ [Value.string td] = (segParts x).map Value.string := by rw [hP]; simp
        rw [h2] at hown'
        have h3 := own_cell hown' j (by rw [List.length_map]; exact h)
        rw [List.getElem_map] at h3
        exact h3
      have k8 := (hC9.cell 8).trans (x.ats _).2.2.2.2.2.2.2.2
      rw [← hXl, show (8 + (x.opts.length : Int) + 1) = ((segParts x).length : Int) by omega]
      have hm : (segParts x).length ≤ 1048600 := by omega
      have hBf := Lib.hid hB9
      have hgd0 : segGood x ↔ ∀ p ∈ segParts x, ¬ p = ⟨#[]⟩ := Iff.rfl
      have hgd := Lib.hid hgd0
      clear hgd0
      clear hC7 hB7 hown7 hgrow hown' hP hC9 hB9 hb7 hDl hXl
      generalize segParts x = XS at *
      go_wp2_with (fail)
      go_loop [7, 58] (fun t i => ∃ k : Nat, k ≤ XS.length ∧ i = .int .i64 k ∧ t = .string (joinOf (XS.take k)) ∧ ∀ p ∈ XS.take k, ¬ p = ⟨#[]⟩) (fun _ i => XS.length - (intOf i).toNat)
      case atStart => exact ⟨0, by omega, rfl, by rw [List.take_zero]; rfl, by simp⟩
      case round =>
        obtain ⟨k2, hk2, rfl, rfl, hne⟩ := hrel
        have hjs := join_take_le XS hle k2 hk2
        by_cases hlt2 : k2 < XS.length
        · have q3 : (k2 : Int) < (XS.length : Int) := by omega
          have q4 : (0 : Int) ≤ (k2 : Int) := by omega
          have hcj := hcell k2 hlt2
          have hpl := hle XS[k2] (List.getElem_mem hlt2)
          have hmem := List.getElem_mem hlt2
          have hsn : XS.take (k2 + 1) = XS.take k2 ++ [XS[k2]] := List.take_succ_eq_append_getElem hlt2
          have hj := joinOf_snoc (XS.take k2) XS[k2]
          rw [← hsn] at hj
          generalize XS[k2] = p at *
          by_cases hp : p = ⟨#[]⟩
          · have hbad : ¬ segGood x := fun hg => hgd.out.1 hg p hmem hp
            have HB := Lib.hid hbad
            clear hbad
            have z1 := empty_b1 p
            rw [decide_eq_true hp] at z1
            have z2 : p.toList = [] := by simpa using z1
            clear hcell hle hne hmem hgd hsn hj hp
            generalize joinOf (XS.take k2) = jt at *
            go_wp2_with (fail)
            go_ret2
            obtain ⟨-, -, hno⟩ := HG.out
            have hbad := HB.out
            exact ⟨_, by rw [hno hbad]; rfl, fun h => absurd h hbad, fun _ => ⟨jt.size, by omega, rfl⟩, hBf.out⟩
          · have z1 := empty_b1 p
            rw [decide_eq_false hp] at z1
            have z3 : ¬ p.toList = [] := fun h => by rw [h] at z1; cases z1
            have HJ := Lib.hid (And.intro hj hsn)
            have HP := Lib.hid hp
            clear hcell hle hj hsn hmem hp
            generalize joinOf (XS.take k2) = jt at *
            have qs : jt.size + p.size ≤ 9223372036854775807 := by omega
            go_wp2_with (fail)
            go_round
            case rel =>
              obtain ⟨hj, hsn⟩ := HJ.out
              refine ⟨k2 + 1, by omega, by go_num, by rw [hj], fun p' hp' => ?_⟩
              rw [hsn] at hp'
              rcases List.mem_append.1 hp' with h | h
              · exact hne p' h
              · rw [List.mem_singleton.1 h]; exact HP.out
            case measure => simp [intOf]; omega
        · obtain rfl : k2 = XS.length := by omega
          have q3 : ¬ (XS.length : Int) < (XS.length : Int) := by omega
          rw [List.take_length] at *
          have hg := hgd.out.2 hne
          clear hcell hle hne hgd
          have HJ := Lib.hid (HG.out.2.1 hg)
          have HB := Lib.hid hg
          clear hg
          generalize joinOf XS = jt at *
          have qs : jt.size + x.data.size ≤ 9223372036854775807 := by omega
          go_wp2_with (fail)
          go_ret2
          exact ⟨_, by rw [HJ.out]; rfl, fun _ => rfl, fun h => absurd HB.out h, hBf.out⟩

end Go.Proofs.YtnlbeoifmdfbjaaDoor
