import Derived.Test.YtkpajakangaekabMgG
import Derived.Test.YtkpajakangaekabSok
import Derived.Test.YtkpajakangaekabOty
import Derived.Test.YtkpajakangaekabSoe
namespace Go.Proofs.Ytkpajakangaekab
open Go.RowKit
attribute [-go_sem] loadCells loadCellsFrom

def limTx (n most w : Int) : ByteArray := if most < n then ⟨#[]⟩ else numText n w
theorem limTx_le (n most w : Int) : (limTx n most w).size ≤ 6 := by
  unfold limTx
  split
  · show 0 ≤ 6; omega
  · exact numTx_le n w

/-- The parts of a segment's text, ahead of its data. -/
def headParts (x : Sv) : List ByteArray := [numText x.frm 4, numText x.to 4, numText x.port 2, numText x.peer 2, numText x.seq 4, numText x.ack 4, limTx x.flags 15 1, limTx (x.opts.length : Int) 4 1]
def segParts (x : Sv) : List ByteArray := (headParts x ++ x.opts.map optTx) ++ [limTx (x.data.size : Int) 120 2]
def segGood (x : Sv) : Prop := ∀ p ∈ segParts x, ¬ p = ⟨#[]⟩
def segTx (x : Sv) : ByteArray := if placeOf (segParts x) ⟨#[]⟩ < (segParts x).length then ⟨#[]⟩ else joinOf (segParts x) ++ x.data
theorem segGood_iff (x : Sv) : segGood x ↔ ¬ placeOf (segParts x) ⟨#[]⟩ < (segParts x).length := by
  unfold segGood
  rw [placeOf_mem]
  exact ⟨fun h hm => h _ hm rfl, fun h p hp he => h (he ▸ hp)⟩
theorem segTx_yes (x : Sv) (h : segGood x) : segTx x = joinOf (segParts x) ++ x.data := by unfold segTx; rw [if_neg ((segGood_iff x).1 h)]
theorem segTx_no (x : Sv) (h : ¬ segGood x) : segTx x = ⟨#[]⟩ := by
  unfold segTx
  rw [if_pos]
  exact Classical.byContradiction fun h2 => h ((segGood_iff x).2 h2)

theorem rowOf_le4 (a b c d : ByteArray) (n : Nat) (h : a.size + b.size + c.size + d.size ≤ n) : (rowOf [a, b, c, d]).size ≤ n := by
  have := rowOf_le [a, b, c, d]
  simp only [List.map_cons, List.map_nil, List.sum_cons, List.sum_nil] at this
  omega
theorem rowOf_le3 (a b c : ByteArray) (n : Nat) (h : a.size + b.size + c.size ≤ n) : (rowOf [a, b, c]).size ≤ n := by
  have := rowOf_le [a, b, c]
  simp only [List.map_cons, List.map_nil, List.sum_cons, List.sum_nil] at this
  omega
theorem fieldsOf_le (o : Ov) : (fieldsOf o).size ≤ 1000 := by
  have k8 := ofSz_le o.key 8 (by omega)
  have m8 := ofSz_le o.mark 8 (by omega)
  have m20 := ofSz_le o.mark 20 (by omega)
  have n1 := numTx_le o.id 1
  have n2 := numTx_le o.token 4
  have n3 := numTx_le o.nonce 4
  have n4 := numTx_le o.ack 6
  have n5 := numTx_le o.seq 6
  have n6 := numTx_le o.sub 4
  have n7 := numTx_le o.len 2
  have n8 := numTx_le o.addr 4
  have n9 := numTx_le o.port 2
  have n10 : (flagTx o.flag).size ≤ 6 := numTx_le _ _
  have n11 := goneTx_le o.ids
  unfold fieldsOf
  repeat' split
  all_goals first
    | omega
    | exact rowOf_le4 _ _ _ _ _ (by omega)
    | exact rowOf_le3 _ _ _ _ (by omega)
    | (show 0 ≤ 1000; omega)
theorem optTx_le (o : Ov) : (optTx o).size ≤ 1100 := by
  have h1 := fieldsOf_le o
  have h2 := numTx_le o.kind 1
  have h3 := numTx_le ((fieldsOf o).size : Int) 1
  unfold optTx headed
  repeat' split
  all_goals first
    | (show 0 ≤ 1100; omega)
    | (simp only [ByteArray.size_append]; omega)

theorem segParts_le (x : Sv) : ∀ p ∈ segParts x, p.size ≤ 1100 := by
  intro p hp
  unfold segParts headParts at hp
  simp only [List.mem_append, List.mem_cons, List.not_mem_nil, or_false, List.mem_map] at hp
  have h := fun n m => numTx_le n m
  have h' := fun n m w => limTx_le n m w
  rcases hp with ((rfl | rfl | rfl | rfl | rfl | rfl | rfl | rfl) | ⟨o, -, rfl⟩) | rfl
  all_goals first
    | exact Nat.le_trans (h _ _) (by omega)
    | exact Nat.le_trans (h' _ _ _) (by omega)
    | exact optTx_le _
theorem join_take_le (xs : List ByteArray) (h : ∀ p ∈ xs, p.size ≤ 1100) (k : Nat) (hk : k ≤ xs.length) : (joinOf (xs.take k)).size ≤ 1100 * k := by
  rw [joinOf_size]
  have := sum_le (xs.take k) 1100 (fun p hp => h p (List.mem_of_mem_take hp))
  rw [List.length_take, Nat.min_eq_left hk] at this
  exact this

theorem seg_all {w W : World} {g : Nat} {x : Sv} {v : Value} (h : Cel W g 36 (x.cells v)) (hb : Below w.heap.size w W) :
    W.cell? ⟨g, 0, none⟩ = some (.int .i64 x.frm) ∧ W.cell? ⟨g, 1, none⟩ = some (.int .i64 x.to) ∧ W.cell? ⟨g, 2, none⟩ = some (.int .i64 x.port) ∧ W.cell? ⟨g, 3, none⟩ = some (.int .i64 x.peer) ∧ W.cell? ⟨g, 4, none⟩ = some (.int .i64 x.seq) ∧ W.cell? ⟨g, 5, none⟩ = some (.int .i64 x.ack) ∧ W.cell? ⟨g, 6, none⟩ = some (.int .i64 x.flags) ∧ W.cell? ⟨g, 7, none⟩ = some v ∧ W.cell? ⟨g, 8, none⟩ = some (.string x.data) ∧ Cel W g 36 (x.cells v) ∧ Below w.heap.size w W := by
  obtain ⟨a0, a1, a2, a3, a4, a5, a6, a7, a8⟩ := x.ats v
  refine ⟨?_, ?_, ?_, ?_, ?_, ?_, ?_, ?_, ?_, h, hb⟩ <;> rw [Cel.cell h] <;> assumption
theorem seg_keep {w W W' : World} {g : Nat} {x : Sv} {v : Value} (h : W.cell? ⟨g, 0, none⟩ = some (.int .i64 x.frm) ∧ W.cell? ⟨g, 1, none⟩ = some (.int .i64 x.to) ∧ W.cell? ⟨g, 2, none⟩ = some (.int .i64 x.port) ∧ W.cell? ⟨g, 3, none⟩ = some (.int .i64 x.peer) ∧ W.cell? ⟨g, 4, none⟩ = some (.int .i64 x.seq) ∧ W.cell? ⟨g, 5, none⟩ = some (.int .i64 x.ack) ∧ W.cell? ⟨g, 6, none⟩ = some (.int .i64 x.flags) ∧ W.cell? ⟨g, 7, none⟩ = some v ∧ W.cell? ⟨g, 8, none⟩ = some (.string x.data) ∧ Cel W g 36 (x.cells v) ∧ Below w.heap.size w W) (hb : Below W.heap.size W W') :
    W'.cell? ⟨g, 0, none⟩ = some (.int .i64 x.frm) ∧ W'.cell? ⟨g, 1, none⟩ = some (.int .i64 x.to) ∧ W'.cell? ⟨g, 2, none⟩ = some (.int .i64 x.port) ∧ W'.cell? ⟨g, 3, none⟩ = some (.int .i64 x.peer) ∧ W'.cell? ⟨g, 4, none⟩ = some (.int .i64 x.seq) ∧ W'.cell? ⟨g, 5, none⟩ = some (.int .i64 x.ack) ∧ W'.cell? ⟨g, 6, none⟩ = some (.int .i64 x.flags) ∧ W'.cell? ⟨g, 7, none⟩ = some v ∧ W'.cell? ⟨g, 8, none⟩ = some (.string x.data) ∧ Cel W' g 36 (x.cells v) ∧ Below w.heap.size w W' :=
  seg_all (h.2.2.2.2.2.2.2.2.2.1.kept hb) (Below.then_ h.2.2.2.2.2.2.2.2.2.2 hb)
theorem seg_drew {w W : World} {g : Nat} {x : Sv} {v : Value} (h : Cel W g 36 (x.cells v)) (hb : Below w.heap.size w W) :
    W.drew.cell? ⟨g, 0, none⟩ = some (.int .i64 x.frm) ∧ W.drew.cell? ⟨g, 1, none⟩ = some (.int .i64 x.to) ∧ W.drew.cell? ⟨g, 2, none⟩ = some (.int .i64 x.port) ∧ W.drew.cell? ⟨g, 3, none⟩ = some (.int .i64 x.peer) ∧ W.drew.cell? ⟨g, 4, none⟩ = some (.int .i64 x.seq) ∧ W.drew.cell? ⟨g, 5, none⟩ = some (.int .i64 x.ack) ∧ W.drew.cell? ⟨g, 6, none⟩ = some (.int .i64 x.flags) ∧ W.drew.cell? ⟨g, 7, none⟩ = some v ∧ W.drew.cell? ⟨g, 8, none⟩ = some (.string x.data) ∧ Cel W.drew g 36 (x.cells v) ∧ Below w.heap.size w W.drew := seg_all (W := W.drew) h hb.drew

theorem own_keep {W W' : World} {e : TypeId} {B n : Nat} {v : Value} {xs : List Value} (h : W.ownsRow B e 1 v n xs) (hb : ∀ g, v.ownBlock = some g → W'.heap[g]? = W.heap[g]?) : W'.ownsRow B e 1 v n xs := by
  obtain ⟨h1, h2⟩ := h
  refine ⟨h1, ?_⟩
  rcases h2 with h2 | ⟨g, cap, cur, hv, hg, hh, r⟩
  · exact .inl h2
  · exact .inr ⟨g, cap, cur, hv, hg, by rw [hb g (by rw [hv]; rfl)]; exact hh, r⟩
theorem own_cell {W : World} {e : TypeId} {B n g cap : Nat} {xs : List Value} (h : W.ownsRow B e 1 (.slice (some ⟨g, 0, none⟩) n cap) n xs) (j : Nat) (hj : j < xs.length) : W.cell? ⟨g, j, none⟩ = some xs[j] := by
  obtain ⟨h1, h2⟩ := h
  rcases h2 with ⟨h2, -⟩ | ⟨g', cap', cur, hv, hg, hh, -, -, hz, ht⟩
  · cases h2
  · injection hv with e1
    injection e1 with e1
    injection e1 with e1
    subst e1
    rw [cell_of_row W g j cur e _ hh, ← Array.getElem?_toList]
    have h3 : (cur.toList.take (n * 1))[j]? = some xs[j] := by rw [ht, List.getElem?_eq_getElem hj]
    rw [List.getElem?_take_of_lt (by omega)] at h3
    exact h3
theorem slice_of2 {W : World} {v : Value} {zs : List Int} (h : Rd W v zs) : ∃ x c, v = .slice x zs.length c := by obtain ⟨x, c, h, -⟩ := h; exact ⟨x, c, h⟩
theorem joinOf_snoc (xs : List ByteArray) (y : ByteArray) : joinOf (xs ++ [y]) = joinOf xs ++ y := by
  apply ByteArray.ext
  apply Array.toList_inj.1
  simp [joinOf]

end Go.Proofs.Ytkpajakangaekab

namespace Go.Proofs.Ytkpajakangaekab
open Go.RowKit
attribute [-go_sem] loadCells loadCellsFrom

theorem lim_ne (n most : Int) (w : Int) (h0 : 1 ≤ w ∧ w ≤ 6) (hm : most < 256) : (¬ limTx n most w = ⟨#[]⟩) ↔ (0 ≤ n ∧ n ≤ most) := by
  unfold limTx
  by_cases h : most < n
  · rw [if_pos h]
    exact ⟨fun h2 => absurd rfl h2, fun h2 => by omega⟩
  · rw [if_neg h, num_ne]
    have e : (256 : Int) ≤ 256 ^ w.toNat := by
      have h1 : (256 : Nat) ^ 1 ≤ 256 ^ w.toNat := Nat.pow_le_pow_right (by omega) (by omega)
      have e2 : ((256 : Int) ^ w.toNat) = ((256 ^ w.toNat : Nat) : Int) := by rw [Int.natCast_pow]; rfl
      rw [e2]
      omega
    constructor
    · rintro ⟨-, -, h1, -⟩; omega
    · rintro ⟨h1, h2⟩; omega

theorem good_iff (x : Sv) : segGood x ↔ ((¬ numText x.frm 4 = ⟨#[]⟩) ∧ (¬ numText x.to 4 = ⟨#[]⟩) ∧ (¬ numText x.port 2 = ⟨#[]⟩) ∧ (¬ numText x.peer 2 = ⟨#[]⟩) ∧ (¬ numText x.seq 4 = ⟨#[]⟩) ∧ (¬ numText x.ack 4 = ⟨#[]⟩) ∧ (0 ≤ x.flags ∧ x.flags ≤ 15) ∧ (¬ (4 : Int) < (x.opts.length : Int)) ∧ (¬ (120 : Int) < (x.data.size : Int)) ∧ ∀ o ∈ x.opts, ¬ optTx o = ⟨#[]⟩) := by
  have e1 := lim_ne x.flags 15 1 (by decide) (by decide)
  have e2 := lim_ne (x.opts.length : Int) 4 1 (by decide) (by decide)
  have e3 := lim_ne (x.data.size : Int) 120 2 (by decide) (by decide)
  unfold segGood segParts headParts
  constructor
  · intro h
    refine ⟨h _ (by simp), h _ (by simp), h _ (by simp), h _ (by simp), h _ (by simp), h _ (by simp), e1.1 (h _ (by simp)), ?_, ?_, fun o ho => h _ (by simp only [List.mem_append, List.mem_map]; exact .inl (.inr ⟨o, ho, rfl⟩))⟩
    · have := e2.1 (h _ (by simp)); omega
    · have := e3.1 (h _ (by simp)); omega
  · rintro ⟨h0, h1, h2, h3, h4, h5, h6, h7, h8, h9⟩ p hp
    simp only [List.mem_append, List.mem_cons, List.not_mem_nil, or_false, List.mem_map] at hp
    rcases hp with ((rfl | rfl | rfl | rfl | rfl | rfl | rfl | rfl) | ⟨o, ho, rfl⟩) | rfl
    · exact h0
    · exact h1
    · exact h2
    · exact h3
    · exact h4
    · exact h5
    · exact e1.2 h6
    · exact e2.2 (by omega)
    · exact h9 o ho
    · exact e3.2 (by omega)

def segB (x : Sv) : Bool := !decide (placeOf (segParts x) ⟨#[]⟩ < (segParts x).length)
theorem segB_iff (x : Sv) : segB x = true ↔ segGood x := by
  unfold segB
  rw [segGood_iff]
  simp
theorem segB_no (x : Sv) (h : ¬ segGood x) : segB x = false := by
  cases hb : segB x with
  | false => rfl
  | true => exact absurd ((segB_iff x).1 hb) h

theorem app_nil2 (a : ByteArray) : a ++ (⟨#[]⟩ : ByteArray) = a := by
  apply ByteArray.ext
  simp [ByteArray.data_append]

theorem lim_in (n most w : Int) (h : n ≤ most) : limTx n most w = numText n w := by
  unfold limTx
  rw [if_neg (by omega)]

theorem join_seg (x : Sv) : joinOf (segParts x) = (joinOf (headParts x) ++ joinOf (x.opts.map optTx)) ++ limTx (x.data.size : Int) 120 2 := by
  unfold segParts
  apply ByteArray.ext
  apply Array.toList_inj.1
  simp [joinOf]
theorem join_eight (a b c d e f g h : ByteArray) : joinOf [a, b, c, d, e, f, g, h] = a ++ b ++ c ++ d ++ e ++ f ++ g ++ h := by
  apply ByteArray.ext
  apply Array.toList_inj.1
  simp [joinOf]

end Go.Proofs.Ytkpajakangaekab

