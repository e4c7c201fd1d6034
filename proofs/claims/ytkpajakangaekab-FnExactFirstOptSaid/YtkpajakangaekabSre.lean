import Derived.Test.YtkpajakangaekabLc
import Derived.Test.YtkpajakangaekabSmk
import Derived.Test.YtkpajakangaekabOv
import Derived.Deep.Cut
namespace Go.Proofs.Ytkpajakangaekab
open Go.RowKit

/-- What an option has that its kind has not: hs tells which letters the kind has. -/
def restB (o : Ov) : List Bool → Bool
  | [h0, h1, h2, h3, h4, h5, h6, h7, h8, h9, h10, h11] => ((((((((((!h0 && (o.id != 0)) || (!h1 && o.flag)) || (!h2 && (o.token != 0))) || (!h3 && (o.nonce != 0))) || (!h4 && (o.ack != 0))) || (!h5 && (o.seq != 0))) || (!h6 && (o.sub != 0))) || (!h7 && (o.len != 0))) || (!h8 && (o.addr != 0))) || (!h9 && (o.port != 0))) || ((!h10 && !decide (o.key = ⟨#[]⟩)) || (!h11 && !decide (o.mark = ⟨#[]⟩)) || ((o.kind != 8) && decide (0 < o.ids.length)))
  | _ => false

theorem empty_beq (s : ByteArray) : s.toList.isEmpty = decide (s = ⟨#[]⟩) := by
  rw [Bool.eq_iff_iff]
  simp only [List.isEmpty_iff, decide_eq_true_eq]
  constructor
  · intro h
    have h2 := ByteArray.toList_eq s
    rw [h] at h2
    exact ByteArray.ext (Array.toList_inj.1 h2.symm)
  · rintro rfl
    exact ByteArray.toList_eq _
theorem empty_beq2 (s : ByteArray) : (s.toList == []) = decide (s = ⟨#[]⟩) := by rw [← empty_beq]; cases s.toList <;> rfl

set_option maxRecDepth 100000 in
set_option maxHeartbeats 4000000 in
theorem rest_walk (o : Ov) (va : Option Addr) (vc : Nat) (sh : ByteArray) (n : Nat) (hn : sh.size = 2 * n) (hn8 : n ≤ 100) (w : World) (hl : o.ids.length ≤ 1048576) (h0 h1 h2 h3 h4 h5 h6 h7 h8 h9 h10 h11 : Bool) (hh : hasUp sh n = [h0, h1, h2, h3, h4, h5, h6, h7, h8, h9, h10, h11]) :
    Calls Try.prog 35 #[.agg (o.cells (.slice va o.ids.length vc)), .string sh] w fun e w' => e = .returned (.bool (restB o [h0, h1, h2, h3, h4, h5, h6, h7, h8, h9, h10, h11])) ∧ Below w.heap.size w w' := by
  have hA0 := OvAt.new w o (.slice va o.ids.length vc)
  have hB0 : Below w.heap.size w (w.alloc (.cells (o.cells (.slice va o.ids.length vc)) 26)) := (Below.refl _ _).alloc (Nat.le_refl _) _
  have cm := spec_marks sh n hn hn8 (w.alloc (.cells (o.cells (.slice va o.ids.length vc)) 26))
  rw [hh] at cm
  clear hh hn
  generalize hr : restB o [h0, h1, h2, h3, h4, h5, h6, h7, h8, h9, h10, h11] = r
  have HR := Lib.hid hr
  clear hr
  go_enter Try.func35, Try.ntmps35
  go_upto_region 2 with (fail)
  with_reducible refine cm.mono ?_
  rintro e W ⟨rfl, hC, hb1⟩
  have hA := hA0.kept hb1
  have hB := Below.then_ hB0 hb1
  clear hA0 hB0 hb1 cm
  go_upto_region 2 with (fail)
  have hgm : (w.alloc (.cells (o.cells (.slice va o.ids.length vc)) 26)).heap.size = w.heap.size + 1 := World.size_alloc _ _
  rw [hgm] at hC
  clear hgm
  generalize hgm : w.heap.size + 1 = gm at hC ⊢
  clear hgm
  have hB2 := Lib.hid hB
  clear hB
  generalize hg : w.heap.size = g at hA ⊢
  clear hg
  have hB := hB2.out
  clear hB2
  obtain ⟨a0, a1, a2, a3, a4, a5, a6, a7, a8, a9, a10, a11, a12, a13⟩ := OvAt.all hA
  have c0 : W.cell? ⟨gm, 0, none⟩ = some (.bool h0) := by rw [hC.cell 0]; rfl
  have c1 : W.cell? ⟨gm, 1, none⟩ = some (.bool h1) := by rw [hC.cell 1]; rfl
  have c2 : W.cell? ⟨gm, 2, none⟩ = some (.bool h2) := by rw [hC.cell 2]; rfl
  have c3 : W.cell? ⟨gm, 3, none⟩ = some (.bool h3) := by rw [hC.cell 3]; rfl
  have c4 : W.cell? ⟨gm, 4, none⟩ = some (.bool h4) := by rw [hC.cell 4]; rfl
  have c5 : W.cell? ⟨gm, 5, none⟩ = some (.bool h5) := by rw [hC.cell 5]; rfl
  have c6 : W.cell? ⟨gm, 6, none⟩ = some (.bool h6) := by rw [hC.cell 6]; rfl
  have c7 : W.cell? ⟨gm, 7, none⟩ = some (.bool h7) := by rw [hC.cell 7]; rfl
  have c8 : W.cell? ⟨gm, 8, none⟩ = some (.bool h8) := by rw [hC.cell 8]; rfl
  have c9 : W.cell? ⟨gm, 9, none⟩ = some (.bool h9) := by rw [hC.cell 9]; rfl
  have c10 : W.cell? ⟨gm, 10, none⟩ = some (.bool h10) := by rw [hC.cell 10]; rfl
  have c11 : W.cell? ⟨gm, 11, none⟩ = some (.bool h11) := by rw [hC.cell 11]; rfl
  clear hA hC
  go_step
  simp only [List.append_eq, List.cons_append, List.nil_append]
  refine wpList_parted 10 (fun a' w' => W = w' ∧ ∃ (z : Nat → Value) (A : Bool), a' = ⟨List.toArray ((Value.agg (o.cells (Value.slice va o.ids.length vc))) :: (Value.string sh) :: (Value.pointer (some ⟨g, 0, none⟩)) :: undef :: (Value.bool false) :: (Value.slice (some ⟨gm, 0, none⟩) 12 12) :: (Value.string sh) :: (Value.slice (some ⟨gm, 0, none⟩) 12 12) :: (z 8) :: (z 9) :: (z 10) :: (z 11) :: (z 12) :: (z 13) :: (z 14) :: (z 15) :: (z 16) :: (Value.bool A) :: undef :: undef :: undef :: undef :: undef :: undef :: undef :: undef :: undef :: undef :: undef :: undef :: undef :: undef :: undef :: undef :: undef :: undef :: undef :: undef :: undef :: undef :: undef :: undef :: undef :: undef :: undef :: undef :: undef :: undef :: undef :: undef :: undef :: undef :: undef :: undef :: undef :: undef :: undef :: undef :: undef :: undef :: undef :: undef :: undef :: undef :: undef :: undef :: undef :: undef :: undef :: undef :: undef :: undef :: undef :: undef :: undef :: undef :: undef :: undef :: undef :: undef :: undef :: undef :: undef :: undef :: undef :: undef :: undef :: undef :: undef :: undef :: undef :: undef :: undef :: undef :: undef :: undef :: undef :: undef :: undef :: undef :: undef :: undef :: undef :: undef :: undef :: undef :: undef :: undef :: undef :: undef :: undef :: undef :: undef :: undef :: undef :: undef :: undef :: undef :: undef :: undef :: undef :: undef :: undef :: undef :: undef :: undef :: undef :: undef :: undef :: undef :: undef :: undef :: undef :: undef :: undef :: undef :: undef :: undef :: undef :: undef :: undef :: undef :: undef :: undef :: undef :: undef :: []), []⟩ ∧ A = (!h0 && (o.id != 0))) ?_ ?_
  · intro Q2 hQ2
    simp only [List.take_succ_cons, List.take_zero]
    clear HR
    cases h0
    all_goals
      go_wp2_with (fail)
      refine hQ2.out _ _ (at_frame _ _ rfl ?_)
      first | rfl | simp
  rintro a' w' ⟨rfl, z, A, rfl, hA⟩
  have HA := Lib.hid hA
  clear hA
  simp only [List.drop_succ_cons, List.drop_zero]
  clear c0 a1
  refine wpList_parted 10 (fun a' w' => W = w' ∧ ∃ (z : Nat → Value) (A : Bool), a' = ⟨List.toArray ((Value.agg (o.cells (Value.slice va o.ids.length vc))) :: (Value.string sh) :: (Value.pointer (some ⟨g, 0, none⟩)) :: undef :: (Value.bool false) :: (Value.slice (some ⟨gm, 0, none⟩) 12 12) :: (Value.string sh) :: (Value.slice (some ⟨gm, 0, none⟩) 12 12) :: (z 8) :: (z 9) :: (z 10) :: (z 11) :: (z 12) :: (z 13) :: (z 14) :: (z 15) :: (z 16) :: (z 17) :: (z 18) :: (z 19) :: (z 20) :: (z 21) :: (z 22) :: (z 23) :: (z 24) :: (z 25) :: (z 26) :: (Value.bool A) :: undef :: undef :: undef :: undef :: undef :: undef :: undef :: undef :: undef :: undef :: undef :: undef :: undef :: undef :: undef :: undef :: undef :: undef :: undef :: undef :: undef :: undef :: undef :: undef :: undef :: undef :: undef :: undef :: undef :: undef :: undef :: undef :: undef :: undef :: undef :: undef :: undef :: undef :: undef :: undef :: undef :: undef :: undef :: undef :: undef :: undef :: undef :: undef :: undef :: undef :: undef :: undef :: undef :: undef :: undef :: undef :: undef :: undef :: undef :: undef :: undef :: undef :: undef :: undef :: undef :: undef :: undef :: undef :: undef :: undef :: undef :: undef :: undef :: undef :: undef :: undef :: undef :: undef :: undef :: undef :: undef :: undef :: undef :: undef :: undef :: undef :: undef :: undef :: undef :: undef :: undef :: undef :: undef :: undef :: undef :: undef :: undef :: undef :: undef :: undef :: undef :: undef :: undef :: undef :: undef :: undef :: undef :: undef :: undef :: undef :: undef :: undef :: undef :: undef :: undef :: undef :: undef :: undef :: []), []⟩ ∧ A = ((!h0 && (o.id != 0)) || (!h1 && o.flag))) ?_ ?_
  · intro Q2 hQ2
    simp only [List.take_succ_cons, List.take_zero]
    clear HR
    cases A
    cases h1
    all_goals
      go_wp2_with (fail)
      refine hQ2.out _ _ (at_frame _ _ rfl ?_)
      rw [← HA.out]; first | rfl | simp
  rintro a' w' ⟨rfl, z, A, rfl, hA⟩
  have HA := Lib.hid hA
  clear hA
  simp only [List.drop_succ_cons, List.drop_zero]
  clear c1 a10
  refine wpList_parted 11 (fun a' w' => W = w' ∧ ∃ (z : Nat → Value) (A : Bool), a' = ⟨List.toArray ((Value.agg (o.cells (Value.slice va o.ids.length vc))) :: (Value.string sh) :: (Value.pointer (some ⟨g, 0, none⟩)) :: undef :: (Value.bool false) :: (Value.slice (some ⟨gm, 0, none⟩) 12 12) :: (Value.string sh) :: (Value.slice (some ⟨gm, 0, none⟩) 12 12) :: (z 8) :: (z 9) :: (z 10) :: (z 11) :: (z 12) :: (z 13) :: (z 14) :: (z 15) :: (z 16) :: (z 17) :: (z 18) :: (z 19) :: (z 20) :: (z 21) :: (z 22) :: (z 23) :: (z 24) :: (z 25) :: (z 26) :: (z 27) :: (z 28) :: (z 29) :: (z 30) :: (z 31) :: (z 32) :: (z 33) :: (z 34) :: (z 35) :: (z 36) :: (z 37) :: (Value.bool A) :: undef :: undef :: undef :: undef :: undef :: undef :: undef :: undef :: undef :: undef :: undef :: undef :: undef :: undef :: undef :: undef :: undef :: undef :: undef :: undef :: undef :: undef :: undef :: undef :: undef :: undef :: undef :: undef :: undef :: undef :: undef :: undef :: undef :: undef :: undef :: undef :: undef :: undef :: undef :: undef :: undef :: undef :: undef :: undef :: undef :: undef :: undef :: undef :: undef :: undef :: undef :: undef :: undef :: undef :: undef :: undef :: undef :: undef :: undef :: undef :: undef :: undef :: undef :: undef :: undef :: undef :: undef :: undef :: undef :: undef :: undef :: undef :: undef :: undef :: undef :: undef :: undef :: undef :: undef :: undef :: undef :: undef :: undef :: undef :: undef :: undef :: undef :: undef :: undef :: undef :: undef :: undef :: undef :: undef :: undef :: undef :: undef :: undef :: undef :: undef :: undef :: undef :: undef :: undef :: undef :: undef :: undef :: []), []⟩ ∧ A = (((!h0 && (o.id != 0)) || (!h1 && o.flag)) || (!h2 && (o.token != 0)))) ?_ ?_
  · intro Q2 hQ2
    simp only [List.take_succ_cons, List.take_zero]
    clear HR
    cases A
    cases h2
    all_goals
      go_wp2_with (fail)
      refine hQ2.out _ _ (at_frame _ _ rfl ?_)
      rw [← HA.out]; first | rfl | simp
  rintro a' w' ⟨rfl, z, A, rfl, hA⟩
  have HA := Lib.hid hA
  clear hA
  simp only [List.drop_succ_cons, List.drop_zero]
  clear c2 a4
  refine wpList_parted 11 (fun a' w' => W = w' ∧ ∃ (z : Nat → Value) (A : Bool), a' = ⟨List.toArray ((Value.agg (o.cells (Value.slice va o.ids.length vc))) :: (Value.string sh) :: (Value.pointer (some ⟨g, 0, none⟩)) :: undef :: (Value.bool false) :: (Value.slice (some ⟨gm, 0, none⟩) 12 12) :: (Value.string sh) :: (Value.slice (some ⟨gm, 0, none⟩) 12 12) :: (z 8) :: (z 9) :: (z 10) :: (z 11) :: (z 12) :: (z 13) :: (z 14) :: (z 15) :: (z 16) :: (z 17) :: (z 18) :: (z 19) :: (z 20) :: (z 21) :: (z 22) :: (z 23) :: (z 24) :: (z 25) :: (z 26) :: (z 27) :: (z 28) :: (z 29) :: (z 30) :: (z 31) :: (z 32) :: (z 33) :: (z 34) :: (z 35) :: (z 36) :: (z 37) :: (z 38) :: (z 39) :: (z 40) :: (z 41) :: (z 42) :: (z 43) :: (z 44) :: (z 45) :: (z 46) :: (z 47) :: (z 48) :: (Value.bool A) :: undef :: undef :: undef :: undef :: undef :: undef :: undef :: undef :: undef :: undef :: undef :: undef :: undef :: undef :: undef :: undef :: undef :: undef :: undef :: undef :: undef :: undef :: undef :: undef :: undef :: undef :: undef :: undef :: undef :: undef :: undef :: undef :: undef :: undef :: undef :: undef :: undef :: undef :: undef :: undef :: undef :: undef :: undef :: undef :: undef :: undef :: undef :: undef :: undef :: undef :: undef :: undef :: undef :: undef :: undef :: undef :: undef :: undef :: undef :: undef :: undef :: undef :: undef :: undef :: undef :: undef :: undef :: undef :: undef :: undef :: undef :: undef :: undef :: undef :: undef :: undef :: undef :: undef :: undef :: undef :: undef :: undef :: undef :: undef :: undef :: undef :: undef :: undef :: undef :: undef :: undef :: undef :: undef :: undef :: undef :: undef :: []), []⟩ ∧ A = ((((!h0 && (o.id != 0)) || (!h1 && o.flag)) || (!h2 && (o.token != 0))) || (!h3 && (o.nonce != 0)))) ?_ ?_
  · intro Q2 hQ2
    simp only [List.take_succ_cons, List.take_zero]
    clear HR
    cases A
    cases h3
    all_goals
      go_wp2_with (fail)
      refine hQ2.out _ _ (at_frame _ _ rfl ?_)
      rw [← HA.out]; first | rfl | simp
  rintro a' w' ⟨rfl, z, A, rfl, hA⟩
  have HA := Lib.hid hA
  clear hA
  simp only [List.drop_succ_cons, List.drop_zero]
  clear c3 a5
  refine wpList_parted 11 (fun a' w' => W = w' ∧ ∃ (z : Nat → Value) (A : Bool), a' = ⟨List.toArray ((Value.agg (o.cells (Value.slice va o.ids.length vc))) :: (Value.string sh) :: (Value.pointer (some ⟨g, 0, none⟩)) :: undef :: (Value.bool false) :: (Value.slice (some ⟨gm, 0, none⟩) 12 12) :: (Value.string sh) :: (Value.slice (some ⟨gm, 0, none⟩) 12 12) :: (z 8) :: (z 9) :: (z 10) :: (z 11) :: (z 12) :: (z 13) :: (z 14) :: (z 15) :: (z 16) :: (z 17) :: (z 18) :: (z 19) :: (z 20) :: (z 21) :: (z 22) :: (z 23) :: (z 24) :: (z 25) :: (z 26) :: (z 27) :: (z 28) :: (z 29) :: (z 30) :: (z 31) :: (z 32) :: (z 33) :: (z 34) :: (z 35) :: (z 36) :: (z 37) :: (z 38) :: (z 39) :: (z 40) :: (z 41) :: (z 42) :: (z 43) :: (z 44) :: (z 45) :: (z 46) :: (z 47) :: (z 48) :: (z 49) :: (z 50) :: (z 51) :: (z 52) :: (z 53) :: (z 54) :: (z 55) :: (z 56) :: (z 57) :: (z 58) :: (z 59) :: (Value.bool A) :: undef :: undef :: undef :: undef :: undef :: undef :: undef :: undef :: undef :: undef :: undef :: undef :: undef :: undef :: undef :: undef :: undef :: undef :: undef :: undef :: undef :: undef :: undef :: undef :: undef :: undef :: undef :: undef :: undef :: undef :: undef :: undef :: undef :: undef :: undef :: undef :: undef :: undef :: undef :: undef :: undef :: undef :: undef :: undef :: undef :: undef :: undef :: undef :: undef :: undef :: undef :: undef :: undef :: undef :: undef :: undef :: undef :: undef :: undef :: undef :: undef :: undef :: undef :: undef :: undef :: undef :: undef :: undef :: undef :: undef :: undef :: undef :: undef :: undef :: undef :: undef :: undef :: undef :: undef :: undef :: undef :: undef :: undef :: undef :: undef :: []), []⟩ ∧ A = (((((!h0 && (o.id != 0)) || (!h1 && o.flag)) || (!h2 && (o.token != 0))) || (!h3 && (o.nonce != 0))) || (!h4 && (o.ack != 0)))) ?_ ?_
  · intro Q2 hQ2
    simp only [List.take_succ_cons, List.take_zero]
    clear HR
    cases A
    cases h4
    all_goals
      go_wp2_with (fail)
      refine hQ2.out _ _ (at_frame _ _ rfl ?_)
      rw [← HA.out]; first | rfl | simp
  rintro a' w' ⟨rfl, z, A, rfl, hA⟩
  have HA := Lib.hid hA
  clear hA
  simp only [List.drop_succ_cons, List.drop_zero]
  clear c4 a9
  refine wpList_parted 11 (fun a' w' => W = w' ∧ ∃ (z : Nat → Value) (A : Bool), a' = ⟨List.toArray ((Value.agg (o.cells (Value.slice va o.ids.length vc))) :: (Value.string sh) :: (Value.pointer (some ⟨g, 0, none⟩)) :: undef :: (Value.bool false) :: (Value.slice (some ⟨gm, 0, none⟩) 12 12) :: (Value.string sh) :: (Value.slice (some ⟨gm, 0, none⟩) 12 12) :: (z 8) :: (z 9) :: (z 10) :: (z 11) :: (z 12) :: (z 13) :: (z 14) :: (z 15) :: (z 16) :: (z 17) :: (z 18) :: (z 19) :: (z 20) :: (z 21) :: (z 22) :: (z 23) :: (z 24) :: (z 25) :: (z 26) :: (z 27) :: (z 28) :: (z 29) :: (z 30) :: (z 31) :: (z 32) :: (z 33) :: (z 34) :: (z 35) :: (z 36) :: (z 37) :: (z 38) :: (z 39) :: (z 40) :: (z 41) :: (z 42) :: (z 43) :: (z 44) :: (z 45) :: (z 46) :: (z 47) :: (z 48) :: (z 49) :: (z 50) :: (z 51) :: (z 52) :: (z 53) :: (z 54) :: (z 55) :: (z 56) :: (z 57) :: (z 58) :: (z 59) :: (z 60) :: (z 61) :: (z 62) :: (z 63) :: (z 64) :: (z 65) :: (z 66) :: (z 67) :: (z 68) :: (z 69) :: (z 70) :: (Value.bool A) :: undef :: undef :: undef :: undef :: undef :: undef :: undef :: undef :: undef :: undef :: undef :: undef :: undef :: undef :: undef :: undef :: undef :: undef :: undef :: undef :: undef :: undef :: undef :: undef :: undef :: undef :: undef :: undef :: undef :: undef :: undef :: undef :: undef :: undef :: undef :: undef :: undef :: undef :: undef :: undef :: undef :: undef :: undef :: undef :: undef :: undef :: undef :: undef :: undef :: undef :: undef :: undef :: undef :: undef :: undef :: undef :: undef :: undef :: undef :: undef :: undef :: undef :: undef :: undef :: undef :: undef :: undef :: undef :: undef :: undef :: undef :: undef :: undef :: undef :: []), []⟩ ∧ A = ((((((!h0 && (o.id != 0)) || (!h1 && o.flag)) || (!h2 && (o.token != 0))) || (!h3 && (o.nonce != 0))) || (!h4 && (o.ack != 0))) || (!h5 && (o.seq != 0)))) ?_ ?_
  · intro Q2 hQ2
    simp only [List.take_succ_cons, List.take_zero]
    clear HR
    cases A
    cases h5
    all_goals
      go_wp2_with (fail)
      refine hQ2.out _ _ (at_frame _ _ rfl ?_)
      rw [← HA.out]; first | rfl | simp
  rintro a' w' ⟨rfl, z, A, rfl, hA⟩
  have HA := Lib.hid hA
  clear hA
  simp only [List.drop_succ_cons, List.drop_zero]
  clear c5 a6
  refine wpList_parted 11 (fun a' w' => W = w' ∧ ∃ (z : Nat → Value) (A : Bool), a' = ⟨List.toArray ((Value.agg (o.cells (Value.slice va o.ids.length vc))) :: (Value.string sh) :: (Value.pointer (some ⟨g, 0, none⟩)) :: undef :: (Value.bool false) :: (Value.slice (some ⟨gm, 0, none⟩) 12 12) :: (Value.string sh) :: (Value.slice (some ⟨gm, 0, none⟩) 12 12) :: (z 8) :: (z 9) :: (z 10) :: (z 11) :: (z 12) :: (z 13) :: (z 14) :: (z 15) :: (z 16) :: (z 17) :: (z 18) :: (z 19) :: (z 20) :: (z 21) :: (z 22) :: (z 23) :: (z 24) :: (z 25) :: (z 26) :: (z 27) :: (z 28) :: (z 29) :: (z 30) :: (z 31) :: (z 32) :: (z 33) :: (z 34) :: (z 35) :: (z 36) :: (z 37) :: (z 38) :: (z 39) :: (z 40) :: (z 41) :: (z 42) :: (z 43) :: (z 44) :: (z 45) :: (z 46) :: (z 47) :: (z 48) :: (z 49) :: (z 50) :: (z 51) :: (z 52) :: (z 53) :: (z 54) :: (z 55) :: (z 56) :: (z 57) :: (z 58) :: (z 59) :: (z 60) :: (z 61) :: (z 62) :: (z 63) :: (z 64) :: (z 65) :: (z 66) :: (z 67) :: (z 68) :: (z 69) :: (z 70) :: (z 71) :: (z 72) :: (z 73) :: (z 74) :: (z 75) :: (z 76) :: (z 77) :: (z 78) :: (z 79) :: (z 80) :: (z 81) :: (Value.bool A) :: undef :: undef :: undef :: undef :: undef :: undef :: undef :: undef :: undef :: undef :: undef :: undef :: undef :: undef :: undef :: undef :: undef :: undef :: undef :: undef :: undef :: undef :: undef :: undef :: undef :: undef :: undef :: undef :: undef :: undef :: undef :: undef :: undef :: undef :: undef :: undef :: undef :: undef :: undef :: undef :: undef :: undef :: undef :: undef :: undef :: undef :: undef :: undef :: undef :: undef :: undef :: undef :: undef :: undef :: undef :: undef :: undef :: undef :: undef :: undef :: undef :: undef :: undef :: []), []⟩ ∧ A = (((((((!h0 && (o.id != 0)) || (!h1 && o.flag)) || (!h2 && (o.token != 0))) || (!h3 && (o.nonce != 0))) || (!h4 && (o.ack != 0))) || (!h5 && (o.seq != 0))) || (!h6 && (o.sub != 0)))) ?_ ?_
  · intro Q2 hQ2
    simp only [List.take_succ_cons, List.take_zero]
    clear HR
    cases A
    cases h6
    all_goals
      go_wp2_with (fail)
      refine hQ2.out _ _ (at_frame _ _ rfl ?_)
      rw [← HA.out]; first | rfl | simp
  rintro a' w' ⟨rfl, z, A, rfl, hA⟩
  have HA := Lib.hid hA
  clear hA
  simp only [List.drop_succ_cons, List.drop_zero]
  clear c6 a7
  refine wpList_parted 11 (fun a' w' => W = w' ∧ ∃ (z : Nat → Value) (A : Bool), a' = ⟨List.toArray ((Value.agg (o.cells (Value.slice va o.ids.length vc))) :: (Value.string sh) :: (Value.pointer (some ⟨g, 0, none⟩)) :: undef :: (Value.bool false) :: (Value.slice (some ⟨gm, 0, none⟩) 12 12) :: (Value.string sh) :: (Value.slice (some ⟨gm, 0, none⟩) 12 12) :: (z 8) :: (z 9) :: (z 10) :: (z 11) :: (z 12) :: (z 13) :: (z 14) :: (z 15) :: (z 16) :: (z 17) :: (z 18) :: (z 19) :: (z 20) :: (z 21) :: (z 22) :: (z 23) :: (z 24) :: (z 25) :: (z 26) :: (z 27) :: (z 28) :: (z 29) :: (z 30) :: (z 31) :: (z 32) :: (z 33) :: (z 34) :: (z 35) :: (z 36) :: (z 37) :: (z 38) :: (z 39) :: (z 40) :: (z 41) :: (z 42) :: (z 43) :: (z 44) :: (z 45) :: (z 46) :: (z 47) :: (z 48) :: (z 49) :: (z 50) :: (z 51) :: (z 52) :: (z 53) :: (z 54) :: (z 55) :: (z 56) :: (z 57) :: (z 58) :: (z 59) :: (z 60) :: (z 61) :: (z 62) :: (z 63) :: (z 64) :: (z 65) :: (z 66) :: (z 67) :: (z 68) :: (z 69) :: (z 70) :: (z 71) :: (z 72) :: (z 73) :: (z 74) :: (z 75) :: (z 76) :: (z 77) :: (z 78) :: (z 79) :: (z 80) :: (z 81) :: (z 82) :: (z 83) :: (z 84) :: (z 85) :: (z 86) :: (z 87) :: (z 88) :: (z 89) :: (z 90) :: (z 91) :: (z 92) :: (Value.bool A) :: undef :: undef :: undef :: undef :: undef :: undef :: undef :: undef :: undef :: undef :: undef :: undef :: undef :: undef :: undef :: undef :: undef :: undef :: undef :: undef :: undef :: undef :: undef :: undef :: undef :: undef :: undef :: undef :: undef :: undef :: undef :: undef :: undef :: undef :: undef :: undef :: undef :: undef :: undef :: undef :: undef :: undef :: undef :: undef :: undef :: undef :: undef :: undef :: undef :: undef :: undef :: undef :: []), []⟩ ∧ A = ((((((((!h0 && (o.id != 0)) || (!h1 && o.flag)) || (!h2 && (o.token != 0))) || (!h3 && (o.nonce != 0))) || (!h4 && (o.ack != 0))) || (!h5 && (o.seq != 0))) || (!h6 && (o.sub != 0))) || (!h7 && (o.len != 0)))) ?_ ?_
  · intro Q2 hQ2
    simp only [List.take_succ_cons, List.take_zero]
    clear HR
    cases A
    cases h7
    all_goals
      go_wp2_with (fail)
      refine hQ2.out _ _ (at_frame _ _ rfl ?_)
      rw [← HA.out]; first | rfl | simp
  rintro a' w' ⟨rfl, z, A, rfl, hA⟩
  have HA := Lib.hid hA
  clear hA
  simp only [List.drop_succ_cons, List.drop_zero]
  clear c7 a8
  refine wpList_parted 11 (fun a' w' => W = w' ∧ ∃ (z : Nat → Value) (A : Bool), a' = ⟨List.toArray ((Value.agg (o.cells (Value.slice va o.ids.length vc))) :: (Value.string sh) :: (Value.pointer (some ⟨g, 0, none⟩)) :: undef :: (Value.bool false) :: (Value.slice (some ⟨gm, 0, none⟩) 12 12) :: (Value.string sh) :: (Value.slice (some ⟨gm, 0, none⟩) 12 12) :: (z 8) :: (z 9) :: (z 10) :: (z 11) :: (z 12) :: (z 13) :: (z 14) :: (z 15) :: (z 16) :: (z 17) :: (z 18) :: (z 19) :: (z 20) :: (z 21) :: (z 22) :: (z 23) :: (z 24) :: (z 25) :: (z 26) :: (z 27) :: (z 28) :: (z 29) :: (z 30) :: (z 31) :: (z 32) :: (z 33) :: (z 34) :: (z 35) :: (z 36) :: (z 37) :: (z 38) :: (z 39) :: (z 40) :: (z 41) :: (z 42) :: (z 43) :: (z 44) :: (z 45) :: (z 46) :: (z 47) :: (z 48) :: (z 49) :: (z 50) :: (z 51) :: (z 52) :: (z 53) :: (z 54) :: (z 55) :: (z 56) :: (z 57) :: (z 58) :: (z 59) :: (z 60) :: (z 61) :: (z 62) :: (z 63) :: (z 64) :: (z 65) :: (z 66) :: (z 67) :: (z 68) :: (z 69) :: (z 70) :: (z 71) :: (z 72) :: (z 73) :: (z 74) :: (z 75) :: (z 76) :: (z 77) :: (z 78) :: (z 79) :: (z 80) :: (z 81) :: (z 82) :: (z 83) :: (z 84) :: (z 85) :: (z 86) :: (z 87) :: (z 88) :: (z 89) :: (z 90) :: (z 91) :: (z 92) :: (z 93) :: (z 94) :: (z 95) :: (z 96) :: (z 97) :: (z 98) :: (z 99) :: (z 100) :: (z 101) :: (z 102) :: (z 103) :: (Value.bool A) :: undef :: undef :: undef :: undef :: undef :: undef :: undef :: undef :: undef :: undef :: undef :: undef :: undef :: undef :: undef :: undef :: undef :: undef :: undef :: undef :: undef :: undef :: undef :: undef :: undef :: undef :: undef :: undef :: undef :: undef :: undef :: undef :: undef :: undef :: undef :: undef :: undef :: undef :: undef :: undef :: undef :: []), []⟩ ∧ A = (((((((((!h0 && (o.id != 0)) || (!h1 && o.flag)) || (!h2 && (o.token != 0))) || (!h3 && (o.nonce != 0))) || (!h4 && (o.ack != 0))) || (!h5 && (o.seq != 0))) || (!h6 && (o.sub != 0))) || (!h7 && (o.len != 0))) || (!h8 && (o.addr != 0)))) ?_ ?_
  · intro Q2 hQ2
    simp only [List.take_succ_cons, List.take_zero]
    clear HR
    cases A
    cases h8
    all_goals
      go_wp2_with (fail)
      refine hQ2.out _ _ (at_frame _ _ rfl ?_)
      rw [← HA.out]; first | rfl | simp
  rintro a' w' ⟨rfl, z, A, rfl, hA⟩
  have HA := Lib.hid hA
  clear hA
  simp only [List.drop_succ_cons, List.drop_zero]
  clear c8 a2
  refine wpList_parted 10 (fun a' w' => W = w' ∧ ∃ (z : Nat → Value) (A : Bool), a' = ⟨List.toArray ((Value.agg (o.cells (Value.slice va o.ids.length vc))) :: (Value.string sh) :: (Value.pointer (some ⟨g, 0, none⟩)) :: undef :: (Value.bool false) :: (Value.slice (some ⟨gm, 0, none⟩) 12 12) :: (Value.string sh) :: (Value.slice (some ⟨gm, 0, none⟩) 12 12) :: (z 8) :: (z 9) :: (z 10) :: (z 11) :: (z 12) :: (z 13) :: (z 14) :: (z 15) :: (z 16) :: (z 17) :: (z 18) :: (z 19) :: (z 20) :: (z 21) :: (z 22) :: (z 23) :: (z 24) :: (z 25) :: (z 26) :: (z 27) :: (z 28) :: (z 29) :: (z 30) :: (z 31) :: (z 32) :: (z 33) :: (z 34) :: (z 35) :: (z 36) :: (z 37) :: (z 38) :: (z 39) :: (z 40) :: (z 41) :: (z 42) :: (z 43) :: (z 44) :: (z 45) :: (z 46) :: (z 47) :: (z 48) :: (z 49) :: (z 50) :: (z 51) :: (z 52) :: (z 53) :: (z 54) :: (z 55) :: (z 56) :: (z 57) :: (z 58) :: (z 59) :: (z 60) :: (z 61) :: (z 62) :: (z 63) :: (z 64) :: (z 65) :: (z 66) :: (z 67) :: (z 68) :: (z 69) :: (z 70) :: (z 71) :: (z 72) :: (z 73) :: (z 74) :: (z 75) :: (z 76) :: (z 77) :: (z 78) :: (z 79) :: (z 80) :: (z 81) :: (z 82) :: (z 83) :: (z 84) :: (z 85) :: (z 86) :: (z 87) :: (z 88) :: (z 89) :: (z 90) :: (z 91) :: (z 92) :: (z 93) :: (z 94) :: (z 95) :: (z 96) :: (z 97) :: (z 98) :: (z 99) :: (z 100) :: (z 101) :: (z 102) :: (z 103) :: (z 104) :: (z 105) :: (z 106) :: (z 107) :: (z 108) :: (z 109) :: (z 110) :: (z 111) :: (z 112) :: (z 113) :: (Value.bool A) :: undef :: undef :: undef :: undef :: undef :: undef :: undef :: undef :: undef :: undef :: undef :: undef :: undef :: undef :: undef :: undef :: undef :: undef :: undef :: undef :: undef :: undef :: undef :: undef :: undef :: undef :: undef :: undef :: undef :: undef :: undef :: []), []⟩ ∧ A = ((((((((((!h0 && (o.id != 0)) || (!h1 && o.flag)) || (!h2 && (o.token != 0))) || (!h3 && (o.nonce != 0))) || (!h4 && (o.ack != 0))) || (!h5 && (o.seq != 0))) || (!h6 && (o.sub != 0))) || (!h7 && (o.len != 0))) || (!h8 && (o.addr != 0))) || (!h9 && (o.port != 0)))) ?_ ?_
  · intro Q2 hQ2
    simp only [List.take_succ_cons, List.take_zero]
    clear HR
    cases A
    cases h9
    all_goals
      go_wp2_with (fail)
      refine hQ2.out _ _ (at_frame _ _ rfl ?_)
      rw [← HA.out]; first | rfl | simp
  rintro a' w' ⟨rfl, z, A, rfl, hA⟩
  have HA := Lib.hid hA
  clear hA
  simp only [List.drop_succ_cons, List.drop_zero]
  clear c9 a3
  cases A
  case true =>
    clear a0 a11 a12 a13 c10 c11
    go_wp2_with (fail)
    go_ret
    exact ⟨by rw [← HR.out]; unfold restB; dsimp only; rw [← HA.out]; rfl, hB⟩
  have hx := HA.out
  have hr2 : ((!h10 && !decide (o.key = ⟨#[]⟩)) || (!h11 && !decide (o.mark = ⟨#[]⟩)) || ((o.kind != 8) && decide (0 < o.ids.length))) = r := by rw [← HR.out]; unfold restB; dsimp only; rw [← hx]; rfl
  have HR2 := Lib.hid hr2
  clear hr2 hx HA HR
  have he1 := empty_beq o.key
  have he2 := empty_beq o.mark
  have he3 := empty_beq2 o.key
  have he4 := empty_beq2 o.mark
  go_upto_region 4 with (fail)
  go_step

  refine wpList_parted 10 (fun a' w' => W = w' ∧ ∃ (z : Nat → Value) (A : Bool), a' = ⟨List.toArray ((Value.agg (o.cells (Value.slice va o.ids.length vc))) :: (Value.string sh) :: (Value.pointer (some ⟨g, 0, none⟩)) :: undef :: (Value.bool false) :: (Value.slice (some ⟨gm, 0, none⟩) 12 12) :: (Value.string sh) :: (Value.slice (some ⟨gm, 0, none⟩) 12 12) :: (z 8) :: (z 9) :: (z 10) :: (z 11) :: (z 12) :: (z 13) :: (z 14) :: (z 15) :: (z 16) :: (z 17) :: (z 18) :: (z 19) :: (z 20) :: (z 21) :: (z 22) :: (z 23) :: (z 24) :: (z 25) :: (z 26) :: (z 27) :: (z 28) :: (z 29) :: (z 30) :: (z 31) :: (z 32) :: (z 33) :: (z 34) :: (z 35) :: (z 36) :: (z 37) :: (z 38) :: (z 39) :: (z 40) :: (z 41) :: (z 42) :: (z 43) :: (z 44) :: (z 45) :: (z 46) :: (z 47) :: (z 48) :: (z 49) :: (z 50) :: (z 51) :: (z 52) :: (z 53) :: (z 54) :: (z 55) :: (z 56) :: (z 57) :: (z 58) :: (z 59) :: (z 60) :: (z 61) :: (z 62) :: (z 63) :: (z 64) :: (z 65) :: (z 66) :: (z 67) :: (z 68) :: (z 69) :: (z 70) :: (z 71) :: (z 72) :: (z 73) :: (z 74) :: (z 75) :: (z 76) :: (z 77) :: (z 78) :: (z 79) :: (z 80) :: (z 81) :: (z 82) :: (z 83) :: (z 84) :: (z 85) :: (z 86) :: (z 87) :: (z 88) :: (z 89) :: (z 90) :: (z 91) :: (z 92) :: (z 93) :: (z 94) :: (z 95) :: (z 96) :: (z 97) :: (z 98) :: (z 99) :: (z 100) :: (z 101) :: (z 102) :: (z 103) :: (z 104) :: (z 105) :: (z 106) :: (z 107) :: (z 108) :: (z 109) :: (z 110) :: (z 111) :: (z 112) :: (z 113) :: (Value.bool false) :: (z 115) :: (z 116) :: (z 117) :: (z 118) :: (z 119) :: (z 120) :: (z 121) :: (z 122) :: (z 123) :: (Value.bool A) :: undef :: undef :: undef :: undef :: undef :: undef :: undef :: undef :: undef :: undef :: undef :: undef :: undef :: undef :: undef :: undef :: undef :: undef :: undef :: undef :: undef :: []), []⟩ ∧ A = (!h10 && !decide (o.key = ⟨#[]⟩))) ?_ ?_
  · intro Q2 hQ2
    simp only [List.take_succ_cons, List.take_zero]
    clear HR2
    cases h10
    all_goals
      go_wp2_with (fail)
      refine hQ2.out _ _ (at_frame _ _ rfl ?_)
      first | rfl | simp
  rintro a' w' ⟨rfl, z, A, rfl, hA⟩
  have HA := Lib.hid hA
  clear hA
  simp only [List.drop_succ_cons, List.drop_zero]
  refine wpList_parted 11 (fun a' w' => W = w' ∧ ∃ (z : Nat → Value) (A : Bool), a' = ⟨List.toArray ((Value.agg (o.cells (Value.slice va o.ids.length vc))) :: (Value.string sh) :: (Value.pointer (some ⟨g, 0, none⟩)) :: undef :: (Value.bool false) :: (Value.slice (some ⟨gm, 0, none⟩) 12 12) :: (Value.string sh) :: (Value.slice (some ⟨gm, 0, none⟩) 12 12) :: (z 8) :: (z 9) :: (z 10) :: (z 11) :: (z 12) :: (z 13) :: (z 14) :: (z 15) :: (z 16) :: (z 17) :: (z 18) :: (z 19) :: (z 20) :: (z 21) :: (z 22) :: (z 23) :: (z 24) :: (z 25) :: (z 26) :: (z 27) :: (z 28) :: (z 29) :: (z 30) :: (z 31) :: (z 32) :: (z 33) :: (z 34) :: (z 35) :: (z 36) :: (z 37) :: (z 38) :: (z 39) :: (z 40) :: (z 41) :: (z 42) :: (z 43) :: (z 44) :: (z 45) :: (z 46) :: (z 47) :: (z 48) :: (z 49) :: (z 50) :: (z 51) :: (z 52) :: (z 53) :: (z 54) :: (z 55) :: (z 56) :: (z 57) :: (z 58) :: (z 59) :: (z 60) :: (z 61) :: (z 62) :: (z 63) :: (z 64) :: (z 65) :: (z 66) :: (z 67) :: (z 68) :: (z 69) :: (z 70) :: (z 71) :: (z 72) :: (z 73) :: (z 74) :: (z 75) :: (z 76) :: (z 77) :: (z 78) :: (z 79) :: (z 80) :: (z 81) :: (z 82) :: (z 83) :: (z 84) :: (z 85) :: (z 86) :: (z 87) :: (z 88) :: (z 89) :: (z 90) :: (z 91) :: (z 92) :: (z 93) :: (z 94) :: (z 95) :: (z 96) :: (z 97) :: (z 98) :: (z 99) :: (z 100) :: (z 101) :: (z 102) :: (z 103) :: (z 104) :: (z 105) :: (z 106) :: (z 107) :: (z 108) :: (z 109) :: (z 110) :: (z 111) :: (z 112) :: (z 113) :: (Value.bool false) :: (z 115) :: (z 116) :: (z 117) :: (z 118) :: (z 119) :: (z 120) :: (z 121) :: (z 122) :: (z 123) :: (z 124) :: (z 125) :: (z 126) :: (z 127) :: (z 128) :: (z 129) :: (z 130) :: (z 131) :: (z 132) :: (z 133) :: (z 134) :: (Value.bool A) :: undef :: undef :: undef :: undef :: undef :: undef :: undef :: undef :: undef :: undef :: []), []⟩ ∧ A = ((!h10 && !decide (o.key = ⟨#[]⟩)) || (!h11 && !decide (o.mark = ⟨#[]⟩)))) ?_ ?_
  · intro Q2 hQ2
    simp only [List.take_succ_cons, List.take_zero]
    clear HR2
    cases A
    cases h11
    all_goals
      go_wp2_with (fail)
      refine hQ2.out _ _ (at_frame _ _ rfl ?_)
      rw [← HA.out]; first | rfl | simp
  rintro a' w' ⟨rfl, z, A, rfl, hA⟩
  have HA := Lib.hid hA
  clear hA
  simp only [List.drop_succ_cons, List.drop_zero]
  have hq : (o.ids.length : Int) ≤ 1048576 := by omega
  by_cases hk8 : o.kind = 8
  · rw [hk8] at a0
    cases A
    all_goals
      go_wp2_with (fail)
      go_ret
      exact ⟨by rw [← HR2.out, ← HA.out, hk8]; rfl, hB⟩
  · have k1 : (o.kind == 8) = false := by simpa using hk8
    have k2 : (o.kind != 8) = true := by simpa using hk8
    by_cases hz : 0 < o.ids.length
    · have hz2 : (0 : Int) < (o.ids.length : Int) := by omega
      cases A
      all_goals
        go_wp2_with (fail)
        go_ret
        exact ⟨by rw [← HR2.out, ← HA.out, k2, decide_eq_true hz]; rfl, hB⟩
    · have hz2 : ¬ (0 : Int) < (o.ids.length : Int) := by omega
      cases A
      all_goals
        go_wp2_with (fail)
        go_ret
        exact ⟨by rw [← HR2.out, ← HA.out, k2, decide_eq_false hz]; rfl, hB⟩

end Go.Proofs.Ytkpajakangaekab
