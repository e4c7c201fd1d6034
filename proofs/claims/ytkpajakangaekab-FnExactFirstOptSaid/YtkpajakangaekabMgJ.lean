import Derived.Test.YtkpajakangaekabSpu
import Derived.Test.YtkpajakangaekabMgI
import Derived.StillTailTactics
import Derived.Deep.AppendLies
import Derived.Deep.RegionLaw
import Derived.Test.YtkpajakangaekabMgO
namespace Go.Proofs.Ytkpajakangaekab
open Go.RowKit
attribute [-go_sem] loadCells loadCellsFrom

theorem wide_in (k : Int) (j : Nat) (hj : j < shN k) : 1 ≤ wideOf (widOf (shapeOf k) j) ∧ wideOf (widOf (shapeOf k) j) ≤ 20 := by
  have h4 := (shape_even k).2
  by_cases h : 1 ≤ k ∧ k ≤ 10
  · rcases kind_ten k h with rfl | rfl | rfl | rfl | rfl | rfl | rfl | rfl | rfl | rfl
    all_goals
      have hc : j = 0 ∨ j = 1 ∨ j = 2 ∨ j = 3 := by omega
      rcases hc with rfl | rfl | rfl | rfl
      all_goals first | (revert hj; decide +kernel) | (decide +kernel)
  · rw [shN_out k h] at hj
    omega

theorem offUp_le (k : Int) (i j : Nat) (hij : i ≤ j) (hj : j ≤ shN k) : offUp (shapeOf k) i ≤ offUp (shapeOf k) j := by
  induction j with
  | zero => obtain rfl : i = 0 := by omega
            exact Int.le_refl _
  | succ j ih =>
    by_cases h : i = j + 1
    · subst h; exact Int.le_refl _
    · have h1 := ih (by omega) (by omega)
      have h2 := wide_in k j (by omega)
      rw [offUp_succ]
      omega
theorem offUp_nn (k : Int) (j : Nat) (hj : j ≤ shN k) : 0 ≤ offUp (shapeOf k) j := by
  have := offUp_le k 0 j (by omega) hj
  rw [offUp_zero] at this
  exact this

theorem kindOnly (K : Int) : ({ Ov.zero with kind := K } : Ov).cells (.slice none 0 0) = #[.int .i64 K, .int .i64 0, .int .i64 0, .int .i64 0, .int .i64 0, .int .i64 0, .int .i64 0, .int .i64 0, .int .i64 0, .int .i64 0, .bool false, .string ⟨#[]⟩, .string ⟨#[]⟩, .slice none 0 0] := by unfold Ov.cells Ov.zero; rfl

theorem read_no (s : ByteArray) (a : Int) (h : ¬ Sro s a) : readO s a = Ov.zero ∧ readP s a = -1 := by
  have hr : readOk s a = false := by
    cases hs : readOk s a with
    | false => rfl
    | true => exact absurd (read_sro s a hs) h
  unfold readO readP
  rw [hr]
  exact ⟨rfl, rfl⟩
theorem read_yes (s : ByteArray) (a : Int) (h : Sro s a) : readO s a = sroC s a ∧ readP s a = a + 2 + nAt s (a + 1) 1 := by
  obtain ⟨h1, h2, h3⟩ := sro_read s a h
  unfold readO readP
  rw [h1, h2, h3]
  exact ⟨rfl, rfl⟩

theorem rdt_all {w W : World} {g0 g2 : Nat} {o : Ov} {v : Value} (h : Rdt w W g0 g2 o v) : Rdt w W g0 g2 o v ∧ (loadCells ⟨g2, 0, none⟩ 14).run Try.prog W = .ok (o.cells v) W :=
  ⟨h, Cel.loadRow h.c 14 (Ov.cells_size _ _) (P := Try.prog)⟩
theorem rdt_keep {w W W' : World} {g0 g2 : Nat} {o : Ov} {v : Value} (h : Rdt w W g0 g2 o v ∧ (loadCells ⟨g2, 0, none⟩ 14).run Try.prog W = .ok (o.cells v) W) (hb : Below W.heap.size W W') :
    Rdt w W' g0 g2 o v ∧ (loadCells ⟨g2, 0, none⟩ 14).run Try.prog W' = .ok (o.cells v) W' := rdt_all (h.1.kept hb)
theorem rdt_drew {w W : World} {g0 g2 : Nat} {o : Ov} {v : Value} (h : Rdt w W g0 g2 o v) : Rdt w W.drew g0 g2 o v ∧ (loadCells ⟨g2, 0, none⟩ 14).run Try.prog W.drew = .ok (o.cells v) W.drew :=
  rdt_all ⟨h.z, h.c, h.r, h.b.drew⟩

end Go.Proofs.Ytkpajakangaekab

namespace Go.Proofs.Ytkpajakangaekab
open Go.RowKit
attribute [-go_sem] loadCells loadCellsFrom

set_option maxRecDepth 100000 in
theorem mark_opt (o : Ov) (v : Value) (w : World) (B C k : Nat) (hv : IRow w B C v o.ids) (hBw : B ≤ w.heap.size) (hCw : C ≤ w.heap.size) (hn : o.ids.length ≤ 1048576) (hk : k ≤ 1099511627776) :
    Calls Try.prog 26 #[.agg (o.cells v), .int .i64 (k : Int)] w fun e w' => e = .returned (.int .i64 ((k + o.ids.length : Nat) : Int)) ∧ IRow w' B C v (marks k o.ids.length) ∧ Below B w w' ∧ w.heap.size ≤ w'.heap.size ∧ ∀ i, i < w.heap.size → v.ownBlock ≠ some i → w'.heap[i]? = w.heap[i]? := by
  have hb0 := below_new w (.cells (o.cells v) 26)
  have hr := hv.keep hb0 hCw
  have c1 := mark_ints_only v o.ids _ B C k hr hn hk
  obtain ⟨va, vc, rfl⟩ : ∃ x c, v = .slice x o.ids.length c := by obtain ⟨x, c, h, -⟩ := hv.rd; exact ⟨x, c, h⟩
  have a13 := (o.ats (.slice va o.ids.length vc)).2.2.2.2.2.2.2.2.2.2.2.2.2
  go_enter Try.func26, Try.ntmps26
  go_wp2_with (fail)
  with_reducible refine c1.mono ?_
  rintro e w1 ⟨rfl, h1, h2, h3⟩
  go_wp2_with (fail)
  go_ret
  have hsz := h2.size
  rw [World.size_alloc] at hsz
  exact ⟨rfl, h1, (hb0.mono hBw).trans h2, by omega, fun i hi hne => (h3 i hne).trans (hb0.block i hi)⟩

set_option maxRecDepth 100000 in
theorem held_opt (o : Ov) (v : Value) (w : World) (k n : Nat) (hv : Rd w v (marks k n)) (hl : n = o.ids.length) (hn : n ≤ 1048576) (hk : k ≤ 1099511627776) :
    Calls Try.prog 27 #[.agg (o.cells v), .int .i64 (k : Int)] w fun e w' => e = .returned (.int .i64 ((k + n : Nat) : Int)) ∧ Below w.heap.size w w' := by
  have hb0 := below_new w (.cells (o.cells v) 26)
  have c1 := held_ints v k n _ (hv.below hb0) hn hk
  obtain ⟨va, vc, rfl⟩ : ∃ x c, v = .slice x o.ids.length c := by obtain ⟨x, c, h, -⟩ := hv; rw [marks_length, hl] at h; exact ⟨x, c, h⟩
  have a13 := (o.ats (.slice va o.ids.length vc)).2.2.2.2.2.2.2.2.2.2.2.2.2
  have q : ¬ ((k + n : Nat) : Int) < 0 := by omega
  generalize ((k + n : Nat) : Int) = r at *
  clear hv hl
  go_enter Try.func27, Try.ntmps27
  go_wp2_with (fail)
  with_reducible refine c1.mono ?_
  rintro e w1 ⟨rfl, rfl⟩
  go_wp2_with (fail)
  go_ret
  exact ⟨rfl, hb0⟩

theorem readO_ids_le (s : ByteArray) (a : Int) : (readO s a).ids.length ≤ 1048576 := by
  unfold readO
  split
  · have := rdo_ids_le s a; omega
  · exact Nat.zero_le _

/-- What stays while the law goes on: two answers in their blocks. -/
structure Rl (w W : World) (g5 g7 : Nat) (o : Ov) (v0 v1 : Value) (xs : List Int) : Prop where
  c5 : Cel W g5 26 (o.cells v0)
  c7 : Cel W g7 26 (o.cells v1)
  r0 : Rd W v0 o.ids
  r1 : Rd W v1 xs
  b : Below w.heap.size w W
theorem Rl.kept {w W W' : World} {g5 g7 : Nat} {o : Ov} {v0 v1 : Value} {xs : List Int} (h : Rl w W g5 g7 o v0 v1 xs) (hb : Below W.heap.size W W') : Rl w W' g5 g7 o v0 v1 xs :=
  ⟨h.c5.kept hb, h.c7.kept hb, h.r0.below hb, h.r1.below hb, Below.then_ h.b hb⟩

theorem slice_of {W : World} {v : Value} {zs : List Int} (h : Rd W v zs) : ∃ x c, v = .slice x zs.length c := by obtain ⟨x, c, h, -⟩ := h; exact ⟨x, c, h⟩

end Go.Proofs.Ytkpajakangaekab

