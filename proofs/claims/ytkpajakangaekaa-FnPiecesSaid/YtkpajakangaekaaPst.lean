import Derived.Test.YtkpajakangaekaaPmk
import Derived.Deep.QuietTactic
import Derived.BigQuiet
import Derived.Deep.RegionHeld3
namespace Go.Proofs.Ytkpajakangaekaa
open Go.RowKit

theorem keep_txt {w W W' : World} {b j : Nat} {y : ByteArray} (h : W.cell? ⟨b, j, none⟩ = some (.string y) ∧ Below w.heap.size w W) (hb : Below W.heap.size W W') : W'.cell? ⟨b, j, none⟩ = some (.string y) ∧ Below w.heap.size w W' :=
  ⟨by rw [hb.cell (World.block_lt_of_cell? _ _ h.1)]; exact h.1, Below.then_ h.2 hb⟩

set_option maxRecDepth 100000 in
set_option maxHeartbeats 2000000 in
theorem held_pieceS (v : Value) (k n : Nat) (w : World) (hv : RdP w v (markP k n)) (hn : n ≤ 2097152) (hk1 : 1 ≤ k) (hk : k ≤ 1000000000000) :
    Calls Try.prog 48 #[v, .int .i64 (k : Int)] w fun e w' => e = .returned (.int .i64 ((k + n * 2 : Nat) : Int)) ∧ Below w.heap.size w w' := by
  obtain ⟨a, c, rfl⟩ : ∃ a c, v = .slice a n c := by
    obtain ⟨a, c, h⟩ := hv.form
    rw [markP_length] at h
    exact ⟨a, c, h⟩
  go_enter Try.func48, Try.ntmps48
  go_wp2_with (fail)
  go_loopw [1, 5] (fun m i wr => ∃ j : Nat, j ≤ n ∧ m = .int .i64 ((k + j * 2 : Nat) : Int) ∧ i = .int .i64 j ∧ Below w.heap.size w wr) (fun _ i _ => n - (intOf i).toNat)
  case atStart => exact ⟨0, by omega, by simp, rfl, Below.refl _ _⟩
  case round =>
    obtain ⟨j, hj, rfl, rfl, hb⟩ := hrel
    by_cases hlt : j < n
    · obtain ⟨b, off, ha, -, c0, c1, -⟩ := pc_at (P := Try.prog) (hv.below hb) j (by rw [markP_length]; exact hlt)
      subst ha
      rw [markP_at k n j hlt] at c0 c1
      have q : (0 : Int) ≤ (j : Int) ∧ (j : Int) < (n : Int) := by omega
      have e1 : IntKind.i64.wrap (((k + j * 2 : Nat) : Int) + 1) = ((k + j * 2 + 1 : Nat) : Int) := by rw [IntWalk.i64_in _ (by omega)]; omega
      have e2 : IntKind.i64.wrap (((k + j * 2 + 1 : Nat) : Int) + 1) = ((k + j * 2 + 2 : Nat) : Int) := by rw [IntWalk.i64_in _ (by omega)]; omega
      have cm := fun W => mark_text (k + j * 2 + 1) W (by omega) (by omega)
      simp only at c0 c1
      generalize hx0 : ((k + j * 2 : Nat) : Int) = x0 at *
      generalize hx1 : ((k + j * 2 + 1 : Nat) : Int) = x1 at *
      generalize hx2 : ((k + j * 2 + 2 : Nat) : Int) = x2 at *
      generalize mtext (k + j * 2 + 1) = tx at *
      have HX := Lib.hid (And.intro hx0 (And.intro hx1 hx2))
      have S0 : wr.drew.cell? ⟨b, off + j * 2 + 1, none⟩ = some (.string tx) ∧ Below w.heap.size w wr.drew := ⟨c1, hb.drew⟩
      clear hv hx0 hx1 hx2
      go_wp2_with (fail)
      go_region_held3 (fun W => W.cell? ⟨b, off + j * 2 + 1, none⟩ = some (.string tx) ∧ Below w.heap.size w W)
        (first | exact S0 | exact keep_txt (by assumption) (by assumption) | go_keep)
        (first | (go_at_call 58; (with_reducible refine (cm _).mono ?_); rintro e w3 ⟨rfl, hb3⟩))
      go_wp2_with (fail)
      go_roundw
      case rel => exact ⟨j + 1, by omega, congrArg (Value.int .i64) (by have := HX.out; omega), by go_num, Below.then_ hb.drew hb3⟩
      case measure => simp [intOf]; omega
    · obtain rfl : j = n := by omega
      go_wp2_with (fail)
      go_ret
      exact ⟨rfl, hb⟩

/-! Whole streams. -/
set_option maxRecDepth 100000 in
theorem sz_pieces (r : Int) (t : ByteArray) (v : Value) (ms : List Pc) (left : Int) (w : World) (hv : RdP w v ms) (hn : ms.length ≤ 9223372036854775807) (ht : t.size ≤ 9223372036854775807) (hs : ∀ x ∈ ms, x.text.size ≤ 9223372036854775807) (h0 : 0 ≤ left) (h1 : left ≤ 1048576) :
    Calls Try.prog 21 #[.agg #[.int .i64 r, .string t, v], .int .i64 left] w fun e w' => e = .returned (.int .i64 (if left - (t.size : Int) < 0 then -1 else szL (left - (t.size : Int)) ms.length (sumP ms))) ∧ Below w.heap.size w w' := by
  have HB := below_new w (.cells #[.int .i64 r, .string t, v] 41)
  have hv2 := hv.below HB
  have hC := Cel.new w 41 #[.int .i64 r, .string t, v]
  obtain ⟨a, c, rfl⟩ := hv.form
  clear hv
  by_cases hl : left - (t.size : Int) < 0
  · rw [if_pos hl]
    clear hs hv2 hC
    have HB := Lib.hid HB
    go_enter Try.func21, Try.ntmps21
    go_wp2_with (fail)
    go_ret
    exact ⟨rfl, HB.out⟩
  · rw [if_neg hl]
    have c1 := sz_pieceS _ ms (left - (t.size : Int)) _ hv2 hn hs (by omega) (by omega)
    have hz : szL (left - (t.size : Int)) ms.length (sumP ms) < 0 ∨ ¬ szL (left - (t.size : Int)) ms.length (sumP ms) < 0 := by omega
    have hz2 : szL (left - (t.size : Int)) ms.length (sumP ms) < 0 → szL (left - (t.size : Int)) ms.length (sumP ms) = -1 := by unfold szL; split <;> omega
    generalize szL (left - (t.size : Int)) ms.length (sumP ms) = z at *
    have HB := Lib.hid HB
    clear hs hv2
    have q : ¬ left - (t.size : Int) < 0 := hl
    have e1 : IntKind.i64.wrap (left - (t.size : Int)) = left - (t.size : Int) := IntWalk.i64_in _ (by omega)
    rcases hz with hz | hz
    · obtain rfl := hz2 hz
      go_enter Try.func21, Try.ntmps21
      go_wp2_with (fail)
      with_reducible refine c1.mono ?_
      rintro e w2 ⟨rfl, hb2⟩
      have HB2 := Lib.hid (Below.then_ HB.out hb2)
      clear hb2
      go_wp2_with (fail)
      go_ret
      exact ⟨rfl, HB2.out⟩
    · clear hz2
      go_enter Try.func21, Try.ntmps21
      go_wp2_with (fail)
      with_reducible refine c1.mono ?_
      rintro e w2 ⟨rfl, hb2⟩
      have HB2 := Lib.hid (Below.then_ HB.out hb2)
      clear hb2
      go_wp2_with (fail)
      go_ret
      exact ⟨rfl, HB2.out⟩

set_option maxRecDepth 100000 in
theorem eq_pieces (r : Int) (t : ByteArray) (v u : Value) (ms : List Pc) (w : World) (hv : RdP w v ms) (hu : RdP w u ms) (hn : ms.length ≤ 9223372036854775807) :
    Calls Try.prog 23 #[.agg #[.int .i64 r, .string t, v], .agg #[.int .i64 r, .string t, u]] w fun e w' => e = .returned (.bool true) ∧ Below w.heap.size w w' := by
  have hB : Below w.heap.size w ((w.alloc (.cells #[.int .i64 r, .string t, v] 28)).alloc (.cells #[.int .i64 r, .string t, u] 28)) := ((Below.refl _ _).alloc (Nat.le_refl _) _).alloc (by simp) _
  have c1 := eq_pieceS v u ms _ (hv.below hB) (hu.below hB) hn
  obtain ⟨a, c, rfl⟩ := hv.form
  obtain ⟨a', c', rfl⟩ := hu.form
  have HB := Lib.hid hB
  clear hv hu hB
  go_enter Try.func23, Try.ntmps23
  go_wp2_with (fail)
  with_reducible refine c1.mono ?_
  rintro e w2 ⟨rfl, hb2⟩
  have HB2 := Lib.hid (Below.then_ HB.out hb2)
  clear hb2
  go_wp2_with (fail)
  go_ret
  exact ⟨rfl, HB2.out⟩

set_option maxRecDepth 100000 in
theorem mark_pieces (r : Int) (t : ByteArray) (v : Value) (ms : List Pc) (w : World) (B C k : Nat) (hv : OwnP w B C v ms) (hn : ms.length ≤ 2097152) (hk1 : 1 ≤ k) (hk : k ≤ 1000000000000) (hC : C ≤ w.heap.size) (hB : B ≤ w.heap.size) :
    Calls Try.prog 25 #[.agg #[.int .i64 r, .string t, v], .int .i64 (k : Int)] w fun e w' => e = .returned (.int .i64 ((k + ms.length * 2 : Nat) : Int)) ∧ OwnP w' B C v (markP k ms.length) ∧ Below B w w' ∧ w.grownBy w' v.ownBlock := by
  have hB0 := below_new w (.cells #[.int .i64 r, .string t, v] 28)
  have c1 := mark_pieceS v ms _ B C k (hv.keep hB0 hC) hn hk1 hk (by simp; omega)
  obtain ⟨a, c, rfl, -⟩ := hv.form
  have HB := Lib.hid hB0
  clear hv hB0
  go_enter Try.func25, Try.ntmps25
  go_wp2_with (fail)
  with_reducible refine c1.mono ?_
  rintro e w2 ⟨rfl, h2, h3, h4⟩
  have H2 := Lib.hid (And.intro h2 (And.intro ((HB.out.mono hB).trans h3) (And.intro h4 HB.out)))
  clear h2 h3 h4 HB c1
  go_wp2_with (fail)
  go_ret
  obtain ⟨h2, h3, h4, h5⟩ := H2.out
  refine ⟨rfl, h2, h3, h4.os.trans h5.os, h4.tape.trans h5.tape, h4.output.trans h5.output, Nat.le_trans h5.size h4.size, fun i hi hne => ?_⟩
  rw [h4.block i (Nat.lt_of_lt_of_le hi h5.size) hne]
  exact h5.block i hi

set_option maxRecDepth 100000 in
theorem held_pieces (r : Int) (t : ByteArray) (v : Value) (k n : Nat) (w : World) (hv : RdP w v (markP k n)) (hn : n ≤ 2097152) (hk1 : 1 ≤ k) (hk : k ≤ 1000000000000) :
    Calls Try.prog 26 #[.agg #[.int .i64 r, .string t, v], .int .i64 (k : Int)] w fun e w' => e = .returned (.int .i64 ((k + n * 2 : Nat) : Int)) ∧ Below w.heap.size w w' := by
  have hB0 := below_new w (.cells #[.int .i64 r, .string t, v] 28)
  have c1 := held_pieceS v k n _ (hv.below hB0) hn hk1 hk
  obtain ⟨a, c, rfl⟩ := hv.form
  have HB := Lib.hid hB0
  clear hv hB0
  have q : ¬ ((k + n * 2 : Nat) : Int) < 0 := by omega
  generalize ((k + n * 2 : Nat) : Int) = z at *
  go_enter Try.func26, Try.ntmps26
  go_wp2_with (fail)
  with_reducible refine c1.mono ?_
  rintro e w2 ⟨rfl, hb2⟩
  have HB2 := Lib.hid (Below.then_ HB.out hb2)
  clear hb2
  go_wp2_with (fail)
  go_ret
  exact ⟨rfl, HB2.out⟩

/-- A struct of three cells, handed back whole. -/
theorem ps_result {W : World} {g : Nat} {r : Int} {t : ByteArray} {v : Value} (h : Cel W g 28 #[.int .i64 r, .string t, v]) {fn : Func} {p : Tmp} (hr : fn.results = #[.cell p 28]) (tmps : Array Value) (hp : tmps.getD p undef = .pointer (some ⟨g, 0, none⟩)) :
    (results fn tmps).run Try.prog W = .ok (.agg #[.int .i64 r, .string t, v]) W :=
  Cel.result h hr tmps hp Try.underlying28 rfl (by show _ = some 3; kernel_rfl)

attribute [-go_sem] loadCells loadCellsFrom

set_option maxRecDepth 100000 in
set_option maxHeartbeats 2000000 in
theorem to_pieces (r : Int) (t : ByteArray) (v : Value) (ms : List Pc) (w : World) (hv : RdP w v ms) (hn : ms.length ≤ 1048576) :
    Calls Try.prog 22 #[.agg #[.int .i64 r, .string t, v]] w fun e w' => ∃ u, e = .returned (.agg #[.int .i64 r, .string t, u]) ∧ OwnP w' w.heap.size w'.heap.size u ms ∧ Below w.heap.size w w' := by
  have hB0 : Below w.heap.size w (((w.alloc (.cells #[.int .i64 r, .string t, v] 41)).alloc (.cells #[.int .i64 0, .string ⟨#[]⟩, .slice none 0 0] 28)).alloc (.cells #[.int .i64 r, .string t, .slice none 0 0] 28)) := (((Below.refl _ _).alloc (Nat.le_refl _) _).alloc (by simp) _).alloc (by simp; omega) _
  have hD0 : Cel (((w.alloc (.cells #[.int .i64 r, .string t, v] 41)).alloc (.cells #[.int .i64 0, .string ⟨#[]⟩, .slice none 0 0] 28)).alloc (.cells #[.int .i64 r, .string t, .slice none 0 0] 28)) (w.heap.size + 1) 28 #[.int .i64 0, .string ⟨#[]⟩, .slice none 0 0] := by
    have := (Cel.new (w.alloc (.cells #[.int .i64 r, .string t, v] 41)) 28 #[.int .i64 0, .string ⟨#[]⟩, .slice none 0 0]).alloc (.cells #[.int .i64 r, .string t, .slice none 0 0] 28)
    rw [World.size_alloc] at this
    exact this
  have hE0 : Cel (((w.alloc (.cells #[.int .i64 r, .string t, v] 41)).alloc (.cells #[.int .i64 0, .string ⟨#[]⟩, .slice none 0 0] 28)).alloc (.cells #[.int .i64 r, .string t, .slice none 0 0] 28)) (w.heap.size + 2) 28 #[.int .i64 r, .string t, .slice none 0 0] := by
    have := Cel.new ((w.alloc (.cells #[.int .i64 r, .string t, v] 41)).alloc (.cells #[.int .i64 0, .string ⟨#[]⟩, .slice none 0 0] 28)) 28 #[.int .i64 r, .string t, .slice none 0 0]
    rw [World.size_alloc, World.size_alloc] at this
    exact this
  have hS0 : (((w.alloc (.cells #[.int .i64 r, .string t, v] 41)).alloc (.cells #[.int .i64 0, .string ⟨#[]⟩, .slice none 0 0] 28)).alloc (.cells #[.int .i64 r, .string t, .slice none 0 0] 28)).heap.size = w.heap.size + 3 := by simp
  have c1 := to_pieceS v ms _ (hv.below hB0) hn
  obtain ⟨a, c, rfl⟩ := hv.form
  have HF := Lib.hid (And.intro hB0 (And.intro hD0 (And.intro hE0 hS0)))
  clear hB0 hD0 hE0 hS0 hv
  go_enter Try.func22, Try.ntmps22
  go_wp2_with (fail)
  with_reducible refine c1.mono ?_
  obtain ⟨hB0, hD0, hE0, hS0⟩ := HF.out
  rw [hS0]
  rintro e w1 ⟨rfl, hU, hb1⟩
  rw [← hS0] at hb1
  have hB := Below.then_ hB0 hb1
  have hD := hD0.kept hb1
  have hE := hE0.kept hb1
  have hz : w.heap.size + 3 < w1.heap.size := hU.lt
  obtain ⟨e0, e1, e2⟩ := cel3' hE
  obtain ⟨d0, d1, d2⟩ := cel3' hD
  have f2 := hE.frozen 2
  have g0 := hD.frozen 0
  have g1 := hD.frozen 1
  have g2 := hD.frozen 2
  generalize hg : w.heap.size + 3 = g at *
  have hE2 := hE.set 2 (.slice (some ⟨g, 0, none⟩) ms.length ms.length)
  simp at hE2
  have hD2 := hD.other ⟨w.heap.size + 2, 2, none⟩ (.slice (some ⟨g, 0, none⟩) ms.length ms.length) (by simp)
  have hB2 := hB.setCell (p := ⟨w.heap.size + 2, 2, none⟩) (by simp) (.slice (some ⟨g, 0, none⟩) ms.length ms.length)
  have hU2 := hU.keepAt (W' := w1.setCell ⟨w.heap.size + 2, 2, none⟩ (.slice (some ⟨g, 0, none⟩) ms.length ms.length)) (fun k hk => Below.heap_setCell _ _ _ _ (by simp [Value.ownBlock] at hk; simp; omega))
  have HH := Lib.hid (And.intro hE2 (And.intro hD2 (And.intro hB2 (And.intro hU2 hg))))
  clear hE2 hD2 hB2 hU2 hE hD hB hU hB0 hD0 hE0 hS0 HF c1 hb1 d0 d1 d2 g0 g1 g2 hg
  go_upto_region 5 with (fail)
  obtain ⟨hE2, hD2, hB2, hU2, hg⟩ := HH.out
  clear HH e0 e1 e2
  have hz2 : (w1.setCell ⟨w.heap.size + 2, 2, none⟩ (.slice (some ⟨g, 0, none⟩) ms.length ms.length)).heap.size = w1.heap.size := by simp
  generalize w1.setCell ⟨w.heap.size + 2, 2, none⟩ (.slice (some ⟨g, 0, none⟩) ms.length ms.length) = W5 at *
  have hl : W5.heap[w.heap.size + 2]? = some (.cells #[.int .i64 r, .string t, .slice (some ⟨g, 0, none⟩) ms.length ms.length] 28 (0, 0)) := hE2
  have hsz : (Try.prog.info? 28).map (·.size) = some (#[Value.int .i64 r, .string t, .slice (some ⟨g, 0, none⟩) ms.length ms.length]).size := by show _ = some 3; kernel_rfl
  obtain ⟨d0, d1, d2⟩ := cel3' hD2
  have g0 := hD2.frozen 0
  have g1 := hD2.frozen 1
  have g2 := hD2.frozen 2
  have hD6 : Cel (((W5.setCell ⟨w.heap.size + 1, 0, none⟩ (.int .i64 r)).setCell ⟨w.heap.size + 1, 1, none⟩ (.string t)).setCell ⟨w.heap.size + 1, 2, none⟩ (.slice (some ⟨g, 0, none⟩) ms.length ms.length)) (w.heap.size + 1) 28 #[.int .i64 r, .string t, .slice (some ⟨g, 0, none⟩) ms.length ms.length] := by
    have := ((hD2.set 0 (.int .i64 r)).set 1 (.string t)).set 2 (.slice (some ⟨g, 0, none⟩) ms.length ms.length)
    simpa using this
  have hB6 := ((hB2.setCell (p := ⟨w.heap.size + 1, 0, none⟩) (by simp) (.int .i64 r)).setCell (p := ⟨w.heap.size + 1, 1, none⟩) (by simp) (.string t)).setCell (p := ⟨w.heap.size + 1, 2, none⟩) (by simp) (.slice (some ⟨g, 0, none⟩) ms.length ms.length)
  have hU6 := hU2.keepAt (W' := ((W5.setCell ⟨w.heap.size + 1, 0, none⟩ (.int .i64 r)).setCell ⟨w.heap.size + 1, 1, none⟩ (.string t)).setCell ⟨w.heap.size + 1, 2, none⟩ (.slice (some ⟨g, 0, none⟩) ms.length ms.length)) (fun k hk => by
    have hne : k ≠ w.heap.size + 1 := by simp [Value.ownBlock] at hk; omega
    rw [Below.heap_setCell _ _ _ _ hne, Below.heap_setCell _ _ _ _ hne, Below.heap_setCell _ _ _ _ hne])
  have hz6 : (((W5.setCell ⟨w.heap.size + 1, 0, none⟩ (.int .i64 r)).setCell ⟨w.heap.size + 1, 1, none⟩ (.string t)).setCell ⟨w.heap.size + 1, 2, none⟩ (.slice (some ⟨g, 0, none⟩) ms.length ms.length)).heap.size = W5.heap.size := by simp
  have hU7 := hU6.mono (B' := w.heap.size) (by omega) (Nat.le_trans (show g + 1 ≤ W5.heap.size by rw [hz2]; omega) (Nat.le_of_eq hz6.symm))
  have HE := Lib.hid (And.intro hD6 (And.intro hB6 hU7))
  clear hD6 hB6 hU6 hU7 hz6 hE2 hD2 hB2 hU2
  go_wp2_with (with_reducible refine wpList_load_row rfl 28 _ rfl _ rfl 28 _ (0, 0) _ hl Try.underlying28 rfl hsz ?_)
  obtain ⟨hD6, hB6, hU7⟩ := HE.out
  refine bodyPost_ret (ps_result hD6 rfl _ rfl) rfl ⟨_, rfl, hU7, hB6⟩
end Go.Proofs.Ytkpajakangaekaa
