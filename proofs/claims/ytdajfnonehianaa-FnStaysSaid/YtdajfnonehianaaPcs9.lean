import Derived.Test.YtdajfnonehianaaPcp
namespace Go.Proofs.Ytdajfnonehianaa
open Go.RowKit

/-- One piece laid into a block of its own reads as a list of one. -/
theorem rd_onePc (W : World) (m : Pc) : RdP (W.alloc (.cells #[.int .i64 m.pos, .string m.text] 41)) (.slice (some ⟨W.heap.size, 0, none⟩) 1 1) [m] :=
  (OwnE.of_cel (K := pcK) (xs := [m]) (B := W.heap.size) (C := W.heap.size + 1) (Cel.new W 41 #[.int .i64 m.pos, .string m.text]) (Nat.le_refl _) (by omega) (by simp [maxLen])).rd

attribute [-go_sem] loadCells loadCellsFrom
set_option maxRecDepth 100000 in
set_option maxHeartbeats 4000000 in
theorem spec_copyP (r : Int) (t : ByteArray) (v : Value) (ms : List Pc) (w : World) (hv : RdP w v ms) (hn : ms.length ≤ 4194304) :
    Calls Try.prog 46 #[.agg #[.int .i64 r, .string t, v]] w fun e w' => ∃ u, e = .returned (.agg #[.int .i64 r, .string t, u]) ∧ OwnP w' w.heap.size w'.heap.size u ms ∧ Below w.heap.size w w' := by
  have hB0 : Below w.heap.size w (((w.alloc (.cells #[.int .i64 r, .string t, v] 26)).alloc (.cells #[.int .i64 0, .string ⟨#[]⟩, .slice none 0 0] 26)).alloc (.cells #[] 41)) := (((Below.refl _ _).alloc (Nat.le_refl _) _).alloc (by simp) _).alloc (by simp; omega) _
  have hC0 : Cel (((w.alloc (.cells #[.int .i64 r, .string t, v] 26)).alloc (.cells #[.int .i64 0, .string ⟨#[]⟩, .slice none 0 0] 26)).alloc (.cells #[] 41)) w.heap.size 26 #[.int .i64 r, .string t, v] := ((Cel.new w _ _).alloc _).alloc _
  have hD0 : Cel (((w.alloc (.cells #[.int .i64 r, .string t, v] 26)).alloc (.cells #[.int .i64 0, .string ⟨#[]⟩, .slice none 0 0] 26)).alloc (.cells #[] 41)) (w.heap.size + 1) 26 #[.int .i64 0, .string ⟨#[]⟩, .slice none 0 0] := by
    have := (Cel.new (w.alloc (.cells #[.int .i64 r, .string t, v] 26)) 26 #[.int .i64 0, .string ⟨#[]⟩, .slice none 0 0]).alloc (.cells #[] 41)
    rw [World.size_alloc] at this
    exact this
  have hE0 : OwnP (((w.alloc (.cells #[.int .i64 r, .string t, v] 26)).alloc (.cells #[.int .i64 0, .string ⟨#[]⟩, .slice none 0 0] 26)).alloc (.cells #[] 41)) (w.heap.size + 2) (((w.alloc (.cells #[.int .i64 r, .string t, v] 26)).alloc (.cells #[.int .i64 0, .string ⟨#[]⟩, .slice none 0 0] 26)).alloc (.cells #[] 41)).heap.size (.slice (some ⟨w.heap.size + 2, 0, none⟩) 0 0) [] := by
    have := eown_empty pcK ((w.alloc (.cells #[.int .i64 r, .string t, v] 26)).alloc (.cells #[.int .i64 0, .string ⟨#[]⟩, .slice none 0 0] 26))
    have e : ((w.alloc (.cells #[.int .i64 r, .string t, v] 26)).alloc (.cells #[.int .i64 0, .string ⟨#[]⟩, .slice none 0 0] 26)).heap.size = w.heap.size + 2 := by simp
    rw [e] at this
    exact this
  obtain ⟨a, c, rfl⟩ := hv.form
  have H0 := Lib.hid (And.intro hC0 (And.intro (⟨_, _, _, hD0⟩ : ∃ x0 x1 x2, Cel _ (w.heap.size + 1) 26 #[x0, x1, x2]) (And.intro hE0 hB0)))
  clear hB0 hC0 hD0 hE0
  go_enter Try.func46, Try.ntmps46
  go_wp2_with (fail)
  go_loopw [3, 4] (fun d i wr => ∃ k : Nat, ∃ xa : Option Addr, ∃ xc : Nat, k ≤ ms.length ∧ i = .int .i64 k ∧ d = .slice xa k xc ∧ Cel wr w.heap.size 26 #[.int .i64 r, .string t, .slice a ms.length c] ∧ (∃ x0 x1 x2, Cel wr (w.heap.size + 1) 26 #[x0, x1, x2]) ∧ OwnP wr (w.heap.size + 2) wr.heap.size (.slice xa k xc) (ms.take k) ∧ Below w.heap.size w wr) (fun _ i _ => ms.length - (intOf i).toNat)
  case atStart => exact ⟨0, _, 0, by omega, rfl, rfl, H0.out.1, H0.out.2.1, by rw [List.take_zero]; exact H0.out.2.2.1, H0.out.2.2.2⟩
  case round =>
    clear H0
    obtain ⟨k, xa, xc, hk, rfl, rfl, hC, hD, hO, hB⟩ := hrel
    obtain ⟨a0, a1, a2⟩ := cel3' hC
    by_cases hlt : k < ms.length
    · have q : (k : Int) < (ms.length : Int) := by omega
      have q2 : (0 : Int) ≤ (k : Int) := by omega
      obtain ⟨b, off, ha, hb, -, -, ld⟩ := pc_at (P := Try.prog) (hv.below hB) k hlt
      subst ha
      have htk : ms.take (k + 1) = ms.take k ++ [ms[k]] := List.take_succ_eq_append_getElem hlt
      have hlk : (ms.take k).length = k := by rw [List.length_take]; omega
      have hlk1 : (ms.take k ++ [ms[k]]).length = k + 1 := by simp; omega
      generalize ms[k] = m at *
      have hbn := below_new wr (.cells #[.int .i64 m.pos, .string m.text] 41)
      have ho1 := rd_onePc wr m
      have hbz : w.heap.size + 2 ≤ (wr.alloc (.cells #[.int .i64 m.pos, .string m.text] 41)).heap.size := by
        obtain ⟨x0, x1, x2, h⟩ := hD
        have := h.lt
        simp
        omega
      have HH := Lib.hid (And.intro (hC.kept hbn) (And.intro (show ∃ x0 x1 x2, Cel (wr.alloc (.cells #[.int .i64 m.pos, .string m.text] 41)) (w.heap.size + 1) 26 #[x0, x1, x2] from by obtain ⟨x0, x1, x2, h⟩ := hD; exact ⟨x0, x1, x2, h.kept hbn⟩) (And.intro (eown_alloc hO (.cells #[.int .i64 m.pos, .string m.text] 41)) (Below.then_ hB hbn))))
      have HT := Lib.hid (And.intro htk (And.intro hlk hlk1))
      clear hC hD hO hB hbn htk hlk hlk1
      go_wp2_with (at_builtin; refine wpList_append_els pcK rfl _ _ 24 24 rfl uPc uPc (w.heap.size + 2) (.slice xa k xc) _ (ms.take k) [m] rfl rfl HH.out.2.2.1 hbz ho1 (by rw [HT.out.2.1]; simp; omega) ?_; intro v' w1 hown hgrow _; obtain ⟨hC, hD, hO, hB⟩ := HH.out; have hrow : ∀ g, (Value.slice xa k xc).ownBlock = some g → w.heap.size + 2 ≤ g := (fun g hg => (OwnE.block hO g hg).1); have hC1 := hC.grown hgrow (fun h => by have := hrow _ h.symm; omega); have hD1 : ∃ x0 x1 x2, Cel w1 (w.heap.size + 1) 26 #[x0, x1, x2] := (by obtain ⟨x0, x1, x2, h⟩ := hD; exact ⟨x0, x1, x2, h.grown hgrow (fun h => by have := hrow _ h.symm; omega)⟩); have hB1 : Below w.heap.size w w1 := hB.grown hgrow hB.size (fun g hg => by have := hrow g hg; omega); obtain ⟨ya, yc, hfe, -⟩ := OwnE.form hown; rw [HT.out.2.2] at hfe; subst hfe; rw [← HT.out.1] at hown; have HN := Lib.hid (And.intro hC1 (And.intro hD1 (And.intro hown hB1))); clear hown hgrow hC hD hO hB hrow hC1 hD1 hB1)
      go_roundw
      case rel => exact ⟨k + 1, ya, yc, by omega, by go_num, rfl, HN.out.1, HN.out.2.1, HN.out.2.2.1, HN.out.2.2.2⟩
      case measure => simp [intOf]; omega
    · obtain rfl : k = ms.length := by omega
      have q : ¬ (ms.length : Int) < (ms.length : Int) := by omega
      rw [List.take_length] at hO
      obtain ⟨x0, x1, x2, hz⟩ := hD
      have f2 := hC.frozen 2
      have hC2 := hC.set 2 (.slice xa ms.length xc)
      simp at hC2
      have hz2 := hz.other ⟨w.heap.size, 2, none⟩ (.slice xa ms.length xc) (by simp)
      have hB2 := hB.setCell (p := ⟨w.heap.size, 2, none⟩) (Nat.le_refl _) (.slice xa ms.length xc)
      have hO2 : OwnP (wr.setCell ⟨w.heap.size, 2, none⟩ (.slice xa ms.length xc)) (w.heap.size + 2) (wr.setCell ⟨w.heap.size, 2, none⟩ (.slice xa ms.length xc)).heap.size (.slice xa ms.length xc) ms := by
        refine (hO.keepAt (fun g hg => Below.heap_setCell _ _ _ _ ?_)).mono (Nat.le_refl _) (by simp)
        have := (OwnE.block hO g hg).1
        show g ≠ w.heap.size
        omega
      have HH := Lib.hid (And.intro hC2 (And.intro hz2 (And.intro hB2 hO2)))
      clear hC hz hB hO hC2 hz2 hB2 hO2
      go_upto_region 7 with (fail)
      obtain ⟨hC2, hz2, hB2, hO2⟩ := HH.out
      clear HH a0 a1 a2 f2
      generalize wr.setCell ⟨w.heap.size, 2, none⟩ (.slice xa ms.length xc) = W5 at *
      have hl : W5.heap[w.heap.size]? = some (.cells #[.int .i64 r, .string t, .slice xa ms.length xc] 26 (0, 0)) := hC2
      have hsz : (Try.prog.info? 26).map (·.size) = some (#[Value.int .i64 r, .string t, .slice xa ms.length xc]).size := by show _ = some 3; kernel_rfl
      obtain ⟨d0, d1, d2⟩ := cel3' hz2
      have g0 := hz2.frozen 0
      have g1 := hz2.frozen 1
      have g2 := hz2.frozen 2
      have HF := Lib.hid (ps_fin (r := r) (t := t) hz2 hB2 (Nat.le_succ _) hO2 (Nat.lt_succ_self _))
      clear hC2 hz2 hB2 hO2
      go_wp2_with (with_reducible refine wpList_load_row rfl 26 _ rfl _ rfl 26 _ (0, 0) _ hl Try.underlying26 rfl hsz ?_)
      obtain ⟨q1, q2, q3⟩ := HF.out
      refine bodyPost_ret (ps_result q1 rfl _ rfl) rfl ⟨_, rfl, q3.mono (by omega) (Nat.le_refl _), q2⟩
end Go.Proofs.Ytdajfnonehianaa
