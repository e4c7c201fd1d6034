import Derived.Test.YtkpajakangaekaaPtk
namespace Go.Proofs.Ytkpajakangaekaa
open Go.RowKit

structure Tk6 (w W : World) (g6 : Nat) (r : Int) (t : ByteArray) (r1 : Int) (t1 : ByteArray) (v u : Value) (ms : List Pc) : Prop extends Tk4 w W r t v where
  new : Cel W g6 28 #[.int .i64 r1, .string t1, u]
  ne : w.heap.size + 2 ≤ g6
  own : OwnP W (w.heap.size + 2) g6 u ms
section
variable {w W W' : World} {g6 : Nat} {r r1 : Int} {t t1 : ByteArray} {v u : Value} {ms : List Pc}
theorem Tk6.kept (h : Tk6 w W g6 r t r1 t1 v u ms) (hb : Below W.heap.size W W') : Tk6 w W' g6 r t r1 t1 v u ms := ⟨h.toTk4.kept hb, h.new.kept hb, h.ne, h.own.keep hb (Nat.le_of_lt h.new.lt)⟩
theorem Tk6.drew (h : Tk6 w W g6 r t r1 t1 v u ms) : Tk6 w W.drew g6 r t r1 t1 v u ms := ⟨h.toTk4.drew, h.new, h.ne, h.own⟩
theorem tk6_all (h : Tk6 w W g6 r t r1 t1 v u ms) : W.cell? ⟨w.heap.size, 1, none⟩ = some (.string t) ∧ W.cell? ⟨g6, 0, none⟩ = some (.int .i64 r1) ∧ W.cell? ⟨g6, 1, none⟩ = some (.string t1) ∧ W.cell? ⟨g6, 2, none⟩ = some (u) ∧ Tk6 w W g6 r t r1 t1 v u ms := by
  obtain ⟨a0, a1, a2⟩ := cel3' h.box
  obtain ⟨b0, b1, b2⟩ := cel3' h.new
  exact ⟨a1, b0, b1, b2, h⟩
theorem tk6_start (h : Tk4 w W r t v) {B : Nat} (hO : OwnP W B W.heap.size u ms) (hB : w.heap.size + 2 ≤ B) : Tk6 w (W.alloc (.cells #[.int .i64 r, .string t, u] 28)) W.heap.size r t r t v u ms :=
  have hb := below_new W (.cells #[.int .i64 r, .string t, u] 28)
  ⟨h.kept hb, Cel.new _ _ _, tk4_far h, (hO.keep hb (Nat.le_refl _)).mono hB (Nat.le_refl _)⟩
theorem Tk6.other (h : Tk6 w W g6 r t r1 t1 v u ms) (i : Nat) (x : Value) : Tk4 w (W.setCell ⟨g6, i, none⟩ x) r t v ∧ OwnP (W.setCell ⟨g6, i, none⟩ x) (w.heap.size + 2) g6 u ms := by
  obtain ⟨y0, y1, y2, hy⟩ := h.res
  have hne := h.ne
  refine ⟨⟨h.box.other _ _ (by simp; omega), ⟨_, _, _, hy.other _ _ (by simp; omega)⟩, h.below.setCell (p := ⟨g6, i, none⟩) (by simp; omega) _⟩, h.own.keepAt fun k hk => Below.heap_setCell _ _ _ _ ?_⟩
  have := (OwnE.block h.own k hk).2
  show k ≠ g6
  omega
theorem Tk6.put0 (h : Tk6 w W g6 r t r1 t1 v u ms) (r2 : Int) : Tk6 w (W.setCell ⟨g6, 0, none⟩ (.int .i64 r2)) g6 r t r2 t1 v u ms := ⟨(h.other 0 _).1, by have := h.new.set 0 (.int .i64 r2); simpa using this, h.ne, (h.other 0 _).2⟩
theorem Tk6.put1 (h : Tk6 w W g6 r t r1 t1 v u ms) (t2 : ByteArray) : Tk6 w (W.setCell ⟨g6, 1, none⟩ (.string t2)) g6 r t r1 t2 v u ms := ⟨(h.other 1 _).1, by have := h.new.set 1 (.string t2); simpa using this, h.ne, (h.other 1 _).2⟩
/-- The answer stored. -/
theorem Tk6.done (h : Tk6 w W g6 r t r1 t1 v u ms) : Tk6 w (((W.setCell ⟨w.heap.size + 1, 0, none⟩ (.int .i64 r1)).setCell ⟨w.heap.size + 1, 1, none⟩ (.string t1)).setCell ⟨w.heap.size + 1, 2, none⟩ u) g6 r t r1 t1 v u ms ∧ Cel (((W.setCell ⟨w.heap.size + 1, 0, none⟩ (.int .i64 r1)).setCell ⟨w.heap.size + 1, 1, none⟩ (.string t1)).setCell ⟨w.heap.size + 1, 2, none⟩ u) (w.heap.size + 1) 28 #[.int .i64 r1, .string t1, u] ∧ Below w.heap.size w (((W.setCell ⟨w.heap.size + 1, 0, none⟩ (.int .i64 r1)).setCell ⟨w.heap.size + 1, 1, none⟩ (.string t1)).setCell ⟨w.heap.size + 1, 2, none⟩ u) ∧ OwnP (((W.setCell ⟨w.heap.size + 1, 0, none⟩ (.int .i64 r1)).setCell ⟨w.heap.size + 1, 1, none⟩ (.string t1)).setCell ⟨w.heap.size + 1, 2, none⟩ u) w.heap.size (((W.setCell ⟨w.heap.size + 1, 0, none⟩ (.int .i64 r1)).setCell ⟨w.heap.size + 1, 1, none⟩ (.string t1)).setCell ⟨w.heap.size + 1, 2, none⟩ u).heap.size u ms := by
  obtain ⟨y0, y1, y2, hy⟩ := h.res
  have hne := h.ne
  obtain ⟨p1, p2, p3⟩ := ps_fin (r := r1) (t := t1) hy h.below (Nat.le_succ _) (h.own.mono (Nat.le_refl _) (Nat.le_of_lt h.new.lt)) (Nat.lt_succ_self _)
  refine ⟨⟨⟨((h.box.other _ _ (by simp)).other _ _ (by simp)).other _ _ (by simp), ⟨_, _, _, p1⟩, p2⟩, ((h.new.other _ _ (by simp; omega)).other _ _ (by simp; omega)).other _ _ (by simp; omega), h.ne, h.own.keepAt fun k hk => ?_⟩, p1, p2, p3.mono (by omega) (Nat.le_refl _)⟩
  have hn : k ≠ w.heap.size + 1 := by have := (OwnE.block h.own k hk).1; omega
  rw [Below.heap_setCell _ _ _ _ hn, Below.heap_setCell _ _ _ _ hn, Below.heap_setCell _ _ _ _ hn]
theorem Tk6.doneD (h : Tk6 w W g6 r t r1 t1 v u ms) : Tk6 w ((((W.setCell ⟨w.heap.size + 1, 0, none⟩ (.int .i64 r1)).setCell ⟨w.heap.size + 1, 1, none⟩ (.string t1)).setCell ⟨w.heap.size + 1, 2, none⟩ u)).drew g6 r t r1 t1 v u ms ∧ Cel ((((W.setCell ⟨w.heap.size + 1, 0, none⟩ (.int .i64 r1)).setCell ⟨w.heap.size + 1, 1, none⟩ (.string t1)).setCell ⟨w.heap.size + 1, 2, none⟩ u)).drew (w.heap.size + 1) 28 #[.int .i64 r1, .string t1, u] ∧ Below w.heap.size w ((((W.setCell ⟨w.heap.size + 1, 0, none⟩ (.int .i64 r1)).setCell ⟨w.heap.size + 1, 1, none⟩ (.string t1)).setCell ⟨w.heap.size + 1, 2, none⟩ u)).drew ∧ OwnP ((((W.setCell ⟨w.heap.size + 1, 0, none⟩ (.int .i64 r1)).setCell ⟨w.heap.size + 1, 1, none⟩ (.string t1)).setCell ⟨w.heap.size + 1, 2, none⟩ u)).drew w.heap.size ((((W.setCell ⟨w.heap.size + 1, 0, none⟩ (.int .i64 r1)).setCell ⟨w.heap.size + 1, 1, none⟩ (.string t1)).setCell ⟨w.heap.size + 1, 2, none⟩ u)).drew.heap.size u ms := ⟨h.done.1.drew, h.done.2.1, h.done.2.2.1.drew, h.done.2.2.2⟩
end

set_option maxRecDepth 100000 in
set_option maxHeartbeats 8000000 in
theorem spec_takeReady (r : Int) (t : ByteArray) (v : Value) (ms : List Pc) (many : Int) (w : World) (hv : RdP w v ms) (hs : t.size + sumP ms ≤ 4194304) (hn : ms.length ≤ 4194304) :
    Calls Try.prog 27 #[.agg #[.int .i64 r, .string t, v], .int .i64 many] w fun e w' => ∃ u, e = .returned (.tuple #[.agg #[.int .i64 (takeReady ⟨r, t, ms⟩ many).1.read, .string (takeReady ⟨r, t, ms⟩ many).1.ready, u], .string (takeReady ⟨r, t, ms⟩ many).2]) ∧ OwnP w' w.heap.size w'.heap.size u ms ∧ Below w.heap.size w w' := by
  have H0 := Lib.hid (tk_start w r t v)
  have cO := fun W h => spec_piecesOk r t v ms W h hs hn
  have cC := fun W h => spec_copyP r t v ms W h hn
  have hpo : piecesOk ⟨r, t, ms⟩ = true → (0 ≤ r ∧ r ≤ 1000000000) ∧ t.size ≤ 200 := fun h => by
    unfold piecesOk heldP at h
    simp only at h
    split at h
    · omega
    · cases h
  unfold takeReady
  obtain ⟨tk, htk⟩ : ∃ tk, takeN ⟨r, t, ms⟩ many = tk := ⟨_, rfl⟩
  have hmay : mayTake ⟨r, t, ms⟩ many ↔ (piecesOk ⟨r, t, ms⟩ = true ∧ 0 ≤ many ∧ r + tk ≤ 1000000000) := by unfold mayTake; rw [htk]
  rw [htk]
  unfold takeN at htk
  simp only at htk
  simp only [hmay]
  generalize piecesOk ⟨r, t, ms⟩ = ok at *
  clear hmay
  have hv0 := hv
  obtain ⟨a, c, rfl⟩ := hv.form
  clear hv
  have hv := hv0
  clear hv0
  by_cases hmany : (t.size : Int) < many
  · have q7 : (t.size : Int) < many := hmany
    obtain rfl : tk = (t.size : Int) := by omega
    clear hmany htk
    by_cases hm : ok = true ∧ 0 ≤ many ∧ r + (t.size : Int) ≤ 1000000000
    · rw [if_pos hm]
      obtain ⟨rfl, hm0, hm1⟩ := hm
      obtain ⟨hr0, ht2⟩ := hpo rfl
      have sl1 := fun W => cut_from t (t.size : Int) (by omega) (by omega) W
      have sl2 := fun W => cut_to t (t.size : Int) (by omega) (by omega) W
      obtain ⟨r1, hr1⟩ : ∃ r1, r + (t.size : Int) = r1 := ⟨_, rfl⟩
      have e1 : IntKind.i64.wrap (r + (t.size : Int)) = r1 := (IntWalk.i64_in _ (by omega)).trans hr1
      have e9 : IntKind.i64.wrap (1000000000 - (t.size : Int)) = 1000000000 - (t.size : Int) := IntWalk.i64_in _ (by omega)
      have q1 : ¬ (t.size : Int) < 0 := by omega
      have q2 : ¬ (1000000000 : Int) - (t.size : Int) < r := by omega
      simp only
      rw [hr1]
      generalize t.extract ((t.size : Int)).toNat t.size = t1 at *
      generalize t.extract 0 ((t.size : Int)).toNat = t2 at *
      clear hpo hs hn hr0 ht2 hm0 hm1 hr1
      go_enter Try.func27, Try.ntmps27
      go_wp2_with (fail)
      with_reducible refine (cC _ (hv.below H0.out.below)).mono ?_
      rintro e w1 ⟨u, rfl, hO, hb1⟩
      obtain ⟨ua, uc, rfl, -⟩ := hO.form
      have k2 := tk6_start (H0.out.kept hb1) hO (tk4_far H0.out)
      obtain ⟨b0, b1, b2⟩ := cel3' k2.box
      have h2 := Lib.hid k2
      clear hb1 cC H0 hO k2
      go_wp2_with (fail)
      with_reducible refine (cO _ (hv.below h2.out.below)).mono ?_
      rintro e w3 ⟨rfl, hb3⟩
      have k3 := h2.out.kept hb3
      obtain ⟨b0, b1, b2⟩ := cel3' k3.box
      obtain ⟨e0, e1, e2⟩ := cel3' k3.new
      have l0 := k3.new.frozen 0
      have l1 := k3.new.frozen 1
      generalize w1.heap.size = g6 at *
      have h3 := Lib.hid k3
      clear hb3 cO h2 k3
      have k4 := (h3.out.put0 r1).put1 t1
      have h4 := Lib.hid k4
      clear h3 k4
      go_upto_region 8 with (fail)
      clear b0 b1 b2 e0 e1 e2 l0 l1 sl1
      have k5 := tk6_all h4.out.drew
      generalize (w3.setCell ⟨g6, 0, none⟩ (.int .i64 r1)).setCell ⟨g6, 1, none⟩ (.string t1) = w4 at *
      go_wp2_with (fail)
      refine wp_region_held_drew (S := fun W => W.cell? ⟨w.heap.size, 1, none⟩ = some (.string t) ∧ W.cell? ⟨g6, 0, none⟩ = some (.int .i64 r1) ∧ W.cell? ⟨g6, 1, none⟩ = some (.string t1) ∧ W.cell? ⟨g6, 2, none⟩ = some (.slice ua ms.length uc) ∧ Tk6 w W g6 r t r1 t1 (.slice a ms.length c) (.slice ua ms.length uc) ms) (by kernel_rfl) k5 (fun hHeld => ?_)
      refine take_yes (i := 0) (oi := { dst := some 42, op := Op.load 28 (Operand.tmp 6), type := 28, pos := "l09_pieces.go:113", after := #[], guard := none }) (v := .agg #[.int .i64 r1, .string t1, .slice ua ms.length uc]) rfl (by kernel_rfl) (by kernel_rfl) (by kernel_rfl) (fun _ _ _ h => h) (by rfl) (fun w hSw => by (try dsimp only at hSw); go_simp) (by assumption) ?_
      try simp only [Act.put, List.setIfInBounds_toArray, List.set_cons_zero, List.set_cons_succ]
      refine take_yes (i := 1) (oi := { dst := some 43, op := Op.fieldAddr 28 (Operand.tmp 2) 1, type := 0, pos := "l09_pieces.go:113", after := #[], guard := none }) (v := .pointer (some ⟨w.heap.size, 1, none⟩)) rfl (by kernel_rfl) (by kernel_rfl) (by kernel_rfl) (fun _ _ _ h => h) (by rfl) (fun w hSw => by (try dsimp only at hSw); go_simp) (by assumption) ?_
      try simp only [Act.put, List.setIfInBounds_toArray, List.set_cons_zero, List.set_cons_succ]
      refine take_yes (i := 2) (oi := { dst := some 44, op := Op.load 9 (Operand.tmp 43), type := 9, pos := "l09_pieces.go:113", after := #[{ on := 1, ground := Ground.data }], guard := none }) (v := .string t) rfl (by kernel_rfl) (by kernel_rfl) (by kernel_rfl) (fun _ _ _ h => h) (by rfl) (fun w hSw => by (try dsimp only at hSw); go_simp) (by assumption) ?_
      try simp only [Act.put, List.setIfInBounds_toArray, List.set_cons_zero, List.set_cons_succ]
      refine take_yes (i := 3) (oi := { dst := some 45, op := Op.move (Operand.tmp 1), type := 3, pos := "l09_pieces.go:113", after := #[], guard := none }) (v := .int .i64 (t.size : Int)) rfl (by kernel_rfl) (by kernel_rfl) (by kernel_rfl) (fun _ _ _ h => h) (by rfl) (fun w hSw => by (try dsimp only at hSw); go_simp) (by assumption) ?_
      try simp only [Act.put, List.setIfInBounds_toArray, List.set_cons_zero, List.set_cons_succ]
      refine take_yes (i := 4) (oi := { dst := some 46, op := Op.slice 9 (Operand.tmp 44) none (some (Operand.tmp 45)) none, type := 9, pos := "l09_pieces.go:113", after := #[{ on := 2, ground := Ground.data }, { on := 3, ground := Ground.data }], guard := none }) (v := .string t2) rfl (by kernel_rfl) (by kernel_rfl) (by kernel_rfl) (fun _ _ _ h => h) (by rfl) (fun w hSw => by (try dsimp only at hSw); go_simp) (by assumption) ?_
      try simp only [Act.put, List.setIfInBounds_toArray, List.set_cons_zero, List.set_cons_succ]
      refine wpAnyH_ready (rs := [5]) (by kernel_rfl) (by simp) ?_
      refine AllReadyH.cons (o := { dst := none, op := Op.store 28 (Operand.tmp 4) (Operand.tmp 42), type := 0, pos := "l09_pieces.go:113", after := #[{ on := 0, ground := Ground.data }, { on := 0, ground := Ground.phase }, { on := 1, ground := Ground.textOnly Departure.lateStores }, { on := 2, ground := Ground.textOnly Departure.lateStores }, { on := 3, ground := Ground.textOnly Departure.lateStores }, { on := 4, ground := Ground.textOnly Departure.lateStoresUnsure }], guard := none }) rfl (fun K hK => ?_) AllReadyH.nil
      obtain ⟨x0, x1, x2, hz⟩ := h4.out.res
      obtain ⟨d0, d1, d2⟩ := cel3' hz
      have j0 := hz.frozen 0
      have j1 := hz.frozen 1
      have j2 := hz.frozen 2
      go_simp
      have H9 := h4.out.doneD
      have HF := Lib.hid H9
      refine hK.out _ _ (tk6_all H9.1) (fun hHeldN => ?_)
      clear hK K hHeld
      have hHeld := hHeldN
      clear hHeldN
      try simp only [Act.put, List.setIfInBounds_toArray, List.set_cons_zero, List.set_cons_succ]
      refine take_yes (i := 6) (oi := { dst := some 5, op := Op.assign (Operand.tmp 46), type := 9, pos := "l09_pieces.go:113", after := #[{ on := 4, ground := Ground.data }, { on := 5, ground := Ground.chain }, { on := 0, ground := Ground.phase }, { on := 1, ground := Ground.phase }, { on := 2, ground := Ground.phase }, { on := 3, ground := Ground.phase }, { on := 4, ground := Ground.phase }, { on := 5, ground := Ground.phase }], guard := none }) (v := .string t2) rfl (by kernel_rfl) (by kernel_rfl) (by kernel_rfl) (fun _ _ _ h => h) (by rfl) (fun w hSw => by (try dsimp only at hSw); go_simp) (by assumption) ?_
      try simp only [Act.put, List.setIfInBounds_toArray, List.set_cons_zero, List.set_cons_succ]
      refine wpAnyH_done (by kernel_rfl) ?_ _
      clear hHeld
      obtain ⟨-, p1, p2, p3⟩ := HF.out
      go_wp2_with (fail)
      refine bodyPost_ret (ps_result2 p1 rfl _ rfl) rfl ⟨_, rfl, p3, p2⟩
    · rw [if_neg hm]
      simp only
      cases ok with
      | false =>
        clear hm hpo hs hn
        go_enter Try.func27, Try.ntmps27
        go_wp2_with (fail)
        with_reducible refine (cC _ (hv.below H0.out.below)).mono ?_
        rintro e w1 ⟨u, rfl, hO, hb1⟩
        obtain ⟨ua, uc, rfl, -⟩ := hO.form
        have k2 := tk6_start (H0.out.kept hb1) hO (tk4_far H0.out)
        obtain ⟨b0, b1, b2⟩ := cel3' k2.box
        have h2 := Lib.hid k2
        clear hb1 cC H0 hO k2
        go_wp2_with (fail)
        with_reducible refine (cO _ (hv.below h2.out.below)).mono ?_
        rintro e w3 ⟨rfl, hb3⟩
        have k3 := h2.out.kept hb3
        obtain ⟨b0, b1, b2⟩ := cel3' k3.box
        obtain ⟨e0, e1, e2⟩ := cel3' k3.new
        have l0 := k3.new.frozen 0
        have l1 := k3.new.frozen 1
        generalize w1.heap.size = g6 at *
        have h3 := Lib.hid k3
        clear hb3 cO h2 k3
        have k3 := h3.out
        obtain ⟨x0, x1, x2, hz⟩ := k3.res
        obtain ⟨d0, d1, d2⟩ := cel3' hz
        have j0 := hz.frozen 0
        have j1 := hz.frozen 1
        have j2 := hz.frozen 2
        have HF := Lib.hid k3.done
        clear k3 h3 hz
        go_wp2_with (fail)
        obtain ⟨-, p1, p2, p3⟩ := HF.out
        refine bodyPost_ret (ps_result2 p1 rfl _ rfl) rfl ⟨_, rfl, p3, p2⟩
      | true =>
        obtain ⟨hr0, ht2⟩ := hpo rfl
        by_cases q1 : (t.size : Int) < 0
        · omega
        · have e9 : IntKind.i64.wrap (1000000000 - (t.size : Int)) = 1000000000 - (t.size : Int) := IntWalk.i64_in _ (by omega)
          have q2 : (1000000000 : Int) - (t.size : Int) < r := by
            exact Int.not_le.1 (fun h => hm ⟨rfl, by omega, by omega⟩)
          clear hm hpo hs hn hr0 ht2
          go_enter Try.func27, Try.ntmps27
          go_wp2_with (fail)
          with_reducible refine (cC _ (hv.below H0.out.below)).mono ?_
          rintro e w1 ⟨u, rfl, hO, hb1⟩
          obtain ⟨ua, uc, rfl, -⟩ := hO.form
          have k2 := tk6_start (H0.out.kept hb1) hO (tk4_far H0.out)
          obtain ⟨b0, b1, b2⟩ := cel3' k2.box
          have h2 := Lib.hid k2
          clear hb1 cC H0 hO k2
          go_wp2_with (fail)
          with_reducible refine (cO _ (hv.below h2.out.below)).mono ?_
          rintro e w3 ⟨rfl, hb3⟩
          have k3 := h2.out.kept hb3
          obtain ⟨b0, b1, b2⟩ := cel3' k3.box
          obtain ⟨e0, e1, e2⟩ := cel3' k3.new
          have l0 := k3.new.frozen 0
          have l1 := k3.new.frozen 1
          generalize w1.heap.size = g6 at *
          have h3 := Lib.hid k3
          clear hb3 cO h2 k3
          have k3 := h3.out
          obtain ⟨x0, x1, x2, hz⟩ := k3.res
          obtain ⟨d0, d1, d2⟩ := cel3' hz
          have j0 := hz.frozen 0
          have j1 := hz.frozen 1
          have j2 := hz.frozen 2
          have HF := Lib.hid k3.done
          clear k3 h3 hz
          go_wp2_with (fail)
          obtain ⟨-, p1, p2, p3⟩ := HF.out
          refine bodyPost_ret (ps_result2 p1 rfl _ rfl) rfl ⟨_, rfl, p3, p2⟩
  · have q7 : ¬ (t.size : Int) < many := hmany
    obtain rfl : tk = many := by omega
    clear htk
    by_cases hm : ok = true ∧ 0 ≤ tk ∧ r + tk ≤ 1000000000
    · rw [if_pos hm]
      obtain ⟨rfl, hm0, hm1⟩ := hm
      obtain ⟨hr0, ht2⟩ := hpo rfl
      have sl1 := fun W => cut_from t tk (by omega) (by omega) W
      have sl2 := fun W => cut_to t tk (by omega) (by omega) W
      obtain ⟨r1, hr1⟩ : ∃ r1, r + tk = r1 := ⟨_, rfl⟩
      have e1 : IntKind.i64.wrap (r + tk) = r1 := (IntWalk.i64_in _ (by omega)).trans hr1
      have e9 : IntKind.i64.wrap (1000000000 - tk) = 1000000000 - tk := IntWalk.i64_in _ (by omega)
      have q1 : ¬ tk < 0 := by omega
      have q2 : ¬ (1000000000 : Int) - tk < r := by omega
      simp only
      rw [hr1]
      generalize t.extract (tk).toNat t.size = t1 at *
      generalize t.extract 0 (tk).toNat = t2 at *
      clear hpo hs hn hr0 ht2 hm0 hm1 hr1
      go_enter Try.func27, Try.ntmps27
      go_wp2_with (fail)
      with_reducible refine (cC _ (hv.below H0.out.below)).mono ?_
      rintro e w1 ⟨u, rfl, hO, hb1⟩
      obtain ⟨ua, uc, rfl, -⟩ := hO.form
      have k2 := tk6_start (H0.out.kept hb1) hO (tk4_far H0.out)
      obtain ⟨b0, b1, b2⟩ := cel3' k2.box
      have h2 := Lib.hid k2
      clear hb1 cC H0 hO k2
      go_wp2_with (fail)
      with_reducible refine (cO _ (hv.below h2.out.below)).mono ?_
      rintro e w3 ⟨rfl, hb3⟩
      have k3 := h2.out.kept hb3
      obtain ⟨b0, b1, b2⟩ := cel3' k3.box
      obtain ⟨e0, e1, e2⟩ := cel3' k3.new
      have l0 := k3.new.frozen 0
      have l1 := k3.new.frozen 1
      generalize w1.heap.size = g6 at *
      have h3 := Lib.hid k3
      clear hb3 cO h2 k3
      have k4 := (h3.out.put0 r1).put1 t1
      have h4 := Lib.hid k4
      clear h3 k4
      go_upto_region 8 with (fail)
      clear b0 b1 b2 e0 e1 e2 l0 l1 sl1
      have k5 := tk6_all h4.out.drew
      generalize (w3.setCell ⟨g6, 0, none⟩ (.int .i64 r1)).setCell ⟨g6, 1, none⟩ (.string t1) = w4 at *
      go_wp2_with (fail)
      refine wp_region_held_drew (S := fun W => W.cell? ⟨w.heap.size, 1, none⟩ = some (.string t) ∧ W.cell? ⟨g6, 0, none⟩ = some (.int .i64 r1) ∧ W.cell? ⟨g6, 1, none⟩ = some (.string t1) ∧ W.cell? ⟨g6, 2, none⟩ = some (.slice ua ms.length uc) ∧ Tk6 w W g6 r t r1 t1 (.slice a ms.length c) (.slice ua ms.length uc) ms) (by kernel_rfl) k5 (fun hHeld => ?_)
      refine take_yes (i := 0) (oi := { dst := some 42, op := Op.load 28 (Operand.tmp 6), type := 28, pos := "l09_pieces.go:113", after := #[], guard := none }) (v := .agg #[.int .i64 r1, .string t1, .slice ua ms.length uc]) rfl (by kernel_rfl) (by kernel_rfl) (by kernel_rfl) (fun _ _ _ h => h) (by rfl) (fun w hSw => by (try dsimp only at hSw); go_simp) (by assumption) ?_
      try simp only [Act.put, List.setIfInBounds_toArray, List.set_cons_zero, List.set_cons_succ]
      refine take_yes (i := 1) (oi := { dst := some 43, op := Op.fieldAddr 28 (Operand.tmp 2) 1, type := 0, pos := "l09_pieces.go:113", after := #[], guard := none }) (v := .pointer (some ⟨w.heap.size, 1, none⟩)) rfl (by kernel_rfl) (by kernel_rfl) (by kernel_rfl) (fun _ _ _ h => h) (by rfl) (fun w hSw => by (try dsimp only at hSw); go_simp) (by assumption) ?_
      try simp only [Act.put, List.setIfInBounds_toArray, List.set_cons_zero, List.set_cons_succ]
      refine take_yes (i := 2) (oi := { dst := some 44, op := Op.load 9 (Operand.tmp 43), type := 9, pos := "l09_pieces.go:113", after := #[{ on := 1, ground := Ground.data }], guard := none }) (v := .string t) rfl (by kernel_rfl) (by kernel_rfl) (by kernel_rfl) (fun _ _ _ h => h) (by rfl) (fun w hSw => by (try dsimp only at hSw); go_simp) (by assumption) ?_
      try simp only [Act.put, List.setIfInBounds_toArray, List.set_cons_zero, List.set_cons_succ]
      refine take_yes (i := 3) (oi := { dst := some 45, op := Op.move (Operand.tmp 1), type := 3, pos := "l09_pieces.go:113", after := #[], guard := none }) (v := .int .i64 tk) rfl (by kernel_rfl) (by kernel_rfl) (by kernel_rfl) (fun _ _ _ h => h) (by rfl) (fun w hSw => by (try dsimp only at hSw); go_simp) (by assumption) ?_
      try simp only [Act.put, List.setIfInBounds_toArray, List.set_cons_zero, List.set_cons_succ]
      refine take_yes (i := 4) (oi := { dst := some 46, op := Op.slice 9 (Operand.tmp 44) none (some (Operand.tmp 45)) none, type := 9, pos := "l09_pieces.go:113", after := #[{ on := 2, ground := Ground.data }, { on := 3, ground := Ground.data }], guard := none }) (v := .string t2) rfl (by kernel_rfl) (by kernel_rfl) (by kernel_rfl) (fun _ _ _ h => h) (by rfl) (fun w hSw => by (try dsimp only at hSw); go_simp) (by assumption) ?_
      try simp only [Act.put, List.setIfInBounds_toArray, List.set_cons_zero, List.set_cons_succ]
      refine wpAnyH_ready (rs := [5]) (by kernel_rfl) (by simp) ?_
      refine AllReadyH.cons (o := { dst := none, op := Op.store 28 (Operand.tmp 4) (Operand.tmp 42), type := 0, pos := "l09_pieces.go:113", after := #[{ on := 0, ground := Ground.data }, { on := 0, ground := Ground.phase }, { on := 1, ground := Ground.textOnly Departure.lateStores }, { on := 2, ground := Ground.textOnly Departure.lateStores }, { on := 3, ground := Ground.textOnly Departure.lateStores }, { on := 4, ground := Ground.textOnly Departure.lateStoresUnsure }], guard := none }) rfl (fun K hK => ?_) AllReadyH.nil
      obtain ⟨x0, x1, x2, hz⟩ := h4.out.res
      obtain ⟨d0, d1, d2⟩ := cel3' hz
      have j0 := hz.frozen 0
      have j1 := hz.frozen 1
      have j2 := hz.frozen 2
      go_simp
      have H9 := h4.out.doneD
      have HF := Lib.hid H9
      refine hK.out _ _ (tk6_all H9.1) (fun hHeldN => ?_)
      clear hK K hHeld
      have hHeld := hHeldN
      clear hHeldN
      try simp only [Act.put, List.setIfInBounds_toArray, List.set_cons_zero, List.set_cons_succ]
      refine take_yes (i := 6) (oi := { dst := some 5, op := Op.assign (Operand.tmp 46), type := 9, pos := "l09_pieces.go:113", after := #[{ on := 4, ground := Ground.data }, { on := 5, ground := Ground.chain }, { on := 0, ground := Ground.phase }, { on := 1, ground := Ground.phase }, { on := 2, ground := Ground.phase }, { on := 3, ground := Ground.phase }, { on := 4, ground := Ground.phase }, { on := 5, ground := Ground.phase }], guard := none }) (v := .string t2) rfl (by kernel_rfl) (by kernel_rfl) (by kernel_rfl) (fun _ _ _ h => h) (by rfl) (fun w hSw => by (try dsimp only at hSw); go_simp) (by assumption) ?_
      try simp only [Act.put, List.setIfInBounds_toArray, List.set_cons_zero, List.set_cons_succ]
      refine wpAnyH_done (by kernel_rfl) ?_ _
      clear hHeld
      obtain ⟨-, p1, p2, p3⟩ := HF.out
      go_wp2_with (fail)
      refine bodyPost_ret (ps_result2 p1 rfl _ rfl) rfl ⟨_, rfl, p3, p2⟩
    · rw [if_neg hm]
      simp only
      cases ok with
      | false =>
        clear hm hpo hs hn
        go_enter Try.func27, Try.ntmps27
        go_wp2_with (fail)
        with_reducible refine (cC _ (hv.below H0.out.below)).mono ?_
        rintro e w1 ⟨u, rfl, hO, hb1⟩
        obtain ⟨ua, uc, rfl, -⟩ := hO.form
        have k2 := tk6_start (H0.out.kept hb1) hO (tk4_far H0.out)
        obtain ⟨b0, b1, b2⟩ := cel3' k2.box
        have h2 := Lib.hid k2
        clear hb1 cC H0 hO k2
        go_wp2_with (fail)
        with_reducible refine (cO _ (hv.below h2.out.below)).mono ?_
        rintro e w3 ⟨rfl, hb3⟩
        have k3 := h2.out.kept hb3
        obtain ⟨b0, b1, b2⟩ := cel3' k3.box
        obtain ⟨e0, e1, e2⟩ := cel3' k3.new
        have l0 := k3.new.frozen 0
        have l1 := k3.new.frozen 1
        generalize w1.heap.size = g6 at *
        have h3 := Lib.hid k3
        clear hb3 cO h2 k3
        have k3 := h3.out
        obtain ⟨x0, x1, x2, hz⟩ := k3.res
        obtain ⟨d0, d1, d2⟩ := cel3' hz
        have j0 := hz.frozen 0
        have j1 := hz.frozen 1
        have j2 := hz.frozen 2
        have HF := Lib.hid k3.done
        clear k3 h3 hz
        go_wp2_with (fail)
        obtain ⟨-, p1, p2, p3⟩ := HF.out
        refine bodyPost_ret (ps_result2 p1 rfl _ rfl) rfl ⟨_, rfl, p3, p2⟩
      | true =>
        obtain ⟨hr0, ht2⟩ := hpo rfl
        by_cases q1 : tk < 0
        · clear hm hpo hs hn hr0 ht2
          go_enter Try.func27, Try.ntmps27
          go_wp2_with (fail)
          with_reducible refine (cC _ (hv.below H0.out.below)).mono ?_
          rintro e w1 ⟨u, rfl, hO, hb1⟩
          obtain ⟨ua, uc, rfl, -⟩ := hO.form
          have k2 := tk6_start (H0.out.kept hb1) hO (tk4_far H0.out)
          obtain ⟨b0, b1, b2⟩ := cel3' k2.box
          have h2 := Lib.hid k2
          clear hb1 cC H0 hO k2
          go_wp2_with (fail)
          with_reducible refine (cO _ (hv.below h2.out.below)).mono ?_
          rintro e w3 ⟨rfl, hb3⟩
          have k3 := h2.out.kept hb3
          obtain ⟨b0, b1, b2⟩ := cel3' k3.box
          obtain ⟨e0, e1, e2⟩ := cel3' k3.new
          have l0 := k3.new.frozen 0
          have l1 := k3.new.frozen 1
          generalize w1.heap.size = g6 at *
          have h3 := Lib.hid k3
          clear hb3 cO h2 k3
          have k3 := h3.out
          obtain ⟨x0, x1, x2, hz⟩ := k3.res
          obtain ⟨d0, d1, d2⟩ := cel3' hz
          have j0 := hz.frozen 0
          have j1 := hz.frozen 1
          have j2 := hz.frozen 2
          have HF := Lib.hid k3.done
          clear k3 h3 hz
          go_wp2_with (fail)
          obtain ⟨-, p1, p2, p3⟩ := HF.out
          refine bodyPost_ret (ps_result2 p1 rfl _ rfl) rfl ⟨_, rfl, p3, p2⟩
        · have e9 : IntKind.i64.wrap (1000000000 - tk) = 1000000000 - tk := IntWalk.i64_in _ (by omega)
          have q2 : (1000000000 : Int) - tk < r := by
            exact Int.not_le.1 (fun h => hm ⟨rfl, by omega, by omega⟩)
          clear hm hpo hs hn hr0 ht2
          go_enter Try.func27, Try.ntmps27
          go_wp2_with (fail)
          with_reducible refine (cC _ (hv.below H0.out.below)).mono ?_
          rintro e w1 ⟨u, rfl, hO, hb1⟩
          obtain ⟨ua, uc, rfl, -⟩ := hO.form
          have k2 := tk6_start (H0.out.kept hb1) hO (tk4_far H0.out)
          obtain ⟨b0, b1, b2⟩ := cel3' k2.box
          have h2 := Lib.hid k2
          clear hb1 cC H0 hO k2
          go_wp2_with (fail)
          with_reducible refine (cO _ (hv.below h2.out.below)).mono ?_
          rintro e w3 ⟨rfl, hb3⟩
          have k3 := h2.out.kept hb3
          obtain ⟨b0, b1, b2⟩ := cel3' k3.box
          obtain ⟨e0, e1, e2⟩ := cel3' k3.new
          have l0 := k3.new.frozen 0
          have l1 := k3.new.frozen 1
          generalize w1.heap.size = g6 at *
          have h3 := Lib.hid k3
          clear hb3 cO h2 k3
          have k3 := h3.out
          obtain ⟨x0, x1, x2, hz⟩ := k3.res
          obtain ⟨d0, d1, d2⟩ := cel3' hz
          have j0 := hz.frozen 0
          have j1 := hz.frozen 1
          have j2 := hz.frozen 2
          have HF := Lib.hid k3.done
          clear k3 h3 hz
          go_wp2_with (fail)
          obtain ⟨-, p1, p2, p3⟩ := HF.out
          refine bodyPost_ret (ps_result2 p1 rfl _ rfl) rfl ⟨_, rfl, p3, p2⟩
end Go.Proofs.Ytkpajakangaekaa
