import Derived.Test.YtoeflkmhofkiaaaZ5
import Derived.Test.YtoeflkmhofkiaaaZ4
import Derived.Test.YtoeflkmhofkiaaaZ3
import Derived.Test.YtoeflkmhofkiaaaZ1
namespace Go.Proofs.Ytoeflkmhofkiaaa
open Go.RowKit
set_option maxRecDepth 100000

theorem lv_eight {W : World} {g : Nat} {t : TypeId} (m : Lv) (h : Cel W g t (lvC m)) : W.cell? ⟨g, 0, none⟩ = some (.int .i64 m.kind) ∧ W.cell? ⟨g, 8, none⟩ = some (.int .i64 m.sign) ∧ W.cell? ⟨g, 18, none⟩ = some (.string m.text) ∧ W.cell? ⟨g, 9, none⟩ = some (.int .i64 m.tag.kind) ∧ W.cell? ⟨g, 10, none⟩ = some (.int .i64 m.tag.one) ∧ W.cell? ⟨g, 11, none⟩ = some (.int .i64 m.tag.two) ∧ W.cell? ⟨g, 12, none⟩ = some (.int .i64 m.tag.a) ∧ W.cell? ⟨g, 13, none⟩ = some (.int .i64 m.tag.b) :=
  ⟨(h.cell 0).trans (by rw [lvC_eq]; rfl), (h.cell 8).trans (by rw [lvC_eq]; rfl), (h.cell 18).trans (by rw [lvC_eq]; rfl), (h.cell 9).trans (by rw [lvC_eq]; rfl), (h.cell 10).trans (by rw [lvC_eq]; rfl), (h.cell 11).trans (by rw [lvC_eq]; rfl), (h.cell 12).trans (by rw [lvC_eq]; rfl), (h.cell 13).trans (by rw [lvC_eq]; rfl)⟩
theorem bw_eight {W : World} {g : Nat} {t : TypeId} (r : Rv) (m : Lv) (h : Cel W g t (lvC (betweenL r m))) : W.cell? ⟨g, 0, none⟩ = some (.int .i64 m.kind) ∧ W.cell? ⟨g, 8, none⟩ = some (.int .i64 m.sign) ∧ W.cell? ⟨g, 18, none⟩ = some (.string m.text) ∧ W.cell? ⟨g, 9, none⟩ = some (.int .i64 m.tag.kind) ∧ W.cell? ⟨g, 10, none⟩ = some (.int .i64 m.tag.one) ∧ W.cell? ⟨g, 11, none⟩ = some (.int .i64 m.tag.two) ∧ W.cell? ⟨g, 12, none⟩ = some (.int .i64 m.tag.a) ∧ W.cell? ⟨g, 13, none⟩ = some (.int .i64 m.tag.b) := lv_eight (betweenL r m) h

set_option linter.unusedSimpArgs false in
set_option maxRecDepth 100000 in
set_option maxHeartbeats 16000000 in
theorem letters_law0 (v : Value) (w : World) (n : Nat) (hr : RdB w v n)
    (cB : ∀ (r : Rv) (m : Lv) (W : World), m.text.size ≤ 1048576 → Calls Try.prog 21 #[.agg #[.int .i64 r.own, .int .i64 r.far, .int .i64 r.port], .agg (lvC m)] W fun e w' => e = .returned (.agg (lvC (betweenL r m))) ∧ Below W.heap.size W w')
    (cR : ∀ (m : Lv) (W : World), Calls Try.prog 22 #[.agg (lvC m)] W fun e w' => e = .returned (.agg #[.int .i64 m.to, .int .i64 m.frm, .int .i64 m.port]) ∧ Below W.heap.size W w')
    (cO : ∀ (m : Lv) (W : World), m.text.size ≤ 9223372036854775807 → Calls Try.prog 24 #[.agg (lvC m)] W fun e w' => e = .returned (.bool (okL m)) ∧ Below W.heap.size W w')
    (cN : ∀ (k : Int) (W : World), Calls Try.prog 26 #[.int .i64 k] W fun e w' => e = .returned (.bool (inN k 7 13)) ∧ Below W.heap.size W w') :
    Calls Try.prog 4 #[v] w fun e w' => e = .returned (.bool true) ∧ Below w.heap.size w w' := by
  have cb := big_call v n w hr
  by_cases hn : 1048576 < n
  · rw [decide_eq_true hn] at cb
    clear hn hr
    go_enter Try.func4, Try.ntmps4
    go_wp2_with (fail)
    with_reducible refine cb.mono ?_
    rintro e w1 ⟨rfl, rfl⟩
    go_wp2_with (fail)
    go_ret
    exact ⟨rfl, Below.refl _ _⟩
  · rw [decide_eq_false hn] at cb
    have cd := draw_between v n w hr (by omega)
    clear hn hr
    go_enter Try.func4, Try.ntmps4
    go_wp2_with (fail)
    with_reducible refine cb.mono ?_
    rintro e w0 ⟨rfl, rfl⟩
    clear cb
    go_wp2_with (fail)
    with_reducible refine cd.mono ?_
    rintro e w1 ⟨r, m, rfl, hs, hb1⟩
    clear cd
    have hA := (Cel.new w1 26 #[.int .i64 r.own, .int .i64 r.far, .int .i64 r.port]).alloc (.cells #[.int .i64 0, .int .i64 0, .int .i64 0, .int .i64 0, .int .i64 0, .int .i64 0, .int .i64 0, .int .i64 0, .int .i64 0, .int .i64 0, .int .i64 0, .int .i64 0, .int .i64 0, .int .i64 0, .int .i64 0, .int .i64 0, .bool false, .int .i64 0, .string ⟨#[]⟩] 41)
    have hX := Cel.new (w1.alloc (.cells #[.int .i64 r.own, .int .i64 r.far, .int .i64 r.port] 26)) 41 #[.int .i64 0, .int .i64 0, .int .i64 0, .int .i64 0, .int .i64 0, .int .i64 0, .int .i64 0, .int .i64 0, .int .i64 0, .int .i64 0, .int .i64 0, .int .i64 0, .int .i64 0, .int .i64 0, .int .i64 0, .int .i64 0, .bool false, .int .i64 0, .string ⟨#[]⟩]
    rw [World.size_alloc] at hX
    have hb2 : Below w1.heap.size w1 (((w1.alloc (.cells #[.int .i64 r.own, .int .i64 r.far, .int .i64 r.port] 26)).alloc (.cells #[.int .i64 0, .int .i64 0, .int .i64 0, .int .i64 0, .int .i64 0, .int .i64 0, .int .i64 0, .int .i64 0, .int .i64 0, .int .i64 0, .int .i64 0, .int .i64 0, .int .i64 0, .int .i64 0, .int .i64 0, .int .i64 0, .bool false, .int .i64 0, .string ⟨#[]⟩] 41)).setRow (w1.heap.size + 1) (lvC m)) := below_row (Below.then_ (below_new _ _) (below_new _ _)) (by omega) _
    have hst := lv_store m hX rfl
    have hn9 := lvC_size m
    have ho : ∀ i, i ≠ w1.heap.size + 1 → ((((w1.alloc (.cells #[.int .i64 r.own, .int .i64 r.far, .int .i64 r.port] 26)).alloc (.cells #[.int .i64 0, .int .i64 0, .int .i64 0, .int .i64 0, .int .i64 0, .int .i64 0, .int .i64 0, .int .i64 0, .int .i64 0, .int .i64 0, .int .i64 0, .int .i64 0, .int .i64 0, .int .i64 0, .int .i64 0, .int .i64 0, .bool false, .int .i64 0, .string ⟨#[]⟩] 41)).setRow (w1.heap.size + 1) (lvC m))).heap[i]? = ((w1.alloc (.cells #[.int .i64 r.own, .int .i64 r.far, .int .i64 r.port] 26)).alloc (.cells #[.int .i64 0, .int .i64 0, .int .i64 0, .int .i64 0, .int .i64 0, .int .i64 0, .int .i64 0, .int .i64 0, .int .i64 0, .int .i64 0, .int .i64 0, .int .i64 0, .int .i64 0, .int .i64 0, .int .i64 0, .int .i64 0, .bool false, .int .i64 0, .string ⟨#[]⟩] 41)).heap[i]? := fun i hi => by
      show ((World.heap _).modify _ _)[i]? = _
      rw [Array.getElem?_modify, if_neg (by omega)]
    have hA2 : Cel (((w1.alloc (.cells #[.int .i64 r.own, .int .i64 r.far, .int .i64 r.port] 26)).alloc (.cells #[.int .i64 0, .int .i64 0, .int .i64 0, .int .i64 0, .int .i64 0, .int .i64 0, .int .i64 0, .int .i64 0, .int .i64 0, .int .i64 0, .int .i64 0, .int .i64 0, .int .i64 0, .int .i64 0, .int .i64 0, .int .i64 0, .bool false, .int .i64 0, .string ⟨#[]⟩] 41)).setRow (w1.heap.size + 1) (lvC m)) w1.heap.size 26 #[.int .i64 r.own, .int .i64 r.far, .int .i64 r.port] := (ho _ (by omega)).trans hA
    have H2 := Lib.hid (And.intro (Below.then_ hb1 hb2) (And.intro hA2 (Cel.row (t := 41) hX (lvC m))))
    clear hA hX hb2 ho hA2 hb1
    go_upto_region 4 with (fail)
    clear hst hn9
    generalize ((w1.alloc (.cells #[.int .i64 r.own, .int .i64 r.far, .int .i64 r.port] 26)).alloc (.cells #[.int .i64 0, .int .i64 0, .int .i64 0, .int .i64 0, .int .i64 0, .int .i64 0, .int .i64 0, .int .i64 0, .int .i64 0, .int .i64 0, .int .i64 0, .int .i64 0, .int .i64 0, .int .i64 0, .int .i64 0, .int .i64 0, .bool false, .int .i64 0, .string ⟨#[]⟩] 41)).setRow (w1.heap.size + 1) (lvC m) = w2 at *
    generalize w1.heap.size = b3 at *
    have hszB := lvC_info m
    have hcell : w2.heap[b3 + 1]? = some (.cells (lvC m) 41 (0, 0)) := H2.out.2.2
    obtain ⟨c0, c1, c2⟩ := cel3r H2.out.2.1
    go_wp2_with (first | (with_reducible refine wpList_load_row rfl 41 _ rfl _ rfl 41 _ (0, 0) _ hcell Try.underlying41 rfl hszB ?_))
    with_reducible refine (cB r m _ (by omega)).mono ?_
    rintro e w3 ⟨rfl, b3'⟩
    have hst := lv_store (betweenL r m) (Cel.new w3 41 #[.int .i64 0, .int .i64 0, .int .i64 0, .int .i64 0, .int .i64 0, .int .i64 0, .int .i64 0, .int .i64 0, .int .i64 0, .int .i64 0, .int .i64 0, .int .i64 0, .int .i64 0, .int .i64 0, .int .i64 0, .int .i64 0, .bool false, .int .i64 0, .string ⟨#[]⟩]) rfl
    have hn9 := lvC_size (betweenL r m)
    have hb4 : Below w3.heap.size w3 ((w3.alloc (.cells #[.int .i64 0, .int .i64 0, .int .i64 0, .int .i64 0, .int .i64 0, .int .i64 0, .int .i64 0, .int .i64 0, .int .i64 0, .int .i64 0, .int .i64 0, .int .i64 0, .int .i64 0, .int .i64 0, .int .i64 0, .int .i64 0, .bool false, .int .i64 0, .string ⟨#[]⟩] 41)).setRow w3.heap.size (lvC (betweenL r m))) := below_row (below_new _ _) (Nat.le_refl _) _
    have H4 := Lib.hid (And.intro (Below.then_ b3' hb4) (Cel.row (t := 41) (Cel.new w3 41 #[.int .i64 0, .int .i64 0, .int .i64 0, .int .i64 0, .int .i64 0, .int .i64 0, .int .i64 0, .int .i64 0, .int .i64 0, .int .i64 0, .int .i64 0, .int .i64 0, .int .i64 0, .int .i64 0, .int .i64 0, .int .i64 0, .bool false, .int .i64 0, .string ⟨#[]⟩]) (lvC (betweenL r m))))
    clear hcell c0 c1 c2 b3' hb4 cB
    go_upto_region 5 with (fail)
    clear hst hn9
    generalize (w3.alloc (.cells #[.int .i64 0, .int .i64 0, .int .i64 0, .int .i64 0, .int .i64 0, .int .i64 0, .int .i64 0, .int .i64 0, .int .i64 0, .int .i64 0, .int .i64 0, .int .i64 0, .int .i64 0, .int .i64 0, .int .i64 0, .int .i64 0, .bool false, .int .i64 0, .string ⟨#[]⟩] 41)).setRow w3.heap.size (lvC (betweenL r m)) = w4 at *
    generalize w3.heap.size = b5 at *
    have HZ := Lib.hid (show ∀ V, Below w4.heap.size w4 V → Below w.heap.size w V ∧ Cel V b3 26 #[.int .i64 r.own, .int .i64 r.far, .int .i64 r.port] ∧ Cel V (b3 + 1) 41 (lvC m) ∧ Cel V b5 41 (lvC (betweenL r m)) from fun V h => by
      have hb := Below.then_ H4.out.1 h
      exact ⟨Below.then_ H2.out.1 hb, H2.out.2.1.kept hb, Cel.kept (t := 41) H2.out.2.2 hb, Cel.kept (t := 41) H4.out.2 h⟩)
    have cR2 := fun W => (show Calls Try.prog 22 #[.agg (lvC (betweenL r m))] W fun e w' => e = .returned (.agg #[.int .i64 r.far, .int .i64 r.own, .int .i64 r.port]) ∧ Below W.heap.size W w' from cR (betweenL r m) W)
    have cK := fun W => (show Calls Try.prog 23 #[.agg #[.int .i64 r.own, .int .i64 r.far, .int .i64 r.port]] W fun e w' => e = .returned (.agg #[.int .i64 r.far, .int .i64 r.own, .int .i64 r.port]) ∧ Below W.heap.size W w' from spec_roadBack r W)
    have cO2 := fun W => cO m W (by omega)
    have cS := fun W => spec_letterOk m W (by omega)
    rw [← lvC_eq] at cS
    have cN1 := fun W => (show Calls Try.prog 26 #[.int .i64 13] W fun e w' => e = .returned (.bool true) ∧ Below W.heap.size W w' from cN 13 W)
    have cN2 := fun W => (show Calls Try.prog 26 #[.int .i64 6] W fun e w' => e = .returned (.bool false) ∧ Below W.heap.size W w' from cN 6 W)
    have he1 := fun W => eql_rv ⟨r.far, r.own, r.port⟩ ⟨r.far, r.own, r.port⟩ W true (by simp)
    have he2 := fun W => eql_tv m.tag m.tag W true (by simp)
    dsimp only at he1
    generalize okL m = ok at *
    clear cR cO cN hs H2 H4
    have hszY := lvC_info (betweenL r m)
    have hS : Below w4.heap.size w4 w4.drew := (Below.refl _ _).drew
    refine wp_region_held_drew (S := fun W => Below w4.heap.size w4 W) (by kernel_rfl) hS (fun hHeld => ?_)
    clear hS
    generalize w4.drew = wd at *
    refine take_yes (i := 0) (oi := { dst := some 16, op := Op.load 41 (Operand.tmp 5), type := 41, pos := "laws.go:602", after := #[], guard := none }) (v := .agg (lvC (betweenL r m))) rfl (by kernel_rfl) (by kernel_rfl) (by kernel_rfl) (fun _ _ _ h => h) (by rfl) (fun w hSw => yes_load_row 41 _ rfl _ (by first | rfl | simp [Act.eval, Act.put]) _ (run_loadVar_row _ _ 41 41 _ (0, 0) _ (HZ.out _ hSw).2.2.2 Try.underlying41 rfl hszY)) (by assumption) ?_
    try simp only [Act.put, List.setIfInBounds_toArray, List.set_cons_zero, List.set_cons_succ]
    refine take_yes (i := 2) (oi := { dst := some 18, op := Op.load 26 (Operand.tmp 3), type := 26, pos := "laws.go:602", after := #[], guard := none }) (v := .agg #[.int .i64 r.own, .int .i64 r.far, .int .i64 r.port]) rfl (by kernel_rfl) (by kernel_rfl) (by kernel_rfl) (fun _ _ _ h => h) (by rfl) (fun w hSw => by (try dsimp only at hSw); obtain ⟨c0, c1, c2⟩ := cel3r (HZ.out _ hSw).2.1; go_simp) (by assumption) ?_
    try simp only [Act.put, List.setIfInBounds_toArray, List.set_cons_zero, List.set_cons_succ]
    refine wpAnyH_ready (rs := [1]) (by kernel_rfl) (by simp) ?_
    refine AllReadyH.cons (o := { dst := some 17, op := Op.call { callee := Callee.value (Operand.func 22), args := #[Operand.tmp 16], argTypes := #[41] }, type := 26, pos := "laws.go:602", after := #[{ on := 0, ground := Ground.data }], guard := none }) rfl (fun K hK => ?_) AllReadyH.nil
    go_simp
    with_reducible refine (cR2 _).mono ?_
    rintro e wC1 ⟨rfl, bC⟩
    have KC2 := Below.then_ hHeld bC
    clear bC
    refine hK.out _ _ KC2 (fun hHeldN => ?_)
    clear hK K hHeld
    have hHeld := hHeldN
    clear hHeldN
    try simp only [Act.put, List.setIfInBounds_toArray, List.set_cons_zero, List.set_cons_succ]
    refine wpAnyH_ready (rs := [3]) (by kernel_rfl) (by simp) ?_
    refine AllReadyH.cons (o := { dst := some 19, op := Op.call { callee := Callee.value (Operand.func 23), args := #[Operand.tmp 18], argTypes := #[26] }, type := 26, pos := "laws.go:602", after := #[{ on := 2, ground := Ground.data }, { on := 1, ground := Ground.chain }], guard := none }) rfl (fun K hK => ?_) AllReadyH.nil
    go_simp
    with_reducible refine (cK _).mono ?_
    rintro e wC3 ⟨rfl, bC⟩
    have KC4 := Below.then_ hHeld bC
    clear bC
    refine hK.out _ _ KC4 (fun hHeldN => ?_)
    clear hK K hHeld
    have hHeld := hHeldN
    clear hHeldN
    try simp only [Act.put, List.setIfInBounds_toArray, List.set_cons_zero, List.set_cons_succ]
    refine take_yes (i := 4) (oi := { dst := some 20, op := Op.binOp BinOp.eql 26 (Operand.tmp 17) (Operand.tmp 19) 26, type := 4, pos := "laws.go:602", after := #[{ on := 1, ground := Ground.data }, { on := 3, ground := Ground.data }], guard := none }) (v := .bool true) rfl (by kernel_rfl) (by kernel_rfl) (by kernel_rfl) (fun _ _ _ h => h) (by rfl) (fun w hSw => by (try dsimp only at hSw); go_simp) (by assumption) ?_
    try simp only [Act.put, List.setIfInBounds_toArray, List.set_cons_zero, List.set_cons_succ]
    refine take_yes (i := 5) (oi := { dst := some 21, op := Op.move (Operand.tmp 20), type := 4, pos := "laws.go:602", after := #[{ on := 4, ground := Ground.data }, { on := 3, ground := Ground.chain }], guard := none }) (v := .bool true) rfl (by kernel_rfl) (by kernel_rfl) (by kernel_rfl) (fun _ _ _ h => h) (by rfl) (fun w hSw => by (try dsimp only at hSw); go_simp) (by assumption) ?_
    try simp only [Act.put, List.setIfInBounds_toArray, List.set_cons_zero, List.set_cons_succ]
    refine take_yes (i := 6) (oi := { dst := some 22, op := Op.fieldAddr 41 (Operand.tmp 5) 0, type := 0, pos := "laws.go:602", after := #[{ on := 5, ground := Ground.guard }], guard := some (5, true) }) (v := .pointer (some ⟨b5, 0, none⟩)) rfl (by kernel_rfl) (by kernel_rfl) (by kernel_rfl) (fun _ _ _ h => h) (by rfl) (fun w hSw => by (try dsimp only at hSw); go_simp) (by assumption) ?_
    try simp only [Act.put, List.setIfInBounds_toArray, List.set_cons_zero, List.set_cons_succ]
    refine take_yes (i := 7) (oi := { dst := some 23, op := Op.load 3 (Operand.tmp 22), type := 3, pos := "laws.go:602", after := #[{ on := 6, ground := Ground.data }, { on := 5, ground := Ground.guard }], guard := some (5, true) }) (v := .int .i64 m.kind) rfl (by kernel_rfl) (by kernel_rfl) (by kernel_rfl) (fun _ _ _ h => h) (by rfl) (fun w hSw => by (try dsimp only at hSw); obtain ⟨q0, q8, q18, q9, q10, q11, q12, q13⟩ := bw_eight r m (HZ.out _ hSw).2.2.2; go_simp) (by assumption) ?_
    try simp only [Act.put, List.setIfInBounds_toArray, List.set_cons_zero, List.set_cons_succ]
    refine take_yes (i := 8) (oi := { dst := some 24, op := Op.fieldAddr 41 (Operand.tmp 4) 0, type := 0, pos := "laws.go:602", after := #[{ on := 5, ground := Ground.guard }], guard := some (5, true) }) (v := .pointer (some ⟨b3 + 1, 0, none⟩)) rfl (by kernel_rfl) (by kernel_rfl) (by kernel_rfl) (fun _ _ _ h => h) (by rfl) (fun w hSw => by (try dsimp only at hSw); go_simp) (by assumption) ?_
    try simp only [Act.put, List.setIfInBounds_toArray, List.set_cons_zero, List.set_cons_succ]
    refine take_yes (i := 9) (oi := { dst := some 25, op := Op.load 3 (Operand.tmp 24), type := 3, pos := "laws.go:602", after := #[{ on := 8, ground := Ground.data }, { on := 5, ground := Ground.guard }], guard := some (5, true) }) (v := .int .i64 m.kind) rfl (by kernel_rfl) (by kernel_rfl) (by kernel_rfl) (fun _ _ _ h => h) (by rfl) (fun w hSw => by (try dsimp only at hSw); obtain ⟨q0, q8, q18, q9, q10, q11, q12, q13⟩ := lv_eight m (HZ.out _ hSw).2.2.1; go_simp) (by assumption) ?_
    try simp only [Act.put, List.setIfInBounds_toArray, List.set_cons_zero, List.set_cons_succ]
    refine take_yes (i := 10) (oi := { dst := some 26, op := Op.binOp BinOp.eql 3 (Operand.tmp 23) (Operand.tmp 25) 3, type := 4, pos := "laws.go:602", after := #[{ on := 7, ground := Ground.data }, { on := 9, ground := Ground.data }, { on := 5, ground := Ground.guard }], guard := some (5, true) }) (v := .bool true) rfl (by kernel_rfl) (by kernel_rfl) (by kernel_rfl) (fun _ _ _ h => h) (by rfl) (fun w hSw => by (try dsimp only at hSw); go_simp) (by assumption) ?_
    try simp only [Act.put, List.setIfInBounds_toArray, List.set_cons_zero, List.set_cons_succ]
    refine take_yes (i := 11) (oi := { dst := some 27, op := Op.pick (Operand.tmp 21) (Operand.tmp 26) (Operand.const (Value.bool false)), type := 4, pos := "laws.go:602", after := #[{ on := 5, ground := Ground.data }, { on := 10, ground := Ground.data }], guard := none }) (v := .bool true) rfl (by kernel_rfl) (by kernel_rfl) (by kernel_rfl) (fun _ _ _ h => h) (by rfl) (fun w hSw => by (try dsimp only at hSw); go_simp) (by assumption) ?_
    try simp only [Act.put, List.setIfInBounds_toArray, List.set_cons_zero, List.set_cons_succ]
    refine take_yes (i := 12) (oi := { dst := some 28, op := Op.move (Operand.tmp 27), type := 4, pos := "laws.go:602", after := #[{ on := 11, ground := Ground.data }, { on := 5, ground := Ground.chain }], guard := none }) (v := .bool true) rfl (by kernel_rfl) (by kernel_rfl) (by kernel_rfl) (fun _ _ _ h => h) (by rfl) (fun w hSw => by (try dsimp only at hSw); go_simp) (by assumption) ?_
    try simp only [Act.put, List.setIfInBounds_toArray, List.set_cons_zero, List.set_cons_succ]
    refine take_yes (i := 13) (oi := { dst := some 29, op := Op.fieldAddr 41 (Operand.tmp 5) 8, type := 0, pos := "laws.go:602", after := #[{ on := 12, ground := Ground.guard }], guard := some (12, true) }) (v := .pointer (some ⟨b5, 8, none⟩)) rfl (by kernel_rfl) (by kernel_rfl) (by kernel_rfl) (fun _ _ _ h => h) (by rfl) (fun w hSw => by (try dsimp only at hSw); go_simp) (by assumption) ?_
    try simp only [Act.put, List.setIfInBounds_toArray, List.set_cons_zero, List.set_cons_succ]
    refine take_yes (i := 14) (oi := { dst := some 30, op := Op.load 3 (Operand.tmp 29), type := 3, pos := "laws.go:602", after := #[{ on := 13, ground := Ground.data }, { on := 12, ground := Ground.guard }], guard := some (12, true) }) (v := .int .i64 m.sign) rfl (by kernel_rfl) (by kernel_rfl) (by kernel_rfl) (fun _ _ _ h => h) (by rfl) (fun w hSw => by (try dsimp only at hSw); obtain ⟨q0, q8, q18, q9, q10, q11, q12, q13⟩ := bw_eight r m (HZ.out _ hSw).2.2.2; go_simp) (by assumption) ?_
    try simp only [Act.put, List.setIfInBounds_toArray, List.set_cons_zero, List.set_cons_succ]
    refine take_yes (i := 15) (oi := { dst := some 31, op := Op.fieldAddr 41 (Operand.tmp 4) 8, type := 0, pos := "laws.go:602", after := #[{ on := 12, ground := Ground.guard }], guard := some (12, true) }) (v := .pointer (some ⟨b3 + 1, 8, none⟩)) rfl (by kernel_rfl) (by kernel_rfl) (by kernel_rfl) (fun _ _ _ h => h) (by rfl) (fun w hSw => by (try dsimp only at hSw); go_simp) (by assumption) ?_
    try simp only [Act.put, List.setIfInBounds_toArray, List.set_cons_zero, List.set_cons_succ]
    refine take_yes (i := 16) (oi := { dst := some 32, op := Op.load 3 (Operand.tmp 31), type := 3, pos := "laws.go:602", after := #[{ on := 15, ground := Ground.data }, { on := 12, ground := Ground.guard }], guard := some (12, true) }) (v := .int .i64 m.sign) rfl (by kernel_rfl) (by kernel_rfl) (by kernel_rfl) (fun _ _ _ h => h) (by rfl) (fun w hSw => by (try dsimp only at hSw); obtain ⟨q0, q8, q18, q9, q10, q11, q12, q13⟩ := lv_eight m (HZ.out _ hSw).2.2.1; go_simp) (by assumption) ?_
    try simp only [Act.put, List.setIfInBounds_toArray, List.set_cons_zero, List.set_cons_succ]
    refine take_yes (i := 17) (oi := { dst := some 33, op := Op.binOp BinOp.eql 3 (Operand.tmp 30) (Operand.tmp 32) 3, type := 4, pos := "laws.go:602", after := #[{ on := 14, ground := Ground.data }, { on := 16, ground := Ground.data }, { on := 12, ground := Ground.guard }], guard := some (12, true) }) (v := .bool true) rfl (by kernel_rfl) (by kernel_rfl) (by kernel_rfl) (fun _ _ _ h => h) (by rfl) (fun w hSw => by (try dsimp only at hSw); go_simp) (by assumption) ?_
    try simp only [Act.put, List.setIfInBounds_toArray, List.set_cons_zero, List.set_cons_succ]
    refine take_yes (i := 18) (oi := { dst := some 34, op := Op.pick (Operand.tmp 28) (Operand.tmp 33) (Operand.const (Value.bool false)), type := 4, pos := "laws.go:602", after := #[{ on := 12, ground := Ground.data }, { on := 17, ground := Ground.data }], guard := none }) (v := .bool true) rfl (by kernel_rfl) (by kernel_rfl) (by kernel_rfl) (fun _ _ _ h => h) (by rfl) (fun w hSw => by (try dsimp only at hSw); go_simp) (by assumption) ?_
    try simp only [Act.put, List.setIfInBounds_toArray, List.set_cons_zero, List.set_cons_succ]
    refine take_yes (i := 19) (oi := { dst := some 35, op := Op.move (Operand.tmp 34), type := 4, pos := "laws.go:602", after := #[{ on := 18, ground := Ground.data }, { on := 12, ground := Ground.chain }], guard := none }) (v := .bool true) rfl (by kernel_rfl) (by kernel_rfl) (by kernel_rfl) (fun _ _ _ h => h) (by rfl) (fun w hSw => by (try dsimp only at hSw); go_simp) (by assumption) ?_
    try simp only [Act.put, List.setIfInBounds_toArray, List.set_cons_zero, List.set_cons_succ]
    refine take_yes (i := 20) (oi := { dst := some 36, op := Op.fieldAddr 41 (Operand.tmp 5) 14, type := 0, pos := "laws.go:602", after := #[{ on := 19, ground := Ground.guard }], guard := some (19, true) }) (v := .pointer (some ⟨b5, 18, none⟩)) rfl (by kernel_rfl) (by kernel_rfl) (by kernel_rfl) (fun _ _ _ h => h) (by rfl) (fun w hSw => by (try dsimp only at hSw); go_simp) (by assumption) ?_
    try simp only [Act.put, List.setIfInBounds_toArray, List.set_cons_zero, List.set_cons_succ]
    refine take_yes (i := 21) (oi := { dst := some 37, op := Op.load 9 (Operand.tmp 36), type := 9, pos := "laws.go:602", after := #[{ on := 20, ground := Ground.data }, { on := 19, ground := Ground.guard }], guard := some (19, true) }) (v := .string m.text) rfl (by kernel_rfl) (by kernel_rfl) (by kernel_rfl) (fun _ _ _ h => h) (by rfl) (fun w hSw => by (try dsimp only at hSw); obtain ⟨q0, q8, q18, q9, q10, q11, q12, q13⟩ := bw_eight r m (HZ.out _ hSw).2.2.2; go_simp) (by assumption) ?_
    try simp only [Act.put, List.setIfInBounds_toArray, List.set_cons_zero, List.set_cons_succ]
    refine take_yes (i := 22) (oi := { dst := some 38, op := Op.fieldAddr 41 (Operand.tmp 4) 14, type := 0, pos := "laws.go:602", after := #[{ on := 19, ground := Ground.guard }], guard := some (19, true) }) (v := .pointer (some ⟨b3 + 1, 18, none⟩)) rfl (by kernel_rfl) (by kernel_rfl) (by kernel_rfl) (fun _ _ _ h => h) (by rfl) (fun w hSw => by (try dsimp only at hSw); go_simp) (by assumption) ?_
    try simp only [Act.put, List.setIfInBounds_toArray, List.set_cons_zero, List.set_cons_succ]
    refine take_yes (i := 23) (oi := { dst := some 39, op := Op.load 9 (Operand.tmp 38), type := 9, pos := "laws.go:602", after := #[{ on := 22, ground := Ground.data }, { on := 19, ground := Ground.guard }], guard := some (19, true) }) (v := .string m.text) rfl (by kernel_rfl) (by kernel_rfl) (by kernel_rfl) (fun _ _ _ h => h) (by rfl) (fun w hSw => by (try dsimp only at hSw); obtain ⟨q0, q8, q18, q9, q10, q11, q12, q13⟩ := lv_eight m (HZ.out _ hSw).2.2.1; go_simp) (by assumption) ?_
    try simp only [Act.put, List.setIfInBounds_toArray, List.set_cons_zero, List.set_cons_succ]
    refine take_yes (i := 24) (oi := { dst := some 40, op := Op.binOp BinOp.eql 9 (Operand.tmp 37) (Operand.tmp 39) 9, type := 4, pos := "laws.go:602", after := #[{ on := 21, ground := Ground.data }, { on := 23, ground := Ground.data }, { on := 19, ground := Ground.guard }], guard := some (19, true) }) (v := .bool true) rfl (by kernel_rfl) (by kernel_rfl) (by kernel_rfl) (fun _ _ _ h => h) (by rfl) (fun w hSw => by (try dsimp only at hSw); go_simp) (by assumption) ?_
    try simp only [Act.put, List.setIfInBounds_toArray, List.set_cons_zero, List.set_cons_succ]
    refine take_yes (i := 25) (oi := { dst := some 41, op := Op.pick (Operand.tmp 35) (Operand.tmp 40) (Operand.const (Value.bool false)), type := 4, pos := "laws.go:602", after := #[{ on := 19, ground := Ground.data }, { on := 24, ground := Ground.data }], guard := none }) (v := .bool true) rfl (by kernel_rfl) (by kernel_rfl) (by kernel_rfl) (fun _ _ _ h => h) (by rfl) (fun w hSw => by (try dsimp only at hSw); go_simp) (by assumption) ?_
    try simp only [Act.put, List.setIfInBounds_toArray, List.set_cons_zero, List.set_cons_succ]
    refine take_yes (i := 26) (oi := { dst := some 42, op := Op.move (Operand.tmp 41), type := 4, pos := "laws.go:602", after := #[{ on := 25, ground := Ground.data }, { on := 19, ground := Ground.chain }], guard := none }) (v := .bool true) rfl (by kernel_rfl) (by kernel_rfl) (by kernel_rfl) (fun _ _ _ h => h) (by rfl) (fun w hSw => by (try dsimp only at hSw); go_simp) (by assumption) ?_
    try simp only [Act.put, List.setIfInBounds_toArray, List.set_cons_zero, List.set_cons_succ]
    refine take_yes (i := 27) (oi := { dst := some 43, op := Op.fieldAddr 41 (Operand.tmp 5) 9, type := 0, pos := "laws.go:602", after := #[{ on := 26, ground := Ground.guard }], guard := some (26, true) }) (v := .pointer (some ⟨b5, 9, none⟩)) rfl (by kernel_rfl) (by kernel_rfl) (by kernel_rfl) (fun _ _ _ h => h) (by rfl) (fun w hSw => by (try dsimp only at hSw); go_simp) (by assumption) ?_
    try simp only [Act.put, List.setIfInBounds_toArray, List.set_cons_zero, List.set_cons_succ]
    refine take_yes (i := 28) (oi := { dst := some 44, op := Op.load 39 (Operand.tmp 43), type := 39, pos := "laws.go:602", after := #[{ on := 27, ground := Ground.data }, { on := 26, ground := Ground.guard }], guard := some (26, true) }) (v := .agg #[.int .i64 m.tag.kind, .int .i64 m.tag.one, .int .i64 m.tag.two, .int .i64 m.tag.a, .int .i64 m.tag.b]) rfl (by kernel_rfl) (by kernel_rfl) (by kernel_rfl) (fun _ _ _ h => h) (by rfl) (fun w hSw => by (try dsimp only at hSw); obtain ⟨q0, q8, q18, q9, q10, q11, q12, q13⟩ := bw_eight r m (HZ.out _ hSw).2.2.2; go_simp) (by assumption) ?_
    try simp only [Act.put, List.setIfInBounds_toArray, List.set_cons_zero, List.set_cons_succ]
    refine take_yes (i := 29) (oi := { dst := some 45, op := Op.fieldAddr 41 (Operand.tmp 4) 9, type := 0, pos := "laws.go:602", after := #[{ on := 26, ground := Ground.guard }], guard := some (26, true) }) (v := .pointer (some ⟨b3 + 1, 9, none⟩)) rfl (by kernel_rfl) (by kernel_rfl) (by kernel_rfl) (fun _ _ _ h => h) (by rfl) (fun w hSw => by (try dsimp only at hSw); go_simp) (by assumption) ?_
    try simp only [Act.put, List.setIfInBounds_toArray, List.set_cons_zero, List.set_cons_succ]
    refine take_yes (i := 30) (oi := { dst := some 46, op := Op.load 39 (Operand.tmp 45), type := 39, pos := "laws.go:602", after := #[{ on := 29, ground := Ground.data }, { on := 26, ground := Ground.guard }], guard := some (26, true) }) (v := .agg #[.int .i64 m.tag.kind, .int .i64 m.tag.one, .int .i64 m.tag.two, .int .i64 m.tag.a, .int .i64 m.tag.b]) rfl (by kernel_rfl) (by kernel_rfl) (by kernel_rfl) (fun _ _ _ h => h) (by rfl) (fun w hSw => by (try dsimp only at hSw); obtain ⟨q0, q8, q18, q9, q10, q11, q12, q13⟩ := lv_eight m (HZ.out _ hSw).2.2.1; go_simp) (by assumption) ?_
    try simp only [Act.put, List.setIfInBounds_toArray, List.set_cons_zero, List.set_cons_succ]
    refine take_yes (i := 31) (oi := { dst := some 47, op := Op.binOp BinOp.eql 39 (Operand.tmp 44) (Operand.tmp 46) 39, type := 4, pos := "laws.go:602", after := #[{ on := 28, ground := Ground.data }, { on := 30, ground := Ground.data }, { on := 26, ground := Ground.guard }], guard := some (26, true) }) (v := .bool true) rfl (by kernel_rfl) (by kernel_rfl) (by kernel_rfl) (fun _ _ _ h => h) (by rfl) (fun w hSw => by (try dsimp only at hSw); go_simp) (by assumption) ?_
    try simp only [Act.put, List.setIfInBounds_toArray, List.set_cons_zero, List.set_cons_succ]
    refine take_yes (i := 32) (oi := { dst := some 48, op := Op.pick (Operand.tmp 42) (Operand.tmp 47) (Operand.const (Value.bool false)), type := 4, pos := "laws.go:602", after := #[{ on := 26, ground := Ground.data }, { on := 31, ground := Ground.data }], guard := none }) (v := .bool true) rfl (by kernel_rfl) (by kernel_rfl) (by kernel_rfl) (fun _ _ _ h => h) (by rfl) (fun w hSw => by (try dsimp only at hSw); go_simp) (by assumption) ?_
    try simp only [Act.put, List.setIfInBounds_toArray, List.set_cons_zero, List.set_cons_succ]
    refine take_yes (i := 33) (oi := { dst := some 49, op := Op.move (Operand.tmp 48), type := 4, pos := "laws.go:602", after := #[{ on := 32, ground := Ground.data }, { on := 26, ground := Ground.chain }], guard := none }) (v := .bool true) rfl (by kernel_rfl) (by kernel_rfl) (by kernel_rfl) (fun _ _ _ h => h) (by rfl) (fun w hSw => by (try dsimp only at hSw); go_simp) (by assumption) ?_
    try simp only [Act.put, List.setIfInBounds_toArray, List.set_cons_zero, List.set_cons_succ]
    refine take_yes (i := 34) (oi := { dst := some 50, op := Op.load 41 (Operand.tmp 4), type := 41, pos := "laws.go:602", after := #[{ on := 33, ground := Ground.guard }], guard := some (33, true) }) (v := .agg (lvC m)) rfl (by kernel_rfl) (by kernel_rfl) (by kernel_rfl) (fun _ _ _ h => h) (by rfl) (fun w hSw => yes_load_row 41 _ rfl _ (by first | rfl | simp [Act.eval, Act.put]) _ (run_loadVar_row _ _ 41 41 _ (0, 0) _ (HZ.out _ hSw).2.2.1 Try.underlying41 rfl hszB)) (by assumption) ?_
    try simp only [Act.put, List.setIfInBounds_toArray, List.set_cons_zero, List.set_cons_succ]
    refine take_yes (i := 36) (oi := { dst := some 52, op := Op.load 41 (Operand.tmp 4), type := 41, pos := "laws.go:602", after := #[{ on := 33, ground := Ground.guard }], guard := some (33, true) }) (v := .agg (lvC m)) rfl (by kernel_rfl) (by kernel_rfl) (by kernel_rfl) (fun _ _ _ h => h) (by rfl) (fun w hSw => yes_load_row 41 _ rfl _ (by first | rfl | simp [Act.eval, Act.put]) _ (run_loadVar_row _ _ 41 41 _ (0, 0) _ (HZ.out _ hSw).2.2.1 Try.underlying41 rfl hszB)) (by assumption) ?_
    try simp only [Act.put, List.setIfInBounds_toArray, List.set_cons_zero, List.set_cons_succ]
    refine wpAnyH_ready (rs := [35]) (by kernel_rfl) (by simp) ?_
    refine AllReadyH.cons (o := { dst := some 51, op := Op.call { callee := Callee.value (Operand.func 24), args := #[Operand.tmp 50], argTypes := #[41] }, type := 4, pos := "laws.go:602", after := #[{ on := 34, ground := Ground.data }, { on := 33, ground := Ground.chain }, { on := 33, ground := Ground.guard }], guard := some (33, true) }) rfl (fun K hK => ?_) AllReadyH.nil
    go_simp
    with_reducible refine (cO2 _).mono ?_
    rintro e wC5 ⟨rfl, bC⟩
    have KC6 := Below.then_ hHeld bC
    clear bC
    refine hK.out _ _ KC6 (fun hHeldN => ?_)
    clear hK K hHeld
    have hHeld := hHeldN
    clear hHeldN
    try simp only [Act.put, List.setIfInBounds_toArray, List.set_cons_zero, List.set_cons_succ]
    refine wpAnyH_ready (rs := [37]) (by kernel_rfl) (by simp) ?_
    refine AllReadyH.cons (o := { dst := some 53, op := Op.call { callee := Callee.value (Operand.func 25), args := #[Operand.tmp 52], argTypes := #[41] }, type := 4, pos := "laws.go:602", after := #[{ on := 36, ground := Ground.data }, { on := 35, ground := Ground.chain }, { on := 33, ground := Ground.guard }], guard := some (33, true) }) rfl (fun K hK => ?_) AllReadyH.nil
    go_simp
    with_reducible refine (cS _).mono ?_
    rintro e wC7 ⟨rfl, bC⟩
    have KC8 := Below.then_ hHeld bC
    clear bC
    refine hK.out _ _ KC8 (fun hHeldN => ?_)
    clear hK K hHeld
    have hHeld := hHeldN
    clear hHeldN
    try simp only [Act.put, List.setIfInBounds_toArray, List.set_cons_zero, List.set_cons_succ]
    refine take_yes (i := 38) (oi := { dst := some 54, op := Op.binOp BinOp.eql 4 (Operand.tmp 51) (Operand.tmp 53) 4, type := 4, pos := "laws.go:602", after := #[{ on := 35, ground := Ground.data }, { on := 37, ground := Ground.data }, { on := 33, ground := Ground.guard }], guard := some (33, true) }) (v := .bool true) rfl (by kernel_rfl) (by kernel_rfl) (by kernel_rfl) (fun _ _ _ h => h) (by rfl) (fun w hSw => by (try dsimp only at hSw); go_simp) (by assumption) ?_
    try simp only [Act.put, List.setIfInBounds_toArray, List.set_cons_zero, List.set_cons_succ]
    refine take_yes (i := 39) (oi := { dst := some 55, op := Op.pick (Operand.tmp 49) (Operand.tmp 54) (Operand.const (Value.bool false)), type := 4, pos := "laws.go:602", after := #[{ on := 33, ground := Ground.data }, { on := 38, ground := Ground.data }], guard := none }) (v := .bool true) rfl (by kernel_rfl) (by kernel_rfl) (by kernel_rfl) (fun _ _ _ h => h) (by rfl) (fun w hSw => by (try dsimp only at hSw); go_simp) (by assumption) ?_
    try simp only [Act.put, List.setIfInBounds_toArray, List.set_cons_zero, List.set_cons_succ]
    refine take_yes (i := 40) (oi := { dst := some 56, op := Op.move (Operand.tmp 55), type := 4, pos := "laws.go:602", after := #[{ on := 39, ground := Ground.data }, { on := 37, ground := Ground.chain }], guard := none }) (v := .bool true) rfl (by kernel_rfl) (by kernel_rfl) (by kernel_rfl) (fun _ _ _ h => h) (by rfl) (fun w hSw => by (try dsimp only at hSw); go_simp) (by assumption) ?_
    try simp only [Act.put, List.setIfInBounds_toArray, List.set_cons_zero, List.set_cons_succ]
    refine wpAnyH_ready (rs := [41]) (by kernel_rfl) (by simp) ?_
    refine AllReadyH.cons (o := { dst := some 57, op := Op.call { callee := Callee.value (Operand.func 26), args := #[Operand.const (Value.int IntKind.i64 13)], argTypes := #[3] }, type := 4, pos := "laws.go:602", after := #[{ on := 40, ground := Ground.chain }, { on := 40, ground := Ground.guard }], guard := some (40, true) }) rfl (fun K hK => ?_) AllReadyH.nil
    go_simp
    with_reducible refine (cN1 _).mono ?_
    rintro e wC9 ⟨rfl, bC⟩
    have KC10 := Below.then_ hHeld bC
    clear bC
    refine hK.out _ _ KC10 (fun hHeldN => ?_)
    clear hK K hHeld
    have hHeld := hHeldN
    clear hHeldN
    try simp only [Act.put, List.setIfInBounds_toArray, List.set_cons_zero, List.set_cons_succ]
    refine take_yes (i := 42) (oi := { dst := some 58, op := Op.pick (Operand.tmp 56) (Operand.tmp 57) (Operand.const (Value.bool false)), type := 4, pos := "laws.go:602", after := #[{ on := 40, ground := Ground.data }, { on := 41, ground := Ground.data }], guard := none }) (v := .bool true) rfl (by kernel_rfl) (by kernel_rfl) (by kernel_rfl) (fun _ _ _ h => h) (by rfl) (fun w hSw => by (try dsimp only at hSw); go_simp) (by assumption) ?_
    try simp only [Act.put, List.setIfInBounds_toArray, List.set_cons_zero, List.set_cons_succ]
    refine take_yes (i := 43) (oi := { dst := some 59, op := Op.move (Operand.tmp 58), type := 4, pos := "laws.go:602", after := #[{ on := 42, ground := Ground.data }, { on := 41, ground := Ground.chain }], guard := none }) (v := .bool true) rfl (by kernel_rfl) (by kernel_rfl) (by kernel_rfl) (fun _ _ _ h => h) (by rfl) (fun w hSw => by (try dsimp only at hSw); go_simp) (by assumption) ?_
    try simp only [Act.put, List.setIfInBounds_toArray, List.set_cons_zero, List.set_cons_succ]
    refine wpAnyH_ready (rs := [44]) (by kernel_rfl) (by simp) ?_
    refine AllReadyH.cons (o := { dst := some 60, op := Op.call { callee := Callee.value (Operand.func 26), args := #[Operand.const (Value.int IntKind.i64 6)], argTypes := #[3] }, type := 4, pos := "laws.go:602", after := #[{ on := 43, ground := Ground.chain }, { on := 43, ground := Ground.guard }], guard := some (43, true) }) rfl (fun K hK => ?_) AllReadyH.nil
    go_simp
    with_reducible refine (cN2 _).mono ?_
    rintro e wC11 ⟨rfl, bC⟩
    have KC12 := Below.then_ hHeld bC
    clear bC
    refine hK.out _ _ KC12 (fun hHeldN => ?_)
    clear hK K hHeld
    have hHeld := hHeldN
    clear hHeldN
    try simp only [Act.put, List.setIfInBounds_toArray, List.set_cons_zero, List.set_cons_succ]
    refine take_yes (i := 45) (oi := { dst := some 61, op := Op.unOp UnOp.not 4 (Operand.tmp 60), type := 4, pos := "laws.go:602", after := #[{ on := 44, ground := Ground.data }, { on := 43, ground := Ground.guard }], guard := some (43, true) }) (v := .bool true) rfl (by kernel_rfl) (by kernel_rfl) (by kernel_rfl) (fun _ _ _ h => h) (by rfl) (fun w hSw => by (try dsimp only at hSw); go_simp) (by assumption) ?_
    try simp only [Act.put, List.setIfInBounds_toArray, List.set_cons_zero, List.set_cons_succ]
    refine take_yes (i := 46) (oi := { dst := some 62, op := Op.pick (Operand.tmp 59) (Operand.tmp 61) (Operand.const (Value.bool false)), type := 4, pos := "laws.go:602", after := #[{ on := 43, ground := Ground.data }, { on := 45, ground := Ground.data }], guard := none }) (v := .bool true) rfl (by kernel_rfl) (by kernel_rfl) (by kernel_rfl) (fun _ _ _ h => h) (by rfl) (fun w hSw => by (try dsimp only at hSw); go_simp) (by assumption) ?_
    try simp only [Act.put, List.setIfInBounds_toArray, List.set_cons_zero, List.set_cons_succ]
    refine take_yes (i := 47) (oi := { dst := some 2, op := Op.assign (Operand.tmp 62), type := 4, pos := "laws.go:602", after := #[{ on := 46, ground := Ground.data }, { on := 44, ground := Ground.chain }, { on := 0, ground := Ground.phase }, { on := 1, ground := Ground.phase }, { on := 2, ground := Ground.phase }, { on := 3, ground := Ground.phase }, { on := 4, ground := Ground.phase }, { on := 5, ground := Ground.phase }, { on := 6, ground := Ground.phase }, { on := 7, ground := Ground.phase }, { on := 8, ground := Ground.phase }, { on := 9, ground := Ground.phase }, { on := 10, ground := Ground.phase }, { on := 11, ground := Ground.phase }, { on := 12, ground := Ground.phase }, { on := 13, ground := Ground.phase }, { on := 14, ground := Ground.phase }, { on := 15, ground := Ground.phase }, { on := 16, ground := Ground.phase }, { on := 17, ground := Ground.phase }, { on := 18, ground := Ground.phase }, { on := 19, ground := Ground.phase }, { on := 20, ground := Ground.phase }, { on := 21, ground := Ground.phase }, { on := 22, ground := Ground.phase }, { on := 23, ground := Ground.phase }, { on := 24, ground := Ground.phase }, { on := 25, ground := Ground.phase }, { on := 26, ground := Ground.phase }, { on := 27, ground := Ground.phase }, { on := 28, ground := Ground.phase }, { on := 29, ground := Ground.phase }, { on := 30, ground := Ground.phase }, { on := 31, ground := Ground.phase }, { on := 32, ground := Ground.phase }, { on := 33, ground := Ground.phase }, { on := 34, ground := Ground.phase }, { on := 35, ground := Ground.phase }, { on := 36, ground := Ground.phase }, { on := 37, ground := Ground.phase }, { on := 38, ground := Ground.phase }, { on := 39, ground := Ground.phase }, { on := 40, ground := Ground.phase }, { on := 41, ground := Ground.phase }, { on := 42, ground := Ground.phase }, { on := 43, ground := Ground.phase }, { on := 44, ground := Ground.phase }, { on := 45, ground := Ground.phase }, { on := 46, ground := Ground.phase }], guard := none }) (v := .bool true) rfl (by kernel_rfl) (by kernel_rfl) (by kernel_rfl) (fun _ _ _ h => h) (by rfl) (fun w hSw => by (try dsimp only at hSw); go_simp) (by assumption) ?_
    try simp only [Act.put, List.setIfInBounds_toArray, List.set_cons_zero, List.set_cons_succ]
    refine wpAnyH_done (by kernel_rfl) ?_ _
    have hHeld2 := hHeld
    clear hHeld
    have HE := Lib.hid (HZ.out _ hHeld2).1
    clear hHeld2
    go_wp2_with (fail)
    go_ret
    exact ⟨rfl, HE.out⟩
end Go.Proofs.Ytoeflkmhofkiaaa

