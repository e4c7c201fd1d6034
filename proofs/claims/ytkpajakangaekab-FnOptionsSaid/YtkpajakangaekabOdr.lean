import Derived.Test.YtkpajakangaekabSpu
import Derived.Test.YtkpajakangaekabMgD
import Derived.StillTailTactics
import Derived.Deep.AppendLies
import Derived.Test.YtkpajakangaekabTyn
namespace Go.Proofs.Ytkpajakangaekab
open Go.RowKit
attribute [-go_sem] loadCells loadCellsFrom

/-- Only the cursor's block, then only what lies above what was there. -/
theorem Grew.then {g : Nat} {w W W' : World} (h : Grew g w W) (k : Below w.heap.size W W') : Grew g w W' :=
  ⟨k.os.trans h.os, k.tape.trans h.tape, k.output.trans h.output, Nat.le_trans h.size k.size, fun i hi hn => (k.block i hi).trans (h.block i hi hn)⟩
theorem Grew.only {g : Nat} {w W W' : World} (h : Grew g w W) (k : Only g W W') : Grew g w W' := h.trans k.grew
theorem Dr.then {W W' : World} {g B : Nat} {v : Value} {n : Nat} (h : Dr W g v n) (hb : Below B W W') (hg : g < B) : Dr W' g v n := h.below hb hg

theorem bel_dr (g : Nat) (v : Value) (n k : Nat) (i : Int) (hi : (k : Int) = i) (w : World) (hd : Dr w g v n) (h0 : 0 < k) (hk : k ≤ 1000000000) :
    Calls Try.prog 45 #[.pointer (some ⟨g, 0, none⟩), .int .i64 i] w fun e w' => ∃ r : Nat, r < k ∧ e = .returned (.int .i64 (r : Int)) ∧ Dr w' g v n ∧ Only g w w' := by
  subst hi
  exact below_dr g v n k w hd h0 hk


theorem pick_any (g : Nat) (v : Value) (n : Nat) (w : World) (hd : Dr w g v n) (b cap k : Nat) (cs : Array Value) (zs : List Int) (hk : zs.length = k) (hcs : (zs.map (Value.int .i64)).toArray = cs) (hc : Cel w b 3 cs) (hb : b ≠ g) (h0 : 0 < k) (hl : k ≤ 1000) :
    Calls Try.prog 58 #[.pointer (some ⟨g, 0, none⟩), .slice (some ⟨b, 0, none⟩) k cap] w fun e w' => ∃ z : Int, e = .returned (.int .i64 z) ∧ Dr w' g v n ∧ Only g w w' := by
  subst hk hcs
  exact (pick_int g v n w hd b cap zs hc hb h0 hl).mono fun _ _ ⟨j, h1, h2, h3⟩ => ⟨_, h1, h2, h3⟩

theorem kindOnly' (K : Int) : ({ Ov.zero with kind := K } : Ov).cells (.slice none 0 0) = #[.int .i64 K, .int .i64 0, .int .i64 0, .int .i64 0, .int .i64 0, .int .i64 0, .int .i64 0, .int .i64 0, .int .i64 0, .int .i64 0, .bool false, .string ⟨#[]⟩, .string ⟨#[]⟩, .slice none 0 0] := by unfold Ov.cells Ov.zero; rfl

theorem heap_of {W : World} {g : Nat} {t : TypeId} {cs : Array Value} (h : Cel W g t cs) : W.heap[g]? = some (.cells cs t (0, 0)) := h

theorem wp_store_row {P : Program} {o : Oper} {a : Act} {w : World} {K : Act → World → Prop} {Q : Exit → Act → World → Prop} (ty : TypeId) (x y : Operand) (ho : o.op = .store ty x y)
    (g : Nat) (hx : a.eval x = .pointer (some ⟨g, 0, none⟩)) (cs : Array Value) (hy : a.eval y = .agg cs) (t : TypeId) (old : Array Value) (hg : w.heap[g]? = some (.cells old t (0, 0)))
    (hi : (P.info? ty).map (·.size) = some cs.size) (hs : old.size = cs.size) (h1 : cs.all (·.oneCell') = true)
    (h : K (a.put o.dst undef) (w.setRow g cs)) : Oper.wp P o a w K Q := by
  unfold Oper.wp execOp
  simp only [ho, hx, hy, Instr.storeAt, Instr.sureAddr, Sem.run_bind, Sem.run_pure, Result.andThen_ok, run_storeVar_row w g t ty old cs hg hi hs h1]
  exact h


theorem irow_form {W : World} {B C : Nat} {v : Value} {zs : List Int} (h : IRow W B C v zs) : ∃ a c, v = .slice a zs.length c := by
  obtain ⟨⟨h1, h2⟩, h3⟩ := h
  rcases h2 with ⟨rfl, hx⟩ | ⟨g, cap, cur, rfl, -⟩
  · exact ⟨none, 0, by rw [hx]⟩
  · exact ⟨_, _, rfl⟩

theorem irow_at {W W' : World} {B C : Nat} {v : Value} {zs : List Int} (h : IRow W B C v zs) (hk : ∀ g, B ≤ g → g < C → W'.heap[g]? = W.heap[g]?) : IRow W' B C v zs := by
  obtain ⟨⟨h1, h2⟩, h3⟩ := h
  refine ⟨⟨h1, ?_⟩, h3⟩
  rcases h2 with h2 | ⟨g', cap, cur, hv, hg, hh, r⟩
  · exact .inl h2
  · exact .inr ⟨g', cap, cur, hv, hg, by rw [hk g' hg (h3 g' (by rw [hv]; rfl))]; exact hh, r⟩

theorem irow_ge {W : World} {B C : Nat} {v : Value} {zs : List Int} (h : IRow W B C v zs) (k : Nat) (hk : v.ownBlock = some k) : B ≤ k := by
  rcases h.1.2 with ⟨rfl, -⟩ | ⟨g', cap, cur, rfl, hg, -⟩
  · simp [Value.ownBlock] at hk
  · simp [Value.ownBlock] at hk
    subst hk
    exact hg

theorem wpList_push_int {ops : Array Oper} {rest : List Oper} {o : Oper} {a : Act} {W : World} {Q : Exit → Act → World → Prop} (hgd : o.guard = none) (s y : Operand)
    (ho : o.op = .call { callee := .builtin .append, args := #[s, y], argTypes := #[24, 24] }) (B : Nat) (v : Value) (zs : List Int) (z : Int) (g' : Nat) (hs : a.eval s = v) (hy : a.eval y = .slice (some ⟨g', 0, none⟩) 1 1)
    (hc : W.cell? ⟨g', 0, none⟩ = some (.int .i64 z)) (hv : IRow W B W.heap.size v zs) (hB : B ≤ W.heap.size) (hl : zs.length ≤ 1000000)
    (h : ∀ v' W', IRow W' B W'.heap.size v' (zs ++ [z]) → W.grownBy W' v.ownBlock → wpList Try.prog ops Q rest (a.put o.dst v') W') : wpList Try.prog ops Q (o :: rest) a W := by
  obtain ⟨i0, hi, hz0, hz1, hz2⟩ := info_parts infoI
  refine wpList_append_lies W hgd s y 24 ho B 3 i0 _ 1 8 Try.underlying24 hi hz0 hz1 hz2 rfl (by omega) v zs.length (zs.map (Value.int .i64)) hs hv.1 ⟨g', 0, none⟩ 1 1 [.int .i64 z] hy rfl ?_ ?_ (by omega) (by unfold maxLen; omega) (by omega) hB _ rfl ?_
  · intro j u hj
    match j, hj with
    | 0, hj => simp at hj; subst hj; simpa [Addr.add] using hc
  · intro u hu
    simp at hu
    subst hu
    rfl
  · intro g2 cap2 w2 hown hgrow hat hlt
    refine h _ w2 ⟨?_, fun k hk => by simp [Value.ownBlock] at hk; omega⟩ hgrow
    rw [List.length_append, List.map_append]
    exact hown

theorem cells_ids (o : Ov) (ids : List Int) (u : Value) : ({ o with ids := ids } : Ov).cells u = o.cells u := by unfold Ov.cells; rfl

/-- The end of a draw: the option laid into the result's block. -/
theorem end_own {W : World} {B g0 : Nat} {u : Value} {ids : List Int} (hI : IRow W B W.heap.size u ids) (hB : g0 < B) (cs : Array Value) : IRow (W.setRow g0 cs) B (W.setRow g0 cs).heap.size u ids := by
  have e : (W.setRow g0 cs).heap.size = W.heap.size := by simp [World.setRow]
  rw [e]
  exact irow_at hI fun k hk _ => by
    show ((World.heap _).modify _ _)[k]? = _
    rw [Array.getElem?_modify, if_neg (by omega)]

theorem wide_in' (k : Int) (j : Nat) (hj : j < shN k) : 1 ≤ wideOf (widOf (shapeOf k) j) ∧ wideOf (widOf (shapeOf k) j) ≤ 20 := by
  have h4 := (shape_even k).2
  by_cases h : 1 ≤ k ∧ k ≤ 10
  · rcases kind_ten k h with rfl | rfl | rfl | rfl | rfl | rfl | rfl | rfl | rfl | rfl
    all_goals
      have hc : j = 0 ∨ j = 1 ∨ j = 2 ∨ j = 3 := by omega
      rcases hc with rfl | rfl | rfl | rfl
      all_goals first | (revert hj; decide +kernel) | (decide +kernel)
  · rw [shN_out k h] at hj
    omega

set_option maxRecDepth 100000 in
set_option maxHeartbeats 8000000 in
set_option linter.unusedSimpArgs false in
theorem opt_dr (g : Nat) (v : Value) (n : Nat) (w : World) (hd : Dr w g v n) :
    Calls Try.prog 57 #[.pointer (some ⟨g, 0, none⟩)] w fun e w' => ∃ (o : Ov) (u : Value), e = .returned (.agg (o.cells u)) ∧ IRow w' w.heap.size w'.heap.size u o.ids ∧ o.ids.length ≤ 10 ∧ Dr w' g v n ∧ Grew g w w' := by
  have hg := hd.blk
  have hb0 := below_new w (.cells #[.int .i64 0, .int .i64 0, .int .i64 0, .int .i64 0, .int .i64 0, .int .i64 0, .int .i64 0, .int .i64 0, .int .i64 0, .int .i64 0, .bool false, .string ⟨#[]⟩, .string ⟨#[]⟩, .slice none 0 0] 26)
  have hd0 := hd.kept hb0
  have hZ0 := Cel.new w 26 #[.int .i64 0, .int .i64 0, .int .i64 0, .int .i64 0, .int .i64 0, .int .i64 0, .int .i64 0, .int .i64 0, .int .i64 0, .int .i64 0, .bool false, .string ⟨#[]⟩, .string ⟨#[]⟩, .slice none 0 0]
  have cb10 := fun W h => bel_dr g v n 10 10 rfl W h (by omega) (by omega)
  have cb200 := fun W h => bel_dr g v n 200 200 rfl W h (by omega) (by omega)
  have cb2 := fun W h => bel_dr g v n 2 2 rfl W h (by omega) (by omega)
  have cb3 := fun W h => bel_dr g v n 3 3 rfl W h (by omega) (by omega)
  have cb5 := fun W h => bel_dr g v n 5 5 rfl W h (by omega) (by omega)
  have HE := Lib.hid (And.intro hZ0 (Grew.then (Grew.refl g w) hb0))
  clear hb0 hZ0 hd
  go_enter Try.func57, Try.ntmps57
  go_wp2_with (fail)
  with_reducible refine (cb10 _ hd0).mono ?_
  rintro e w1 ⟨r1, hr1, rfl, d1, o1⟩
  have e1 : IntKind.i64.wrap (1 + (r1 : Int)) = 1 + (r1 : Int) := IntWalk.i64_in _ (by omega)
  have hh : w1.heap.size = w.heap.size + 1 := by rw [o1.size]; simp
  have hb2 := below_new w1 (.cells #[.int .i64 (1 + (r1 : Int)), .int .i64 0, .int .i64 0, .int .i64 0, .int .i64 0, .int .i64 0, .int .i64 0, .int .i64 0, .int .i64 0, .int .i64 0, .bool false, .string ⟨#[]⟩, .string ⟨#[]⟩, .slice none 0 0] 26)
  have hc2 := Cel.new w1 26 #[.int .i64 (1 + (r1 : Int)), .int .i64 0, .int .i64 0, .int .i64 0, .int .i64 0, .int .i64 0, .int .i64 0, .int .i64 0, .int .i64 0, .int .i64 0, .bool false, .string ⟨#[]⟩, .string ⟨#[]⟩, .slice none 0 0]
  have H2 := Lib.hid (And.intro ((HE.out.1.only o1 (by omega)).kept hb2) (And.intro (d1.kept hb2) ((HE.out.2.only o1).then (hb2.mono (by omega)))))
  have csh := fun W => spec_shape (1 + (r1 : Int)) (by omega) (by omega) W
  have Hh := Lib.hid hh
  clear HE o1 hd0 d1 hb2 hh cb10
  go_wp2_with (fail)
  generalize w1.alloc (.cells #[.int .i64 (1 + (r1 : Int)), .int .i64 0, .int .i64 0, .int .i64 0, .int .i64 0, .int .i64 0, .int .i64 0, .int .i64 0, .int .i64 0, .int .i64 0, .bool false, .string ⟨#[]⟩, .string ⟨#[]⟩, .slice none 0 0] 26) = W2 at *
  rw [← kindOnly'] at hc2
  with_reducible refine (csh _).mono ?_
  rintro e w3 ⟨rfl, hb3⟩
  have hh := Hh.out
  have hC3 := hc2.kept hb3
  have hz2 := H2.out.2.2.size
  have H3 := Lib.hid (And.intro hC3 (And.intro (H2.out.1.kept hb3) (And.intro (H2.out.2.1.kept hb3) (H2.out.2.2.then (hb3.mono hz2)))))
  generalize hK : 1 + (r1 : Int) = K at *
  obtain ⟨he, h4⟩ := shape_even K
  have hWn := wide_in' K
  have hLt := let_ok K
  generalize hsh : shapeOf K = sh at *
  generalize hnn : shN K = n4 at *
  have HW := Lib.hid (And.intro hWn hLt)
  have H4 := Lib.hid (And.intro h4 he)
  generalize hhh : w1.heap.size = h at *
  have Hg := Lib.hid (show w.heap.size < h by omega)
  clear csh hc2 hC3 hb3 H2 hz2 he h4 hWn hLt hsh hnn hK hhh hh Hh
  go_wp2_with (fail)
  go_loopw [5] (fun i wr => ∃ j x : Nat, x = 2 * j ∧ j ≤ n4 ∧ i = .int .i64 x ∧ (∃ o : Ov, o.ids = [] ∧ Cel wr h 26 (o.cells (.slice none 0 0))) ∧ Cel wr w.heap.size 26 #[.int .i64 0, .int .i64 0, .int .i64 0, .int .i64 0, .int .i64 0, .int .i64 0, .int .i64 0, .int .i64 0, .int .i64 0, .int .i64 0, .bool false, .string ⟨#[]⟩, .string ⟨#[]⟩, .slice none 0 0] ∧ Dr wr g v n ∧ Grew g w wr) (fun i _ => 8 - (intOf i).toNat)
  case atStart => exact ⟨0, 0, rfl, by omega, rfl, ⟨_, rfl, H3.out.1⟩, H3.out.2.1, H3.out.2.2.1, H3.out.2.2.2⟩
  case round =>
    clear H3
    obtain ⟨j, x, hx, hj, rfl, ⟨o, ho, hC⟩, hZ, hD, hG⟩ := hrel
    obtain ⟨hWn, hLt⟩ := HW.out
    obtain ⟨h4, he⟩ := H4.out
    have hgh := Hg.out
    have qb : (x : Int) ≤ 8 := by omega
    by_cases hlt : j < n4
    · have q0 : (x : Int) + 1 < (sh.size : Int) := by omega
      have q1 : x < sh.size := by omega
      have q2 : x + 1 < sh.size := by omega
      have q3 : (0 : Int) ≤ (x : Int) ∧ (x : Int) < (sh.size : Int) := by omega
      have e2 : ((x : Int) + 1).toNat = x + 1 := by omega
      have hlet : letOf sh j = ((sh[x]'q1).toNat : Int) := by unfold letOf; rw [getElem!_pos sh (2 * j) (by omega)]; simp [hx]
      have hwid : widOf sh j = ((sh[x + 1]'q2).toNat : Int) := by unfold widOf; rw [getElem!_pos sh (2 * j + 1) (by omega)]; simp [hx]
      have hw255 : ((sh[x + 1]'q2).toNat : Int) ≤ 255 := by have := (sh[x + 1]'q2).toNat_lt; omega
      have hw := hWn j hlt
      have hl := hLt j hlt
      have cw := fun W => spec_wide ((sh[x + 1]'q2).toNat : Int) (by omega) hw255 W
      rw [hlet] at hl
      rw [hwid] at hw
      have HX := Lib.hid hx
      clear hlet hwid hx hWn hLt he
      generalize wideOf ((sh[x + 1]'q2).toNat : Int) = wd at *
      obtain ⟨wdn, rfl⟩ : ∃ k : Nat, wd = (k : Int) := ⟨wd.toNat, by omega⟩
      have H5 := Lib.hid (And.intro hC (And.intro hZ hG))
      clear hC hZ hG
      go_wp2_with (fail)
      with_reducible refine (cw _).mono ?_
      rintro e w4 ⟨rfl, rfl⟩
      clear cw
      go_wp2_with (fail)
      with_reducible refine (cb200 _ hD).mono ?_
      rintro e w5 ⟨nn, -, rfl, d5, o5⟩
      have H6 := Lib.hid (And.intro (H5.out.1.only o5 (by omega)) (And.intro (H5.out.2.1.only o5 (by omega)) (H5.out.2.2.only o5)))
      clear H5 o5 hD
      by_cases hf : ((sh[x]'q1).toNat : Int) = 102
      · rw [hf] at hl
        go_wp2_with (fail)
        with_reducible refine (cb2 _ d5).mono ?_
        rintro e W9 ⟨nn, -, rfl, d9, o9⟩
        have H9 := Lib.hid (And.intro (H6.out.1.only o9 (by omega)) (And.intro (H6.out.2.1.only o9 (by omega)) (H6.out.2.2.only o9)))
        clear H6 o9 d5
        go_wp2_with (fail)
        have dc : Dr W9.drew g v n := d9.kept (Below.refl _ _).drew
        have HC := Lib.hid (show Cel W9.drew h 26 (o.cells (.slice none 0 0)) ∧ Cel W9.drew w.heap.size 26 #[.int .i64 0, .int .i64 0, .int .i64 0, .int .i64 0, .int .i64 0, .int .i64 0, .int .i64 0, .int .i64 0, .int .i64 0, .int .i64 0, .bool false, .string ⟨#[]⟩, .string ⟨#[]⟩, .slice none 0 0] ∧ Grew g w W9.drew from ⟨H9.out.1, H9.out.2.1, H9.out.2.2.then (Below.refl _ _).drew⟩)
        clear d9 H9
        refine wp_region_held_drew (S := fun _ => True) (by kernel_rfl) trivial (fun hHeld => ?_)
        refine take_yes (i := 1) (oi := { dst := some 38, op := Op.move (Operand.tmp 4), type := 9, pos := "l06_options.go:219", after := #[], guard := none }) (v := .string sh) rfl (by kernel_rfl) (by kernel_rfl) (by kernel_rfl) (fun _ _ _ h => h) (by rfl) (fun w hSw => by (try dsimp only at hSw); go_simp) (by assumption) ?_
        try simp only [Act.put, List.setIfInBounds_toArray, List.set_cons_zero, List.set_cons_succ]
        refine take_yes (i := 2) (oi := { dst := some 39, op := Op.move (Operand.tmp 5), type := 3, pos := "l06_options.go:219", after := #[], guard := none }) (v := .int .i64 (x : Int)) rfl (by kernel_rfl) (by kernel_rfl) (by kernel_rfl) (fun _ _ _ h => h) (by rfl) (fun w hSw => by (try dsimp only at hSw); go_simp) (by assumption) ?_
        try simp only [Act.put, List.setIfInBounds_toArray, List.set_cons_zero, List.set_cons_succ]
        refine take_yes (i := 3) (oi := { dst := some 40, op := Op.index 9 (Operand.tmp 38) (Operand.tmp 39), type := 5, pos := "l06_options.go:219", after := #[{ on := 1, ground := Ground.data }, { on := 2, ground := Ground.data }], guard := none }) (v := .int .u8 102) rfl (by kernel_rfl) (by kernel_rfl) (by kernel_rfl) (fun _ _ _ h => h) (by rfl) (fun w hSw => by (try dsimp only at hSw); go_simp) (by assumption) ?_
        try simp only [Act.put, List.setIfInBounds_toArray, List.set_cons_zero, List.set_cons_succ]
        refine take_yes (i := 4) (oi := { dst := some 41, op := Op.move (Operand.tmp 7), type := 3, pos := "l06_options.go:219", after := #[], guard := none }) (v := .int .i64 (nn : Int)) rfl (by kernel_rfl) (by kernel_rfl) (by kernel_rfl) (fun _ _ _ h => h) (by rfl) (fun w hSw => by (try dsimp only at hSw); go_simp) (by assumption) ?_
        try simp only [Act.put, List.setIfInBounds_toArray, List.set_cons_zero, List.set_cons_succ]
        refine take_yes (i := 5) (oi := { dst := some 42, op := Op.move (Operand.tmp 6), type := 3, pos := "l06_options.go:219", after := #[], guard := none }) (v := .int .i64 (wdn : Int)) rfl (by kernel_rfl) (by kernel_rfl) (by kernel_rfl) (fun _ _ _ h => h) (by rfl) (fun w hSw => by (try dsimp only at hSw); go_simp) (by assumption) ?_
        try simp only [Act.put, List.setIfInBounds_toArray, List.set_cons_zero, List.set_cons_succ]
        refine take_yes (i := 6) (oi := { dst := some 43, op := Op.move (Operand.tmp 0), type := 51, pos := "l06_options.go:219", after := #[], guard := none }) (v := .pointer (some ⟨g, 0, none⟩)) rfl (by kernel_rfl) (by kernel_rfl) (by kernel_rfl) (fun _ _ _ h => h) (by rfl) (fun w hSw => by (try dsimp only at hSw); go_simp) (by assumption) ?_
        try simp only [Act.put, List.setIfInBounds_toArray, List.set_cons_zero, List.set_cons_succ]
        refine wpAnyH_ready (rs := [0, 7]) (by kernel_rfl) (by simp) ?_
        refine AllReadyH.cons (o := { dst := some 37, op := Op.load 26 (Operand.tmp 3), type := 26, pos := "l06_options.go:219", after := #[], guard := none }) rfl (fun K hK => ?_) ?_
        · refine wp_load_row 26 _ rfl h rfl 26 _ (0, 0) _ (heap_of HC.out.1) Try.underlying26 rfl (sizeOpt' _ _) ?_
          refine hK.out _ _ trivial (fun hHeld => ?_)
          clear hK K
          try simp only [Act.put, List.setIfInBounds_toArray, List.set_cons_zero, List.set_cons_succ]
          refine wpAnyH_ready (rs := [7]) (by kernel_rfl) (by simp) ?_
          refine AllReadyH.cons (o := { dst := some 44, op := Op.call { callee := Callee.value (Operand.func 69), args := #[Operand.tmp 43], argTypes := #[51] }, type := 3, pos := "l06_options.go:219", after := #[{ on := 6, ground := Ground.data }], guard := none }) rfl (fun K hK => ?_) AllReadyH.nil
          go_simp
          with_reducible refine (byte_dr g v n _ dc).mono ?_
          rintro e X1 ⟨rb, hrb, rfl, d11, o11⟩
          have eb : IntKind.u8.wrap (rb : Int) = (rb : Int) := IntWalk.u8_in _ (by omega)
          have HC1 := Lib.hid (And.intro (HC.out.1.only o11 (by omega)) (And.intro (HC.out.2.1.only o11 (by omega)) (HC.out.2.2.only o11)))
          clear dc HC o11
          refine hK.out _ _ trivial (fun hHeld => ?_)
          clear hK K
          try simp only [Act.put, List.setIfInBounds_toArray, List.set_cons_zero, List.set_cons_succ]
          have dc := d11
          have HC := HC1
          clear d11 HC1
          refine take_yes (i := 8) (oi := { dst := some 45, op := Op.convert 3 5 (Operand.tmp 44), type := 5, pos := "l06_options.go:219", after := #[{ on := 7, ground := Ground.data }], guard := none }) (v := .int .u8 (rb : Int)) rfl (by kernel_rfl) (by kernel_rfl) (by kernel_rfl) (fun _ _ _ h => h) (by rfl) (fun w hSw => by (try dsimp only at hSw); go_simp) (by assumption) ?_
          try simp only [Act.put, List.setIfInBounds_toArray, List.set_cons_zero, List.set_cons_succ]
          refine wpAnyH_ready (rs := [9]) (by kernel_rfl) (by simp) ?_
          refine AllReadyH.cons (o := { dst := some 46, op := Op.call { callee := Callee.value (Operand.func 68), args := #[Operand.tmp 42, Operand.tmp 45], argTypes := #[3, 5] }, type := 9, pos := "l06_options.go:219", after := #[{ on := 5, ground := Ground.data }, { on := 8, ground := Ground.data }, { on := 7, ground := Ground.chain }], guard := none }) rfl (fun K hK => ?_) AllReadyH.nil
          go_simp
          with_reducible refine (long_dr wdn rb hrb _ rfl _ (by omega)).mono ?_
          rintro e X2 ⟨⟨tx, rfl⟩, hb12⟩
          have d12 := dc.kept hb12
          have HC2 := Lib.hid (And.intro (HC.out.1.kept hb12) (And.intro (HC.out.2.1.kept hb12) (HC.out.2.2.then (hb12.mono HC.out.2.2.size))))
          clear dc HC hb12
          refine hK.out _ _ trivial (fun hHeld => ?_)
          clear hK K
          try simp only [Act.put, List.setIfInBounds_toArray, List.set_cons_zero, List.set_cons_succ]
          have dc := d12
          have HC := HC2
          clear d12 HC2
          refine wpAnyH_ready (rs := [10]) (by kernel_rfl) (by simp) ?_
          refine AllReadyH.cons (o := { dst := some 47, op := Op.call { callee := Callee.value (Operand.func 73), args := #[Operand.tmp 37, Operand.tmp 40, Operand.tmp 41, Operand.tmp 46], argTypes := #[26, 5, 3, 9] }, type := 26, pos := "l06_options.go:219", after := #[{ on := 0, ground := Ground.data }, { on := 3, ground := Ground.data }, { on := 4, ground := Ground.data }, { on := 9, ground := Ground.data }, { on := 9, ground := Ground.chain }], guard := none }) rfl (fun K hK => ?_) AllReadyH.nil
          go_simp
          with_reducible refine (spec_put o none 0 0 102 (nn : Int) tx _ hl).mono ?_
          rintro e w7 ⟨rfl, hb7⟩
          have hids := putL_ids o 102 (nn : Int) tx
          rw [ho] at hids
          generalize putL o 102 (nn : Int) tx = C1 at *
          have d7 := dc.kept hb7
          have HC7 := Lib.hid (And.intro hids (And.intro (HC.out.1.kept hb7) (And.intro (HC.out.2.1.kept hb7) (HC.out.2.2.then (hb7.mono HC.out.2.2.size)))))
          clear dc HC hb7 hids
          refine hK.out _ _ trivial (fun hHeld => ?_)
          clear hK K
          try simp only [Act.put, List.setIfInBounds_toArray, List.set_cons_zero, List.set_cons_succ]
          refine wpAnyH_ready (rs := [11]) (by kernel_rfl) (by simp) ?_
          refine AllReadyH.cons (o := { dst := none, op := Op.store 26 (Operand.tmp 3) (Operand.tmp 47), type := 0, pos := "l06_options.go:219", after := #[{ on := 10, ground := Ground.data }, { on := 10, ground := Ground.chain }, { on := 0, ground := Ground.phase }, { on := 1, ground := Ground.phase }, { on := 2, ground := Ground.phase }, { on := 3, ground := Ground.phase }, { on := 4, ground := Ground.phase }, { on := 5, ground := Ground.phase }, { on := 6, ground := Ground.phase }, { on := 7, ground := Ground.phase }, { on := 8, ground := Ground.phase }, { on := 9, ground := Ground.phase }, { on := 10, ground := Ground.phase }], guard := none }) rfl (fun K hK => ?_) AllReadyH.nil
          have hcz : w7.heap[h]? = some (.cells (o.cells (.slice none 0 0)) 26 (0, 0)) := HC7.out.2.1
          have one := C1.cells_one none 0 0
          have hss : (o.cells (.slice none 0 0)).size = (C1.cells (.slice none 0 0)).size := by rw [Ov.cells_size, Ov.cells_size]
          have hC6 := HC7.out.2.1.row (C1.cells (.slice none 0 0))
          have hZ6 : Cel (w7.setRow h (C1.cells (.slice none 0 0))) w.heap.size 26 #[.int .i64 0, .int .i64 0, .int .i64 0, .int .i64 0, .int .i64 0, .int .i64 0, .int .i64 0, .int .i64 0, .int .i64 0, .int .i64 0, .bool false, .string ⟨#[]⟩, .string ⟨#[]⟩, .slice none 0 0] := by
            show (w7.heap.modify _ _)[w.heap.size]? = _
            rw [Array.getElem?_modify, if_neg (by omega)]
            exact HC7.out.2.2.1
          have hBw : Below w.heap.size w7 (w7.setRow h (C1.cells (.slice none 0 0))) := below_setRow (g := h) (Below.refl _ _) (by omega) (C1.cells (.slice none 0 0))
          have HR := Lib.hid (And.intro HC7.out.1 (And.intro hC6 (And.intro hZ6 (And.intro (d7.then hBw hg) (HC7.out.2.2.2.then hBw)))))
          clear hC6 hZ6 hBw d7 HC7
          refine wp_store_row 26 _ _ rfl h rfl _ rfl 26 _ hcz (sizeOpt' _ _) hss one ?_
          refine hK.out _ _ trivial (fun hHeld => ?_)
          clear hK K
          try simp only [Act.put, List.setIfInBounds_toArray, List.set_cons_zero, List.set_cons_succ]
          refine wpAnyH_done (by kernel_rfl) ?_ _
          clear hcz one hss
          generalize w7.setRow h (C1.cells (.slice none 0 0)) = W8 at *
          go_wp2_with (fail)
          go_roundw
          case rel =>
            exact ⟨j + 1, x + 2, by have := HX.out; omega, by omega, by go_num, ⟨C1, HR.out.1, HR.out.2.1⟩, HR.out.2.2.1, HR.out.2.2.2.1, HR.out.2.2.2.2⟩
          case measure => have := HX.out; simp [intOf]; omega
        · refine AllReadyH.cons (o := { dst := some 44, op := Op.call { callee := Callee.value (Operand.func 69), args := #[Operand.tmp 43], argTypes := #[51] }, type := 3, pos := "l06_options.go:219", after := #[{ on := 6, ground := Ground.data }], guard := none }) rfl (fun K hK => ?_) AllReadyH.nil
          go_simp
          with_reducible refine (byte_dr g v n _ dc).mono ?_
          rintro e X1 ⟨rb, hrb, rfl, d11, o11⟩
          have eb : IntKind.u8.wrap (rb : Int) = (rb : Int) := IntWalk.u8_in _ (by omega)
          have HC1 := Lib.hid (And.intro (HC.out.1.only o11 (by omega)) (And.intro (HC.out.2.1.only o11 (by omega)) (HC.out.2.2.only o11)))
          clear dc HC o11
          refine hK.out _ _ trivial (fun hHeld => ?_)
          clear hK K
          try simp only [Act.put, List.setIfInBounds_toArray, List.set_cons_zero, List.set_cons_succ]
          have dc := d11
          have HC := HC1
          clear d11 HC1
          refine take_yes (i := 8) (oi := { dst := some 45, op := Op.convert 3 5 (Operand.tmp 44), type := 5, pos := "l06_options.go:219", after := #[{ on := 7, ground := Ground.data }], guard := none }) (v := .int .u8 (rb : Int)) rfl (by kernel_rfl) (by kernel_rfl) (by kernel_rfl) (fun _ _ _ h => h) (by rfl) (fun w hSw => by (try dsimp only at hSw); go_simp) (by assumption) ?_
          try simp only [Act.put, List.setIfInBounds_toArray, List.set_cons_zero, List.set_cons_succ]
          refine wpAnyH_ready (rs := [0, 9]) (by kernel_rfl) (by simp) ?_
          refine AllReadyH.cons (o := { dst := some 37, op := Op.load 26 (Operand.tmp 3), type := 26, pos := "l06_options.go:219", after := #[], guard := none }) rfl (fun K hK => ?_) ?_
          · refine wp_load_row 26 _ rfl h rfl 26 _ (0, 0) _ (heap_of HC.out.1) Try.underlying26 rfl (sizeOpt' _ _) ?_
            refine hK.out _ _ trivial (fun hHeld => ?_)
            clear hK K
            try simp only [Act.put, List.setIfInBounds_toArray, List.set_cons_zero, List.set_cons_succ]
            refine wpAnyH_ready (rs := [9]) (by kernel_rfl) (by simp) ?_
            refine AllReadyH.cons (o := { dst := some 46, op := Op.call { callee := Callee.value (Operand.func 68), args := #[Operand.tmp 42, Operand.tmp 45], argTypes := #[3, 5] }, type := 9, pos := "l06_options.go:219", after := #[{ on := 5, ground := Ground.data }, { on := 8, ground := Ground.data }, { on := 7, ground := Ground.chain }], guard := none }) rfl (fun K hK => ?_) AllReadyH.nil
            go_simp
            with_reducible refine (long_dr wdn rb hrb _ rfl _ (by omega)).mono ?_
            rintro e X2 ⟨⟨tx, rfl⟩, hb12⟩
            have d12 := dc.kept hb12
            have HC2 := Lib.hid (And.intro (HC.out.1.kept hb12) (And.intro (HC.out.2.1.kept hb12) (HC.out.2.2.then (hb12.mono HC.out.2.2.size))))
            clear dc HC hb12
            refine hK.out _ _ trivial (fun hHeld => ?_)
            clear hK K
            try simp only [Act.put, List.setIfInBounds_toArray, List.set_cons_zero, List.set_cons_succ]
            have dc := d12
            have HC := HC2
            clear d12 HC2
            refine wpAnyH_ready (rs := [10]) (by kernel_rfl) (by simp) ?_
            refine AllReadyH.cons (o := { dst := some 47, op := Op.call { callee := Callee.value (Operand.func 73), args := #[Operand.tmp 37, Operand.tmp 40, Operand.tmp 41, Operand.tmp 46], argTypes := #[26, 5, 3, 9] }, type := 26, pos := "l06_options.go:219", after := #[{ on := 0, ground := Ground.data }, { on := 3, ground := Ground.data }, { on := 4, ground := Ground.data }, { on := 9, ground := Ground.data }, { on := 9, ground := Ground.chain }], guard := none }) rfl (fun K hK => ?_) AllReadyH.nil
            go_simp
            with_reducible refine (spec_put o none 0 0 102 (nn : Int) tx _ hl).mono ?_
            rintro e w7 ⟨rfl, hb7⟩
            have hids := putL_ids o 102 (nn : Int) tx
            rw [ho] at hids
            generalize putL o 102 (nn : Int) tx = C1 at *
            have d7 := dc.kept hb7
            have HC7 := Lib.hid (And.intro hids (And.intro (HC.out.1.kept hb7) (And.intro (HC.out.2.1.kept hb7) (HC.out.2.2.then (hb7.mono HC.out.2.2.size)))))
            clear dc HC hb7 hids
            refine hK.out _ _ trivial (fun hHeld => ?_)
            clear hK K
            try simp only [Act.put, List.setIfInBounds_toArray, List.set_cons_zero, List.set_cons_succ]
            refine wpAnyH_ready (rs := [11]) (by kernel_rfl) (by simp) ?_
            refine AllReadyH.cons (o := { dst := none, op := Op.store 26 (Operand.tmp 3) (Operand.tmp 47), type := 0, pos := "l06_options.go:219", after := #[{ on := 10, ground := Ground.data }, { on := 10, ground := Ground.chain }, { on := 0, ground := Ground.phase }, { on := 1, ground := Ground.phase }, { on := 2, ground := Ground.phase }, { on := 3, ground := Ground.phase }, { on := 4, ground := Ground.phase }, { on := 5, ground := Ground.phase }, { on := 6, ground := Ground.phase }, { on := 7, ground := Ground.phase }, { on := 8, ground := Ground.phase }, { on := 9, ground := Ground.phase }, { on := 10, ground := Ground.phase }], guard := none }) rfl (fun K hK => ?_) AllReadyH.nil
            have hcz : w7.heap[h]? = some (.cells (o.cells (.slice none 0 0)) 26 (0, 0)) := HC7.out.2.1
            have one := C1.cells_one none 0 0
            have hss : (o.cells (.slice none 0 0)).size = (C1.cells (.slice none 0 0)).size := by rw [Ov.cells_size, Ov.cells_size]
            have hC6 := HC7.out.2.1.row (C1.cells (.slice none 0 0))
            have hZ6 : Cel (w7.setRow h (C1.cells (.slice none 0 0))) w.heap.size 26 #[.int .i64 0, .int .i64 0, .int .i64 0, .int .i64 0, .int .i64 0, .int .i64 0, .int .i64 0, .int .i64 0, .int .i64 0, .int .i64 0, .bool false, .string ⟨#[]⟩, .string ⟨#[]⟩, .slice none 0 0] := by
              show (w7.heap.modify _ _)[w.heap.size]? = _
              rw [Array.getElem?_modify, if_neg (by omega)]
              exact HC7.out.2.2.1
            have hBw : Below w.heap.size w7 (w7.setRow h (C1.cells (.slice none 0 0))) := below_setRow (g := h) (Below.refl _ _) (by omega) (C1.cells (.slice none 0 0))
            have HR := Lib.hid (And.intro HC7.out.1 (And.intro hC6 (And.intro hZ6 (And.intro (d7.then hBw hg) (HC7.out.2.2.2.then hBw)))))
            clear hC6 hZ6 hBw d7 HC7
            refine wp_store_row 26 _ _ rfl h rfl _ rfl 26 _ hcz (sizeOpt' _ _) hss one ?_
            refine hK.out _ _ trivial (fun hHeld => ?_)
            clear hK K
            try simp only [Act.put, List.setIfInBounds_toArray, List.set_cons_zero, List.set_cons_succ]
            refine wpAnyH_done (by kernel_rfl) ?_ _
            clear hcz one hss
            generalize w7.setRow h (C1.cells (.slice none 0 0)) = W8 at *
            go_wp2_with (fail)
            go_roundw
            case rel =>
              exact ⟨j + 1, x + 2, by have := HX.out; omega, by omega, by go_num, ⟨C1, HR.out.1, HR.out.2.1⟩, HR.out.2.2.1, HR.out.2.2.2.1, HR.out.2.2.2.2⟩
            case measure => have := HX.out; simp [intOf]; omega
          · refine AllReadyH.cons (o := { dst := some 46, op := Op.call { callee := Callee.value (Operand.func 68), args := #[Operand.tmp 42, Operand.tmp 45], argTypes := #[3, 5] }, type := 9, pos := "l06_options.go:219", after := #[{ on := 5, ground := Ground.data }, { on := 8, ground := Ground.data }, { on := 7, ground := Ground.chain }], guard := none }) rfl (fun K hK => ?_) AllReadyH.nil
            go_simp
            with_reducible refine (long_dr wdn rb hrb _ rfl _ (by omega)).mono ?_
            rintro e X2 ⟨⟨tx, rfl⟩, hb12⟩
            have d12 := dc.kept hb12
            have HC2 := Lib.hid (And.intro (HC.out.1.kept hb12) (And.intro (HC.out.2.1.kept hb12) (HC.out.2.2.then (hb12.mono HC.out.2.2.size))))
            clear dc HC hb12
            refine hK.out _ _ trivial (fun hHeld => ?_)
            clear hK K
            try simp only [Act.put, List.setIfInBounds_toArray, List.set_cons_zero, List.set_cons_succ]
            have dc := d12
            have HC := HC2
            clear d12 HC2
            refine wpAnyH_ready (rs := [0]) (by kernel_rfl) (by simp) ?_
            refine AllReadyH.cons (o := { dst := some 37, op := Op.load 26 (Operand.tmp 3), type := 26, pos := "l06_options.go:219", after := #[], guard := none }) rfl (fun K hK => ?_) AllReadyH.nil
            refine wp_load_row 26 _ rfl h rfl 26 _ (0, 0) _ (heap_of HC.out.1) Try.underlying26 rfl (sizeOpt' _ _) ?_
            refine hK.out _ _ trivial (fun hHeld => ?_)
            clear hK K
            try simp only [Act.put, List.setIfInBounds_toArray, List.set_cons_zero, List.set_cons_succ]
            refine wpAnyH_ready (rs := [10]) (by kernel_rfl) (by simp) ?_
            refine AllReadyH.cons (o := { dst := some 47, op := Op.call { callee := Callee.value (Operand.func 73), args := #[Operand.tmp 37, Operand.tmp 40, Operand.tmp 41, Operand.tmp 46], argTypes := #[26, 5, 3, 9] }, type := 26, pos := "l06_options.go:219", after := #[{ on := 0, ground := Ground.data }, { on := 3, ground := Ground.data }, { on := 4, ground := Ground.data }, { on := 9, ground := Ground.data }, { on := 9, ground := Ground.chain }], guard := none }) rfl (fun K hK => ?_) AllReadyH.nil
            go_simp
            with_reducible refine (spec_put o none 0 0 102 (nn : Int) tx _ hl).mono ?_
            rintro e w7 ⟨rfl, hb7⟩
            have hids := putL_ids o 102 (nn : Int) tx
            rw [ho] at hids
            generalize putL o 102 (nn : Int) tx = C1 at *
            have d7 := dc.kept hb7
            have HC7 := Lib.hid (And.intro hids (And.intro (HC.out.1.kept hb7) (And.intro (HC.out.2.1.kept hb7) (HC.out.2.2.then (hb7.mono HC.out.2.2.size)))))
            clear dc HC hb7 hids
            refine hK.out _ _ trivial (fun hHeld => ?_)
            clear hK K
            try simp only [Act.put, List.setIfInBounds_toArray, List.set_cons_zero, List.set_cons_succ]
            refine wpAnyH_ready (rs := [11]) (by kernel_rfl) (by simp) ?_
            refine AllReadyH.cons (o := { dst := none, op := Op.store 26 (Operand.tmp 3) (Operand.tmp 47), type := 0, pos := "l06_options.go:219", after := #[{ on := 10, ground := Ground.data }, { on := 10, ground := Ground.chain }, { on := 0, ground := Ground.phase }, { on := 1, ground := Ground.phase }, { on := 2, ground := Ground.phase }, { on := 3, ground := Ground.phase }, { on := 4, ground := Ground.phase }, { on := 5, ground := Ground.phase }, { on := 6, ground := Ground.phase }, { on := 7, ground := Ground.phase }, { on := 8, ground := Ground.phase }, { on := 9, ground := Ground.phase }, { on := 10, ground := Ground.phase }], guard := none }) rfl (fun K hK => ?_) AllReadyH.nil
            have hcz : w7.heap[h]? = some (.cells (o.cells (.slice none 0 0)) 26 (0, 0)) := HC7.out.2.1
            have one := C1.cells_one none 0 0
            have hss : (o.cells (.slice none 0 0)).size = (C1.cells (.slice none 0 0)).size := by rw [Ov.cells_size, Ov.cells_size]
            have hC6 := HC7.out.2.1.row (C1.cells (.slice none 0 0))
            have hZ6 : Cel (w7.setRow h (C1.cells (.slice none 0 0))) w.heap.size 26 #[.int .i64 0, .int .i64 0, .int .i64 0, .int .i64 0, .int .i64 0, .int .i64 0, .int .i64 0, .int .i64 0, .int .i64 0, .int .i64 0, .bool false, .string ⟨#[]⟩, .string ⟨#[]⟩, .slice none 0 0] := by
              show (w7.heap.modify _ _)[w.heap.size]? = _
              rw [Array.getElem?_modify, if_neg (by omega)]
              exact HC7.out.2.2.1
            have hBw : Below w.heap.size w7 (w7.setRow h (C1.cells (.slice none 0 0))) := below_setRow (g := h) (Below.refl _ _) (by omega) (C1.cells (.slice none 0 0))
            have HR := Lib.hid (And.intro HC7.out.1 (And.intro hC6 (And.intro hZ6 (And.intro (d7.then hBw hg) (HC7.out.2.2.2.then hBw)))))
            clear hC6 hZ6 hBw d7 HC7
            refine wp_store_row 26 _ _ rfl h rfl _ rfl 26 _ hcz (sizeOpt' _ _) hss one ?_
            refine hK.out _ _ trivial (fun hHeld => ?_)
            clear hK K
            try simp only [Act.put, List.setIfInBounds_toArray, List.set_cons_zero, List.set_cons_succ]
            refine wpAnyH_done (by kernel_rfl) ?_ _
            clear hcz one hss
            generalize w7.setRow h (C1.cells (.slice none 0 0)) = W8 at *
            go_wp2_with (fail)
            go_roundw
            case rel =>
              exact ⟨j + 1, x + 2, by have := HX.out; omega, by omega, by go_num, ⟨C1, HR.out.1, HR.out.2.1⟩, HR.out.2.2.1, HR.out.2.2.2.1, HR.out.2.2.2.2⟩
            case measure => have := HX.out; simp [intOf]; omega
      · have d9 := d5
        have H9 := H6
        clear d5 H6
        go_wp2_with (fail)
        generalize w5 = W9 at *
        have dc : Dr W9.drew g v n := d9.kept (Below.refl _ _).drew
        have HC := Lib.hid (show Cel W9.drew h 26 (o.cells (.slice none 0 0)) ∧ Cel W9.drew w.heap.size 26 #[.int .i64 0, .int .i64 0, .int .i64 0, .int .i64 0, .int .i64 0, .int .i64 0, .int .i64 0, .int .i64 0, .int .i64 0, .int .i64 0, .bool false, .string ⟨#[]⟩, .string ⟨#[]⟩, .slice none 0 0] ∧ Grew g w W9.drew from ⟨H9.out.1, H9.out.2.1, H9.out.2.2.then (Below.refl _ _).drew⟩)
        clear d9 H9
        refine wp_region_held_drew (S := fun _ => True) (by kernel_rfl) trivial (fun hHeld => ?_)
        refine take_yes (i := 1) (oi := { dst := some 38, op := Op.move (Operand.tmp 4), type := 9, pos := "l06_options.go:219", after := #[], guard := none }) (v := .string sh) rfl (by kernel_rfl) (by kernel_rfl) (by kernel_rfl) (fun _ _ _ h => h) (by rfl) (fun w hSw => by (try dsimp only at hSw); go_simp) (by assumption) ?_
        try simp only [Act.put, List.setIfInBounds_toArray, List.set_cons_zero, List.set_cons_succ]
        refine take_yes (i := 2) (oi := { dst := some 39, op := Op.move (Operand.tmp 5), type := 3, pos := "l06_options.go:219", after := #[], guard := none }) (v := .int .i64 (x : Int)) rfl (by kernel_rfl) (by kernel_rfl) (by kernel_rfl) (fun _ _ _ h => h) (by rfl) (fun w hSw => by (try dsimp only at hSw); go_simp) (by assumption) ?_
        try simp only [Act.put, List.setIfInBounds_toArray, List.set_cons_zero, List.set_cons_succ]
        refine take_yes (i := 3) (oi := { dst := some 40, op := Op.index 9 (Operand.tmp 38) (Operand.tmp 39), type := 5, pos := "l06_options.go:219", after := #[{ on := 1, ground := Ground.data }, { on := 2, ground := Ground.data }], guard := none }) (v := .int .u8 ((sh[x]'q1).toNat : Int)) rfl (by kernel_rfl) (by kernel_rfl) (by kernel_rfl) (fun _ _ _ h => h) (by rfl) (fun w hSw => by (try dsimp only at hSw); go_simp) (by assumption) ?_
        try simp only [Act.put, List.setIfInBounds_toArray, List.set_cons_zero, List.set_cons_succ]
        refine take_yes (i := 4) (oi := { dst := some 41, op := Op.move (Operand.tmp 7), type := 3, pos := "l06_options.go:219", after := #[], guard := none }) (v := .int .i64 (nn : Int)) rfl (by kernel_rfl) (by kernel_rfl) (by kernel_rfl) (fun _ _ _ h => h) (by rfl) (fun w hSw => by (try dsimp only at hSw); go_simp) (by assumption) ?_
        try simp only [Act.put, List.setIfInBounds_toArray, List.set_cons_zero, List.set_cons_succ]
        refine take_yes (i := 5) (oi := { dst := some 42, op := Op.move (Operand.tmp 6), type := 3, pos := "l06_options.go:219", after := #[], guard := none }) (v := .int .i64 (wdn : Int)) rfl (by kernel_rfl) (by kernel_rfl) (by kernel_rfl) (fun _ _ _ h => h) (by rfl) (fun w hSw => by (try dsimp only at hSw); go_simp) (by assumption) ?_
        try simp only [Act.put, List.setIfInBounds_toArray, List.set_cons_zero, List.set_cons_succ]
        refine take_yes (i := 6) (oi := { dst := some 43, op := Op.move (Operand.tmp 0), type := 51, pos := "l06_options.go:219", after := #[], guard := none }) (v := .pointer (some ⟨g, 0, none⟩)) rfl (by kernel_rfl) (by kernel_rfl) (by kernel_rfl) (fun _ _ _ h => h) (by rfl) (fun w hSw => by (try dsimp only at hSw); go_simp) (by assumption) ?_
        try simp only [Act.put, List.setIfInBounds_toArray, List.set_cons_zero, List.set_cons_succ]
        refine wpAnyH_ready (rs := [0, 7]) (by kernel_rfl) (by simp) ?_
        refine AllReadyH.cons (o := { dst := some 37, op := Op.load 26 (Operand.tmp 3), type := 26, pos := "l06_options.go:219", after := #[], guard := none }) rfl (fun K hK => ?_) ?_
        · refine wp_load_row 26 _ rfl h rfl 26 _ (0, 0) _ (heap_of HC.out.1) Try.underlying26 rfl (sizeOpt' _ _) ?_
          refine hK.out _ _ trivial (fun hHeld => ?_)
          clear hK K
          try simp only [Act.put, List.setIfInBounds_toArray, List.set_cons_zero, List.set_cons_succ]
          refine wpAnyH_ready (rs := [7]) (by kernel_rfl) (by simp) ?_
          refine AllReadyH.cons (o := { dst := some 44, op := Op.call { callee := Callee.value (Operand.func 69), args := #[Operand.tmp 43], argTypes := #[51] }, type := 3, pos := "l06_options.go:219", after := #[{ on := 6, ground := Ground.data }], guard := none }) rfl (fun K hK => ?_) AllReadyH.nil
          go_simp
          with_reducible refine (byte_dr g v n _ dc).mono ?_
          rintro e X1 ⟨rb, hrb, rfl, d11, o11⟩
          have eb : IntKind.u8.wrap (rb : Int) = (rb : Int) := IntWalk.u8_in _ (by omega)
          have HC1 := Lib.hid (And.intro (HC.out.1.only o11 (by omega)) (And.intro (HC.out.2.1.only o11 (by omega)) (HC.out.2.2.only o11)))
          clear dc HC o11
          refine hK.out _ _ trivial (fun hHeld => ?_)
          clear hK K
          try simp only [Act.put, List.setIfInBounds_toArray, List.set_cons_zero, List.set_cons_succ]
          have dc := d11
          have HC := HC1
          clear d11 HC1
          refine take_yes (i := 8) (oi := { dst := some 45, op := Op.convert 3 5 (Operand.tmp 44), type := 5, pos := "l06_options.go:219", after := #[{ on := 7, ground := Ground.data }], guard := none }) (v := .int .u8 (rb : Int)) rfl (by kernel_rfl) (by kernel_rfl) (by kernel_rfl) (fun _ _ _ h => h) (by rfl) (fun w hSw => by (try dsimp only at hSw); go_simp) (by assumption) ?_
          try simp only [Act.put, List.setIfInBounds_toArray, List.set_cons_zero, List.set_cons_succ]
          refine wpAnyH_ready (rs := [9]) (by kernel_rfl) (by simp) ?_
          refine AllReadyH.cons (o := { dst := some 46, op := Op.call { callee := Callee.value (Operand.func 68), args := #[Operand.tmp 42, Operand.tmp 45], argTypes := #[3, 5] }, type := 9, pos := "l06_options.go:219", after := #[{ on := 5, ground := Ground.data }, { on := 8, ground := Ground.data }, { on := 7, ground := Ground.chain }], guard := none }) rfl (fun K hK => ?_) AllReadyH.nil
          go_simp
          with_reducible refine (long_dr wdn rb hrb _ rfl _ (by omega)).mono ?_
          rintro e X2 ⟨⟨tx, rfl⟩, hb12⟩
          have d12 := dc.kept hb12
          have HC2 := Lib.hid (And.intro (HC.out.1.kept hb12) (And.intro (HC.out.2.1.kept hb12) (HC.out.2.2.then (hb12.mono HC.out.2.2.size))))
          clear dc HC hb12
          refine hK.out _ _ trivial (fun hHeld => ?_)
          clear hK K
          try simp only [Act.put, List.setIfInBounds_toArray, List.set_cons_zero, List.set_cons_succ]
          have dc := d12
          have HC := HC2
          clear d12 HC2
          refine wpAnyH_ready (rs := [10]) (by kernel_rfl) (by simp) ?_
          refine AllReadyH.cons (o := { dst := some 47, op := Op.call { callee := Callee.value (Operand.func 73), args := #[Operand.tmp 37, Operand.tmp 40, Operand.tmp 41, Operand.tmp 46], argTypes := #[26, 5, 3, 9] }, type := 26, pos := "l06_options.go:219", after := #[{ on := 0, ground := Ground.data }, { on := 3, ground := Ground.data }, { on := 4, ground := Ground.data }, { on := 9, ground := Ground.data }, { on := 9, ground := Ground.chain }], guard := none }) rfl (fun K hK => ?_) AllReadyH.nil
          go_simp
          with_reducible refine (spec_put o none 0 0 ((sh[x]'q1).toNat : Int) (nn : Int) tx _ hl).mono ?_
          rintro e w7 ⟨rfl, hb7⟩
          have hids := putL_ids o ((sh[x]'q1).toNat : Int) (nn : Int) tx
          rw [ho] at hids
          generalize putL o ((sh[x]'q1).toNat : Int) (nn : Int) tx = C1 at *
          have d7 := dc.kept hb7
          have HC7 := Lib.hid (And.intro hids (And.intro (HC.out.1.kept hb7) (And.intro (HC.out.2.1.kept hb7) (HC.out.2.2.then (hb7.mono HC.out.2.2.size)))))
          clear dc HC hb7 hids
          refine hK.out _ _ trivial (fun hHeld => ?_)
          clear hK K
          try simp only [Act.put, List.setIfInBounds_toArray, List.set_cons_zero, List.set_cons_succ]
          refine wpAnyH_ready (rs := [11]) (by kernel_rfl) (by simp) ?_
          refine AllReadyH.cons (o := { dst := none, op := Op.store 26 (Operand.tmp 3) (Operand.tmp 47), type := 0, pos := "l06_options.go:219", after := #[{ on := 10, ground := Ground.data }, { on := 10, ground := Ground.chain }, { on := 0, ground := Ground.phase }, { on := 1, ground := Ground.phase }, { on := 2, ground := Ground.phase }, { on := 3, ground := Ground.phase }, { on := 4, ground := Ground.phase }, { on := 5, ground := Ground.phase }, { on := 6, ground := Ground.phase }, { on := 7, ground := Ground.phase }, { on := 8, ground := Ground.phase }, { on := 9, ground := Ground.phase }, { on := 10, ground := Ground.phase }], guard := none }) rfl (fun K hK => ?_) AllReadyH.nil
          have hcz : w7.heap[h]? = some (.cells (o.cells (.slice none 0 0)) 26 (0, 0)) := HC7.out.2.1
          have one := C1.cells_one none 0 0
          have hss : (o.cells (.slice none 0 0)).size = (C1.cells (.slice none 0 0)).size := by rw [Ov.cells_size, Ov.cells_size]
          have hC6 := HC7.out.2.1.row (C1.cells (.slice none 0 0))
          have hZ6 : Cel (w7.setRow h (C1.cells (.slice none 0 0))) w.heap.size 26 #[.int .i64 0, .int .i64 0, .int .i64 0, .int .i64 0, .int .i64 0, .int .i64 0, .int .i64 0, .int .i64 0, .int .i64 0, .int .i64 0, .bool false, .string ⟨#[]⟩, .string ⟨#[]⟩, .slice none 0 0] := by
            show (w7.heap.modify _ _)[w.heap.size]? = _
            rw [Array.getElem?_modify, if_neg (by omega)]
            exact HC7.out.2.2.1
          have hBw : Below w.heap.size w7 (w7.setRow h (C1.cells (.slice none 0 0))) := below_setRow (g := h) (Below.refl _ _) (by omega) (C1.cells (.slice none 0 0))
          have HR := Lib.hid (And.intro HC7.out.1 (And.intro hC6 (And.intro hZ6 (And.intro (d7.then hBw hg) (HC7.out.2.2.2.then hBw)))))
          clear hC6 hZ6 hBw d7 HC7
          refine wp_store_row 26 _ _ rfl h rfl _ rfl 26 _ hcz (sizeOpt' _ _) hss one ?_
          refine hK.out _ _ trivial (fun hHeld => ?_)
          clear hK K
          try simp only [Act.put, List.setIfInBounds_toArray, List.set_cons_zero, List.set_cons_succ]
          refine wpAnyH_done (by kernel_rfl) ?_ _
          clear hcz one hss
          generalize w7.setRow h (C1.cells (.slice none 0 0)) = W8 at *
          go_wp2_with (fail)
          go_roundw
          case rel =>
            exact ⟨j + 1, x + 2, by have := HX.out; omega, by omega, by go_num, ⟨C1, HR.out.1, HR.out.2.1⟩, HR.out.2.2.1, HR.out.2.2.2.1, HR.out.2.2.2.2⟩
          case measure => have := HX.out; simp [intOf]; omega
        · refine AllReadyH.cons (o := { dst := some 44, op := Op.call { callee := Callee.value (Operand.func 69), args := #[Operand.tmp 43], argTypes := #[51] }, type := 3, pos := "l06_options.go:219", after := #[{ on := 6, ground := Ground.data }], guard := none }) rfl (fun K hK => ?_) AllReadyH.nil
          go_simp
          with_reducible refine (byte_dr g v n _ dc).mono ?_
          rintro e X1 ⟨rb, hrb, rfl, d11, o11⟩
          have eb : IntKind.u8.wrap (rb : Int) = (rb : Int) := IntWalk.u8_in _ (by omega)
          have HC1 := Lib.hid (And.intro (HC.out.1.only o11 (by omega)) (And.intro (HC.out.2.1.only o11 (by omega)) (HC.out.2.2.only o11)))
          clear dc HC o11
          refine hK.out _ _ trivial (fun hHeld => ?_)
          clear hK K
          try simp only [Act.put, List.setIfInBounds_toArray, List.set_cons_zero, List.set_cons_succ]
          have dc := d11
          have HC := HC1
          clear d11 HC1
          refine take_yes (i := 8) (oi := { dst := some 45, op := Op.convert 3 5 (Operand.tmp 44), type := 5, pos := "l06_options.go:219", after := #[{ on := 7, ground := Ground.data }], guard := none }) (v := .int .u8 (rb : Int)) rfl (by kernel_rfl) (by kernel_rfl) (by kernel_rfl) (fun _ _ _ h => h) (by rfl) (fun w hSw => by (try dsimp only at hSw); go_simp) (by assumption) ?_
          try simp only [Act.put, List.setIfInBounds_toArray, List.set_cons_zero, List.set_cons_succ]
          refine wpAnyH_ready (rs := [0, 9]) (by kernel_rfl) (by simp) ?_
          refine AllReadyH.cons (o := { dst := some 37, op := Op.load 26 (Operand.tmp 3), type := 26, pos := "l06_options.go:219", after := #[], guard := none }) rfl (fun K hK => ?_) ?_
          · refine wp_load_row 26 _ rfl h rfl 26 _ (0, 0) _ (heap_of HC.out.1) Try.underlying26 rfl (sizeOpt' _ _) ?_
            refine hK.out _ _ trivial (fun hHeld => ?_)
            clear hK K
            try simp only [Act.put, List.setIfInBounds_toArray, List.set_cons_zero, List.set_cons_succ]
            refine wpAnyH_ready (rs := [9]) (by kernel_rfl) (by simp) ?_
            refine AllReadyH.cons (o := { dst := some 46, op := Op.call { callee := Callee.value (Operand.func 68), args := #[Operand.tmp 42, Operand.tmp 45], argTypes := #[3, 5] }, type := 9, pos := "l06_options.go:219", after := #[{ on := 5, ground := Ground.data }, { on := 8, ground := Ground.data }, { on := 7, ground := Ground.chain }], guard := none }) rfl (fun K hK => ?_) AllReadyH.nil
            go_simp
            with_reducible refine (long_dr wdn rb hrb _ rfl _ (by omega)).mono ?_
            rintro e X2 ⟨⟨tx, rfl⟩, hb12⟩
            have d12 := dc.kept hb12
            have HC2 := Lib.hid (And.intro (HC.out.1.kept hb12) (And.intro (HC.out.2.1.kept hb12) (HC.out.2.2.then (hb12.mono HC.out.2.2.size))))
            clear dc HC hb12
            refine hK.out _ _ trivial (fun hHeld => ?_)
            clear hK K
            try simp only [Act.put, List.setIfInBounds_toArray, List.set_cons_zero, List.set_cons_succ]
            have dc := d12
            have HC := HC2
            clear d12 HC2
            refine wpAnyH_ready (rs := [10]) (by kernel_rfl) (by simp) ?_
            refine AllReadyH.cons (o := { dst := some 47, op := Op.call { callee := Callee.value (Operand.func 73), args := #[Operand.tmp 37, Operand.tmp 40, Operand.tmp 41, Operand.tmp 46], argTypes := #[26, 5, 3, 9] }, type := 26, pos := "l06_options.go:219", after := #[{ on := 0, ground := Ground.data }, { on := 3, ground := Ground.data }, { on := 4, ground := Ground.data }, { on := 9, ground := Ground.data }, { on := 9, ground := Ground.chain }], guard := none }) rfl (fun K hK => ?_) AllReadyH.nil
            go_simp
            with_reducible refine (spec_put o none 0 0 ((sh[x]'q1).toNat : Int) (nn : Int) tx _ hl).mono ?_
            rintro e w7 ⟨rfl, hb7⟩
            have hids := putL_ids o ((sh[x]'q1).toNat : Int) (nn : Int) tx
            rw [ho] at hids
            generalize putL o ((sh[x]'q1).toNat : Int) (nn : Int) tx = C1 at *
            have d7 := dc.kept hb7
            have HC7 := Lib.hid (And.intro hids (And.intro (HC.out.1.kept hb7) (And.intro (HC.out.2.1.kept hb7) (HC.out.2.2.then (hb7.mono HC.out.2.2.size)))))
            clear dc HC hb7 hids
            refine hK.out _ _ trivial (fun hHeld => ?_)
            clear hK K
            try simp only [Act.put, List.setIfInBounds_toArray, List.set_cons_zero, List.set_cons_succ]
            refine wpAnyH_ready (rs := [11]) (by kernel_rfl) (by simp) ?_
            refine AllReadyH.cons (o := { dst := none, op := Op.store 26 (Operand.tmp 3) (Operand.tmp 47), type := 0, pos := "l06_options.go:219", after := #[{ on := 10, ground := Ground.data }, { on := 10, ground := Ground.chain }, { on := 0, ground := Ground.phase }, { on := 1, ground := Ground.phase }, { on := 2, ground := Ground.phase }, { on := 3, ground := Ground.phase }, { on := 4, ground := Ground.phase }, { on := 5, ground := Ground.phase }, { on := 6, ground := Ground.phase }, { on := 7, ground := Ground.phase }, { on := 8, ground := Ground.phase }, { on := 9, ground := Ground.phase }, { on := 10, ground := Ground.phase }], guard := none }) rfl (fun K hK => ?_) AllReadyH.nil
            have hcz : w7.heap[h]? = some (.cells (o.cells (.slice none 0 0)) 26 (0, 0)) := HC7.out.2.1
            have one := C1.cells_one none 0 0
            have hss : (o.cells (.slice none 0 0)).size = (C1.cells (.slice none 0 0)).size := by rw [Ov.cells_size, Ov.cells_size]
            have hC6 := HC7.out.2.1.row (C1.cells (.slice none 0 0))
            have hZ6 : Cel (w7.setRow h (C1.cells (.slice none 0 0))) w.heap.size 26 #[.int .i64 0, .int .i64 0, .int .i64 0, .int .i64 0, .int .i64 0, .int .i64 0, .int .i64 0, .int .i64 0, .int .i64 0, .int .i64 0, .bool false, .string ⟨#[]⟩, .string ⟨#[]⟩, .slice none 0 0] := by
              show (w7.heap.modify _ _)[w.heap.size]? = _
              rw [Array.getElem?_modify, if_neg (by omega)]
              exact HC7.out.2.2.1
            have hBw : Below w.heap.size w7 (w7.setRow h (C1.cells (.slice none 0 0))) := below_setRow (g := h) (Below.refl _ _) (by omega) (C1.cells (.slice none 0 0))
            have HR := Lib.hid (And.intro HC7.out.1 (And.intro hC6 (And.intro hZ6 (And.intro (d7.then hBw hg) (HC7.out.2.2.2.then hBw)))))
            clear hC6 hZ6 hBw d7 HC7
            refine wp_store_row 26 _ _ rfl h rfl _ rfl 26 _ hcz (sizeOpt' _ _) hss one ?_
            refine hK.out _ _ trivial (fun hHeld => ?_)
            clear hK K
            try simp only [Act.put, List.setIfInBounds_toArray, List.set_cons_zero, List.set_cons_succ]
            refine wpAnyH_done (by kernel_rfl) ?_ _
            clear hcz one hss
            generalize w7.setRow h (C1.cells (.slice none 0 0)) = W8 at *
            go_wp2_with (fail)
            go_roundw
            case rel =>
              exact ⟨j + 1, x + 2, by have := HX.out; omega, by omega, by go_num, ⟨C1, HR.out.1, HR.out.2.1⟩, HR.out.2.2.1, HR.out.2.2.2.1, HR.out.2.2.2.2⟩
            case measure => have := HX.out; simp [intOf]; omega
          · refine AllReadyH.cons (o := { dst := some 46, op := Op.call { callee := Callee.value (Operand.func 68), args := #[Operand.tmp 42, Operand.tmp 45], argTypes := #[3, 5] }, type := 9, pos := "l06_options.go:219", after := #[{ on := 5, ground := Ground.data }, { on := 8, ground := Ground.data }, { on := 7, ground := Ground.chain }], guard := none }) rfl (fun K hK => ?_) AllReadyH.nil
            go_simp
            with_reducible refine (long_dr wdn rb hrb _ rfl _ (by omega)).mono ?_
            rintro e X2 ⟨⟨tx, rfl⟩, hb12⟩
            have d12 := dc.kept hb12
            have HC2 := Lib.hid (And.intro (HC.out.1.kept hb12) (And.intro (HC.out.2.1.kept hb12) (HC.out.2.2.then (hb12.mono HC.out.2.2.size))))
            clear dc HC hb12
            refine hK.out _ _ trivial (fun hHeld => ?_)
            clear hK K
            try simp only [Act.put, List.setIfInBounds_toArray, List.set_cons_zero, List.set_cons_succ]
            have dc := d12
            have HC := HC2
            clear d12 HC2
            refine wpAnyH_ready (rs := [0]) (by kernel_rfl) (by simp) ?_
            refine AllReadyH.cons (o := { dst := some 37, op := Op.load 26 (Operand.tmp 3), type := 26, pos := "l06_options.go:219", after := #[], guard := none }) rfl (fun K hK => ?_) AllReadyH.nil
            refine wp_load_row 26 _ rfl h rfl 26 _ (0, 0) _ (heap_of HC.out.1) Try.underlying26 rfl (sizeOpt' _ _) ?_
            refine hK.out _ _ trivial (fun hHeld => ?_)
            clear hK K
            try simp only [Act.put, List.setIfInBounds_toArray, List.set_cons_zero, List.set_cons_succ]
            refine wpAnyH_ready (rs := [10]) (by kernel_rfl) (by simp) ?_
            refine AllReadyH.cons (o := { dst := some 47, op := Op.call { callee := Callee.value (Operand.func 73), args := #[Operand.tmp 37, Operand.tmp 40, Operand.tmp 41, Operand.tmp 46], argTypes := #[26, 5, 3, 9] }, type := 26, pos := "l06_options.go:219", after := #[{ on := 0, ground := Ground.data }, { on := 3, ground := Ground.data }, { on := 4, ground := Ground.data }, { on := 9, ground := Ground.data }, { on := 9, ground := Ground.chain }], guard := none }) rfl (fun K hK => ?_) AllReadyH.nil
            go_simp
            with_reducible refine (spec_put o none 0 0 ((sh[x]'q1).toNat : Int) (nn : Int) tx _ hl).mono ?_
            rintro e w7 ⟨rfl, hb7⟩
            have hids := putL_ids o ((sh[x]'q1).toNat : Int) (nn : Int) tx
            rw [ho] at hids
            generalize putL o ((sh[x]'q1).toNat : Int) (nn : Int) tx = C1 at *
            have d7 := dc.kept hb7
            have HC7 := Lib.hid (And.intro hids (And.intro (HC.out.1.kept hb7) (And.intro (HC.out.2.1.kept hb7) (HC.out.2.2.then (hb7.mono HC.out.2.2.size)))))
            clear dc HC hb7 hids
            refine hK.out _ _ trivial (fun hHeld => ?_)
            clear hK K
            try simp only [Act.put, List.setIfInBounds_toArray, List.set_cons_zero, List.set_cons_succ]
            refine wpAnyH_ready (rs := [11]) (by kernel_rfl) (by simp) ?_
            refine AllReadyH.cons (o := { dst := none, op := Op.store 26 (Operand.tmp 3) (Operand.tmp 47), type := 0, pos := "l06_options.go:219", after := #[{ on := 10, ground := Ground.data }, { on := 10, ground := Ground.chain }, { on := 0, ground := Ground.phase }, { on := 1, ground := Ground.phase }, { on := 2, ground := Ground.phase }, { on := 3, ground := Ground.phase }, { on := 4, ground := Ground.phase }, { on := 5, ground := Ground.phase }, { on := 6, ground := Ground.phase }, { on := 7, ground := Ground.phase }, { on := 8, ground := Ground.phase }, { on := 9, ground := Ground.phase }, { on := 10, ground := Ground.phase }], guard := none }) rfl (fun K hK => ?_) AllReadyH.nil
            have hcz : w7.heap[h]? = some (.cells (o.cells (.slice none 0 0)) 26 (0, 0)) := HC7.out.2.1
            have one := C1.cells_one none 0 0
            have hss : (o.cells (.slice none 0 0)).size = (C1.cells (.slice none 0 0)).size := by rw [Ov.cells_size, Ov.cells_size]
            have hC6 := HC7.out.2.1.row (C1.cells (.slice none 0 0))
            have hZ6 : Cel (w7.setRow h (C1.cells (.slice none 0 0))) w.heap.size 26 #[.int .i64 0, .int .i64 0, .int .i64 0, .int .i64 0, .int .i64 0, .int .i64 0, .int .i64 0, .int .i64 0, .int .i64 0, .int .i64 0, .bool false, .string ⟨#[]⟩, .string ⟨#[]⟩, .slice none 0 0] := by
              show (w7.heap.modify _ _)[w.heap.size]? = _
              rw [Array.getElem?_modify, if_neg (by omega)]
              exact HC7.out.2.2.1
            have hBw : Below w.heap.size w7 (w7.setRow h (C1.cells (.slice none 0 0))) := below_setRow (g := h) (Below.refl _ _) (by omega) (C1.cells (.slice none 0 0))
            have HR := Lib.hid (And.intro HC7.out.1 (And.intro hC6 (And.intro hZ6 (And.intro (d7.then hBw hg) (HC7.out.2.2.2.then hBw)))))
            clear hC6 hZ6 hBw d7 HC7
            refine wp_store_row 26 _ _ rfl h rfl _ rfl 26 _ hcz (sizeOpt' _ _) hss one ?_
            refine hK.out _ _ trivial (fun hHeld => ?_)
            clear hK K
            try simp only [Act.put, List.setIfInBounds_toArray, List.set_cons_zero, List.set_cons_succ]
            refine wpAnyH_done (by kernel_rfl) ?_ _
            clear hcz one hss
            generalize w7.setRow h (C1.cells (.slice none 0 0)) = W8 at *
            go_wp2_with (fail)
            go_roundw
            case rel =>
              exact ⟨j + 1, x + 2, by have := HX.out; omega, by omega, by go_num, ⟨C1, HR.out.1, HR.out.2.1⟩, HR.out.2.2.1, HR.out.2.2.2.1, HR.out.2.2.2.2⟩
            case measure => have := HX.out; simp [intOf]; omega
    · obtain rfl : j = n4 := by omega
      have q0 : ¬ ((x : Int) + 1 < (sh.size : Int)) := by omega
      have hk0 := (hC.cell 0).trans (o.ats (.slice none 0 0)).1
      have H5 := Lib.hid (And.intro hC (And.intro hZ hG))
      clear hWn hLt he hx hC hZ hG
      by_cases h8 : o.kind = 8
      · go_wp2_with (fail)
        with_reducible refine (cb5 _ hD).mono ?_
        rintro e w5 ⟨id0, -, rfl, d5, o5⟩
        have H6 := Lib.hid (And.intro (H5.out.1.only o5 (by omega)) (And.intro (H5.out.2.1.only o5 (by omega)) (And.intro (H5.out.2.2.only o5) d5)))
        clear H5 o5 d5 hD
        go_wp2_with (fail)
        go_loopw [8, 9] (fun idv i wr => ∃ (k : Nat) (a : Int) (ids : List Int) (u : Value), k ≤ 4 ∧ i = .int .i64 k ∧ idv = .int .i64 a ∧ ids.length = k ∧ Cel wr h 26 (o.cells u) ∧ IRow wr (h + 1) wr.heap.size u ids ∧ Cel wr w.heap.size 26 #[.int .i64 0, .int .i64 0, .int .i64 0, .int .i64 0, .int .i64 0, .int .i64 0, .int .i64 0, .int .i64 0, .int .i64 0, .int .i64 0, .bool false, .string ⟨#[]⟩, .string ⟨#[]⟩, .slice none 0 0] ∧ Dr wr g v n ∧ Grew g w wr) (fun _ i _ => 4 - (intOf i).toNat)
        case atStart => exact ⟨0, _, [], .slice none 0 0, by omega, rfl, rfl, rfl, H6.out.1, IRow.none, H6.out.2.1, H6.out.2.2.2, H6.out.2.2.1⟩
        case round =>
          clear H6
          obtain ⟨k, a, ids, u, hk, rfl, rfl, hil, hC, hI, hZ, hD, hG⟩ := hrel
          subst hil
          have H7 := Lib.hid (And.intro hC (And.intro hI (And.intro hZ hG)))
          clear hC hI hZ hG
          go_wp2_with (fail)
          with_reducible refine (cb3 _ hD).mono ?_
          rintro e w6 ⟨r6, hr6, rfl, d6, o6⟩
          have e6 : IntKind.i64.wrap (1 + (r6 : Int)) = 1 + (r6 : Int) := IntWalk.i64_in _ (by omega)
          have hI8 := irow_at H7.out.2.1 (W' := w6) (fun j h1 _ => o6.at_ j (by omega))
          rw [← o6.size] at hI8
          have H8 := Lib.hid (And.intro (H7.out.1.only o6 (by omega)) (And.intro hI8 (And.intro (H7.out.2.2.1.only o6 (by omega)) (H7.out.2.2.2.only o6))))
          clear H7 o6 hD hI8
          by_cases hlt : ids.length < 1 + r6
          · have q : (ids.length : Int) < 1 + (r6 : Int) := by omega
            obtain ⟨ua, uc, rfl⟩ := irow_form H8.out.2.1
            have c13 := (H8.out.1.cell 13).trans (o.ats (.slice ua ids.length uc)).2.2.2.2.2.2.2.2.2.2.2.2.2
            have hb9 := below_new w6 (.cells #[.int .i64 a] 3)
            have hlh := H8.out.1.lt
            have hz6 := H8.out.2.2.2.size
            have hcell := (Cel.new w6 3 #[.int .i64 a]).cell 0
            have hIa := (H8.out.2.1.keep hb9 (Nat.le_refl _))
            have hIb : IRow (w6.alloc (.cells #[.int .i64 a] 3)) (h + 1) (w6.alloc (.cells #[.int .i64 a] 3)).heap.size (.slice ua ids.length uc) ids := hIa.wider (Nat.le_refl _) (by simp)
            have HI := Lib.hid (And.intro hIb (And.intro hcell (show h + 1 ≤ (w6.alloc (.cells #[.int .i64 a] 3)).heap.size by simp; omega)))
            have H9 := Lib.hid (And.intro (H8.out.1.kept hb9) (And.intro (H8.out.2.2.1.kept hb9) (And.intro (d6.kept hb9) (H8.out.2.2.2.then (hb9.mono hz6)))))
            clear H8 hb9 d6 hIa hIb hcell
            go_upto_region 17 with (
              at_builtin
              refine wpList_push_int rfl _ _ rfl (h + 1) (.slice ua ids.length uc) ids a w6.heap.size rfl rfl HI.out.2.1 HI.out.1 HI.out.2.2 (by omega) ?_
              intro v' w7 hown hgrow
              generalize hids' : ids ++ [a] = ids' at hown
              obtain ⟨va', vc', rfl⟩ := irow_form hown
              have hrow : ∀ k, (Value.slice ua ids.length uc).ownBlock = some k → h + 1 ≤ k := fun k hk => irow_ge HI.out.1 k hk
              have hC7 := H9.out.1.grown hgrow (fun e => by have := hrow _ e.symm; omega)
              have hZ7 := H9.out.2.1.grown hgrow (fun e => by have := hrow _ e.symm; omega)
              have hB7 : Below w.heap.size _ w7 := (Below.refl _ _).grown hgrow (by simp; omega) (fun k hk => by have := hrow k hk; omega)
              have c13 := (hC7.cell 13).trans (o.ats (.slice ua ids.length uc)).2.2.2.2.2.2.2.2.2.2.2.2.2
              have f13 := hC7.frozen 13
              have hC8 := hC7.set 13 (.slice va' ids'.length vc')
              rw [Ov.cells_set] at hC8
              have hZ8 := hZ7.other ⟨h, 13, none⟩ (.slice va' ids'.length vc') (by simp; omega)
              have hB8 := hB7.setCell (p := ⟨h, 13, none⟩) (by simp; omega) (.slice va' ids'.length vc')
              have hI8 := irow_at hown (W' := w7.setCell ⟨h, 13, none⟩ (.slice va' ids'.length vc')) (fun k hk _ => Below.heap_setCell _ _ _ _ (by simp; omega))
              have d8 := H9.out.2.2.1.then hB8 hg
              have HJ := Lib.hid (And.intro hC8 (And.intro (hI8.wider (Nat.le_refl _) (show w7.heap.size ≤ (w7.setCell ⟨h, 13, none⟩ (.slice va' ids'.length vc')).heap.size by simp)) (And.intro hZ8 (And.intro (H9.out.2.2.2.then hB8) (show ids'.length = ids.length + 1 by rw [← hids']; simp)))))
              clear hC7 hZ7 hB7 hC8 hZ8 hB8 hI8 hown hgrow hrow H9 HI hids')
            clear c13 f13
            go_wp2_with (fail)
            with_reducible refine (cb5 _ d8).mono ?_
            rintro e w9 ⟨r9, -, rfl, d9, o9⟩
            have hI9 := irow_at HJ.out.2.1 (W' := w9) (fun j h1 _ => o9.at_ j (by omega))
            rw [← o9.size] at hI9
            have HK := Lib.hid (And.intro (HJ.out.1.only o9 (by omega)) (And.intro hI9 (And.intro (HJ.out.2.2.1.only o9 (by omega)) (And.intro d9 (And.intro (HJ.out.2.2.2.1.only o9) HJ.out.2.2.2.2)))))
            clear HJ o9 d8 d9 hI9
            go_wp2_with (fail)
            go_roundw
            case rel => exact ⟨ids.length + 1, _, ids', _, by omega, by go_num, rfl, HK.out.2.2.2.2.2, HK.out.1, HK.out.2.1, HK.out.2.2.1, HK.out.2.2.2.1, HK.out.2.2.2.2.1⟩
            case measure => simp [intOf]; omega
          · have q : ¬ (ids.length : Int) < 1 + (r6 : Int) := by omega
            obtain ⟨ua, uc, rfl⟩ := irow_form H8.out.2.1
            have HEND := Lib.hid (And.intro H8.out.1 (And.intro H8.out.2.2.1 (And.intro d6 (And.intro H8.out.2.2.2 (And.intro H8.out.2.1 (by omega : ids.length ≤ 10))))))
            clear H8 d6
            go_upto_region 18 with (fail)
            have hl : w6.heap[h]? = some (.cells (o.cells (.slice ua ids.length uc)) 26 (0, 0)) := HEND.out.1
            have hz : w6.heap[w.heap.size]? = some (.cells #[.int .i64 0, .int .i64 0, .int .i64 0, .int .i64 0, .int .i64 0, .int .i64 0, .int .i64 0, .int .i64 0, .int .i64 0, .int .i64 0, .bool false, .string ⟨#[]⟩, .string ⟨#[]⟩, .slice none 0 0] 26 (0, 0)) := HEND.out.2.1
            have one := o.cells_one ua ids.length uc
            have hss : (#[.int .i64 0, .int .i64 0, .int .i64 0, .int .i64 0, .int .i64 0, .int .i64 0, .int .i64 0, .int .i64 0, .int .i64 0, .int .i64 0, .bool false, .string ⟨#[]⟩, .string ⟨#[]⟩, .slice none 0 0] : Array Value).size = (o.cells (.slice ua ids.length uc)).size := by rw [Ov.cells_size]; rfl
            go_wp2_with (first | (with_reducible refine wpList_load_row rfl 26 _ rfl _ rfl 26 _ (0, 0) _ hl Try.underlying26 rfl (sizeOpt' _ _) ?_) | (with_reducible refine wpList_store_row rfl 26 _ _ rfl _ rfl _ rfl 26 _ hz (sizeOpt' _ _) hss one ?_))
            have hZ3 := HEND.out.2.1.row (o.cells (.slice ua ids.length uc))
            have hBw : Below w.heap.size w6 (w6.setRow w.heap.size (o.cells (.slice ua ids.length uc))) := below_setRow (g := w.heap.size) (Below.refl _ _) (Nat.le_refl _) (o.cells (.slice ua ids.length uc))
            exact bodyPost_ret (Cel.result hZ3 rfl _ rfl Try.underlying26 rfl (sizeOpt' _ _)) rfl ⟨{ o with ids := ids }, (.slice ua ids.length uc), congrArg (fun c => Ending.returned (.agg c)) (cells_ids o _ _).symm, (end_own HEND.out.2.2.2.2.1 (by have := Hg.out; omega) _).wider (by have := Hg.out; omega) (Nat.le_refl _), HEND.out.2.2.2.2.2, HEND.out.2.2.1.then hBw hg, HEND.out.2.2.2.1.then hBw⟩
      · have HEND := Lib.hid (And.intro H5.out.1 (And.intro H5.out.2.1 (And.intro hD (And.intro H5.out.2.2 (And.intro (IRow.none : IRow wr (h + 1) wr.heap.size (.slice none 0 0) []) (by simp : ([] : List Int).length ≤ 10))))))
        clear H5 hD
        go_upto_region 18 with (fail)
        have hl : wr.heap[h]? = some (.cells (o.cells (.slice none 0 0)) 26 (0, 0)) := HEND.out.1
        have hz : wr.heap[w.heap.size]? = some (.cells #[.int .i64 0, .int .i64 0, .int .i64 0, .int .i64 0, .int .i64 0, .int .i64 0, .int .i64 0, .int .i64 0, .int .i64 0, .int .i64 0, .bool false, .string ⟨#[]⟩, .string ⟨#[]⟩, .slice none 0 0] 26 (0, 0)) := HEND.out.2.1
        have one := o.cells_one none 0 0
        have hss : (#[.int .i64 0, .int .i64 0, .int .i64 0, .int .i64 0, .int .i64 0, .int .i64 0, .int .i64 0, .int .i64 0, .int .i64 0, .int .i64 0, .bool false, .string ⟨#[]⟩, .string ⟨#[]⟩, .slice none 0 0] : Array Value).size = (o.cells (.slice none 0 0)).size := by rw [Ov.cells_size]; rfl
        go_wp2_with (first | (with_reducible refine wpList_load_row rfl 26 _ rfl _ rfl 26 _ (0, 0) _ hl Try.underlying26 rfl (sizeOpt' _ _) ?_) | (with_reducible refine wpList_store_row rfl 26 _ _ rfl _ rfl _ rfl 26 _ hz (sizeOpt' _ _) hss one ?_))
        have hZ3 := HEND.out.2.1.row (o.cells (.slice none 0 0))
        have hBw : Below w.heap.size wr (wr.setRow w.heap.size (o.cells (.slice none 0 0))) := below_setRow (g := w.heap.size) (Below.refl _ _) (Nat.le_refl _) (o.cells (.slice none 0 0))
        exact bodyPost_ret (Cel.result hZ3 rfl _ rfl Try.underlying26 rfl (sizeOpt' _ _)) rfl ⟨{ o with ids := [] }, (.slice none 0 0), congrArg (fun c => Ending.returned (.agg c)) (cells_ids o _ _).symm, (end_own HEND.out.2.2.2.2.1 (by have := Hg.out; omega) _).wider (by have := Hg.out; omega) (Nat.le_refl _), HEND.out.2.2.2.2.2, HEND.out.2.2.1.then hBw hg, HEND.out.2.2.2.1.then hBw⟩
end Go.Proofs.Ytkpajakangaekab
