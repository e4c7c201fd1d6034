import Derived.Test.YtmokepopmfcdnaaAbs
namespace Go.Proofs.Ytmokepopmfcdnaa
open Go.RowKit

theorem sx_keep {w3 W W' : World} {h0 : Nat} {m : Av} (h : W.cell? ⟨h0, 0, none⟩ = some (.int .i64 m.id) ∧ W.cell? ⟨h0, 1, none⟩ = some (.int .i64 m.addr) ∧ W.cell? ⟨h0, 2, none⟩ = some (.bool m.spare) ∧ W.cell? ⟨h0, 3, none⟩ = some (.bool m.told) ∧ Below w3.heap.size w3 W) (hb : Below W.heap.size W W') :
    W'.cell? ⟨h0, 0, none⟩ = some (.int .i64 m.id) ∧ W'.cell? ⟨h0, 1, none⟩ = some (.int .i64 m.addr) ∧ W'.cell? ⟨h0, 2, none⟩ = some (.bool m.spare) ∧ W'.cell? ⟨h0, 3, none⟩ = some (.bool m.told) ∧ Below w3.heap.size w3 W' :=
  ⟨keepc' h.1 hb, keepc' h.2.1 hb, keepc' h.2.2.1 hb, keepc' h.2.2.2.1 hb, Below.then_ h.2.2.2.2 hb⟩
theorem sx_grown {w3 W W' : World} {h0 : Nat} {m : Av} {row : Option Nat} (h : W.cell? ⟨h0, 0, none⟩ = some (.int .i64 m.id) ∧ W.cell? ⟨h0, 1, none⟩ = some (.int .i64 m.addr) ∧ W.cell? ⟨h0, 2, none⟩ = some (.bool m.spare) ∧ W.cell? ⟨h0, 3, none⟩ = some (.bool m.told) ∧ Below w3.heap.size w3 W) (hg : W.grownBy W' row) (hr : ∀ g, row = some g → w3.heap.size ≤ g) (hh : h0 < w3.heap.size) :
    W'.cell? ⟨h0, 0, none⟩ = some (.int .i64 m.id) ∧ W'.cell? ⟨h0, 1, none⟩ = some (.int .i64 m.addr) ∧ W'.cell? ⟨h0, 2, none⟩ = some (.bool m.spare) ∧ W'.cell? ⟨h0, 3, none⟩ = some (.bool m.told) ∧ Below w3.heap.size w3 W' := by
  have hB' : Below w3.heap.size w3 W' := h.2.2.2.2.grown hg h.2.2.2.2.size hr
  have k : ∀ (o : Nat) (u : Value), W.cell? ⟨h0, o, none⟩ = some u → W'.cell? ⟨h0, o, none⟩ = some u := fun o u hu => by
    rw [hB'.cell (p := ⟨h0, o, none⟩) hh, ← h.2.2.2.2.cell (p := ⟨h0, o, none⟩) hh]
    exact hu
  exact ⟨k _ _ h.1, k _ _ h.2.1, k _ _ h.2.2.1, k _ _ h.2.2.2.1, hB'⟩

set_option linter.unusedSimpArgs false in
set_option maxRecDepth 100000 in
set_option maxHeartbeats 8000000 in
theorem spec_putAddr (v : Value) (ms : List Av) (m : Av) (B C : Nat) (w : World) (hv : LieE avK w B C v ms) (hn : ms.length ≤ 1048576) :
    Calls Try.prog 51 #[v, .agg #[.int .i64 m.id, .int .i64 m.addr, .bool m.spare, .bool m.told]] w fun e w' => ∃ v', e = .returned (.tuple #[v', .bool (putA ms m).2]) ∧ OwnV w' w.heap.size w'.heap.size v' (putA ms m).1 ∧ Below w.heap.size w w' := by
  have hbx := below_av w m
  have hC0 := Cel.new w 32 #[.int .i64 m.id, .int .i64 m.addr, .bool m.spare, .bool m.told]
  have hv0 := hv.below hbx
  obtain ⟨r, hr⟩ : ∃ r, putA ms m = r := ⟨_, rfl⟩
  rw [hr]
  unfold putA at hr
  obtain ⟨a, c, rfl, hac⟩ := hv.form
  have hmt := mt_own (w.alloc (.cells #[.int .i64 m.id, .int .i64 m.addr, .bool m.spare, .bool m.told] 32)) w.heap.size hbx.size
  have hb1 := Below.then_ hbx (below_new (w.alloc (.cells #[.int .i64 m.id, .int .i64 m.addr, .bool m.spare, .bool m.told] 32)) (.cells #[] 32))
  have HA := Lib.hid (And.intro hmt (And.intro hb1 (And.intro (hv0.below (below_new _ (.cells #[] 32))) (And.intro (hC0.kept (below_new _ (.cells #[] 32))) hb1.size))))
  have HRS := Lib.hid hr
  have hz0 : (w.alloc (.cells #[.int .i64 m.id, .int .i64 m.addr, .bool m.spare, .bool m.told] 32)).heap.size = w.heap.size + 1 := by simp
  rw [hz0] at HA
  have HLW := Lib.hid hv
  clear hbx hC0 hv0 hmt hb1 hr hv hz0
  have hol := (outA_len ms m).1
  by_cases h6 : 6 < ms.length
  · have q : (6 : Int) < (ms.length : Int) := by omega
    have hk := ok_long (xs := outA ms m) (by omega)
    have hr2 := HRS.out
    rw [hk, if_neg (by decide)] at hr2
    subst hr2
    clear hk hol HRS h6
    go_enter Try.func51, Try.ntmps51
    go_wp2_with (at_builtin; go_loud (refine wpList_append_els avK rfl _ _ 26 26 rfl uAv uAv w.heap.size (.slice (some ⟨w.heap.size + 1, 0, none⟩) 0 0) _ [] ms rfl rfl HA.out.1 HA.out.2.2.2.2 HA.out.2.2.1.rd (by simp; omega) ?_; intro v' w5 hown hgrow hloc; rw [List.nil_append] at hown; have HN := Lib.hid (And.intro hown (bd_grown HA.out.2.1 HA.out.1 HA.out.2.2.2.2 hgrow)); obtain ⟨xa, xc, rfl, -⟩ := hown.form; clear hown hgrow hloc))
    go_ret2
    exact ⟨_, rfl, HN.out.1, HN.out.2⟩
  · have q : ¬ (6 : Int) < (ms.length : Int) := by omega
    have c1 := fun W h => spec_addrAt (.slice a ms.length c) ms m.id W h (by omega)
    unfold atInt at c1
    have hol2 := (outA_len ms m).2
    have cO := fun u W h => spec_addrsOk u (outA ms m) W h (by omega)
    obtain ⟨os, hos⟩ : ∃ os, outA ms m = os := ⟨_, rfl⟩
    rw [hos] at HRS cO
    unfold outA at hos
    clear hol hol2
    go_enter Try.func51, Try.ntmps51
    go_upto_region 2 with (at_builtin; go_loud (refine wpList_append_els avK rfl _ _ 26 26 rfl uAv uAv w.heap.size (.slice (some ⟨w.heap.size + 1, 0, none⟩) 0 0) _ [] ms rfl rfl HA.out.1 HA.out.2.2.2.2 HA.out.2.2.1.rd (by simp; omega) ?_; intro v' w1 hown hgrow hloc; rw [List.nil_append] at hown; have HP1 := Lib.hid (And.intro hown (And.intro (bd_grown HA.out.2.1 HA.out.1 HA.out.2.2.2.2 hgrow) (HA.out.2.2.2.1.grown hgrow (fun e => by simp [Value.ownBlock] at e)))); obtain ⟨sa, sc, rfl, -⟩ := hown.form; clear hown hgrow hloc))
    have hbe := below_new w1 (.cells #[] 32)
    have HA2 := Lib.hid (And.intro (mt_own w1 w1.heap.size (Nat.le_refl _)) (And.intro hbe (And.intro ((HLW.out.below HP1.out.2.1).below hbe) (show w1.heap.size ≤ (w1.alloc (.cells #[] 32)).heap.size from hbe.size))))
    clear hbe
    go_upto_region 5 with (at_builtin; go_loud (refine wpList_append_els avK rfl _ _ 26 26 rfl uAv uAv w1.heap.size (.slice (some ⟨w1.heap.size, 0, none⟩) 0 0) _ [] ms rfl rfl HA2.out.1 HA2.out.2.2.2 HA2.out.2.2.1.rd (by simp; omega) ?_; intro v' w3 hown hgrow hloc; rw [List.nil_append] at hown; have HP2 := Lib.hid (And.intro hown (bd_grown HA2.out.2.1 HA2.out.1 HA2.out.2.2.2 hgrow)); obtain ⟨oa, oc, rfl, -⟩ := hown.form; clear hown hgrow hloc))
    have HP3 := Lib.hid (And.intro (HP1.out.1.full HP2.out.2) (Below.then_ HP1.out.2.1 HP2.out.2))
    have hC3 := HP1.out.2.2.kept HP2.out.2
    have HB1 := Lib.hid (show w.heap.size ≤ w1.heap.size from HP1.out.2.1.size)
    have HO3 := Lib.hid HP2.out.1
    have HSV := Lib.hid (And.intro (HP1.out.1.keep HP2.out.2 (Nat.le_refl _)) HP2.out.2.size)
    have HLI := Lib.hid (HLW.out.below HP3.out.2)
    clear HP1 HA2 HA HLW
    obtain ⟨h0, hh0⟩ : ∃ h0, w.heap.size = h0 := ⟨_, rfl⟩
    have HW0 := Lib.hid hh0
    rw [hh0] at hC3
    obtain ⟨d0, d1, d2, d3⟩ := cel4a hC3
    have HH0 := Lib.hid hC3.lt
    have HSX := Lib.hid (show w3.cell? ⟨h0, 0, none⟩ = some (.int .i64 m.id) ∧ w3.cell? ⟨h0, 1, none⟩ = some (.int .i64 m.addr) ∧ w3.cell? ⟨h0, 2, none⟩ = some (.bool m.spare) ∧ w3.cell? ⟨h0, 3, none⟩ = some (.bool m.told) ∧ Below w3.heap.size w3 w3 from ⟨d0, d1, d2, d3, Below.refl _ _⟩)
    rw [hh0]
    clear hC3 hh0 HP2
    go_wp2_with (fail)
    with_reducible refine (c1 _ HLI.out.rd).mono ?_
    rintro e w4 ⟨rfl, rfl⟩
    clear c1
    cases ha : atA m.id ms with
    | some i =>
      rw [ha] at hos
      obtain ⟨hi, -, -⟩ := atA_some ha
      replace hos : ms.set i m = os := hos
      clear ha
      obtain ⟨ga, gc, hge, hform⟩ := HO3.out.form
      obtain ⟨g, hg, hgB, -⟩ := hform (by omega)
      injection hge with hge1 hge2 hge3
      subst hge1
      subst hg
      clear hform hge2 hge3 gc
      have q2 : (0 : Int) ≤ (i : Int) ∧ (i : Int) < (ms.length : Int) := by omega
      have hth : w3.there g (i * 4) (#[.int .i64 m.id, .int .i64 m.addr, .bool m.spare, .bool m.told] : Array Value).size := (av_own HO3.out i hi).2.2.2.2.2.2
      have one : (#[.int .i64 m.id, .int .i64 m.addr, .bool m.spare, .bool m.told] : Array Value).all (·.oneCell') = true := by simp [Value.oneCell']
      have hO5 := av_putC HO3.out i hi m
      have hB5 := esetC_below g w1.heap.size hgB (i * 4) [.int .i64 m.id, .int .i64 m.addr, .bool m.spare, .bool m.told] w3
      have hz5 := esetC_size g (i * 4) [.int .i64 m.id, .int .i64 m.addr, .bool m.spare, .bool m.told] w3
      rw [hos] at hO5
      have HX := Lib.hid (And.intro hO5 (And.intro hB5 hz5))
      clear hO5 hB5 hz5 hos hgB
      go_upto_region 13 with (with_reducible refine wpList_store_mid rfl 32 _ _ rfl g (i * 4) _ rfl rfl hth (sizeAv _) one ?_)
      have hsz5 : w1.heap.size ≤ (w3.setCells g (i * 4) [.int .i64 m.id, .int .i64 m.addr, .bool m.spare, .bool m.told]).heap.size := by rw [HX.out.2.2]; exact HSV.out.2
      have HZ := Lib.hid (And.intro ((HSV.out.1.keep HX.out.2.1 (Nat.le_refl _)).mono (Nat.le_refl _) hsz5) (And.intro (HX.out.1.mono HB1.out (Nat.le_of_eq HX.out.2.2.symm)) (HP3.out.2.trans (HX.out.2.1.mono HB1.out))))
      generalize w3.setCells g (i * 4) [.int .i64 m.id, .int .i64 m.addr, .bool m.spare, .bool m.told] = w5 at *
      clear hth one HX d0 d1 d2 d3 hsz5
      go_wp2_with (fail)
      with_reducible refine (cO _ _ HZ.out.2.1.rd).mono ?_
      rintro e w8 ⟨rfl, hb8⟩
      have HZ8 := Lib.hid (And.intro (HZ.out.1.full hb8) (And.intro (HZ.out.2.1.full hb8) (Below.then_ HZ.out.2.2 hb8)))
      clear hb8 HZ cO
      cases hk : addrsOk os with
      | true =>
        have hr2 := HRS.out
        rw [hk, if_pos rfl] at hr2
        subst hr2
        clear hk
        go_wp2_with (fail)
        go_ret2
        exact ⟨_, rfl, HZ8.out.2.1, HZ8.out.2.2⟩
      | false =>
        have hr2 := HRS.out
        rw [hk, if_neg (by decide)] at hr2
        subst hr2
        clear hk
        go_wp2_with (fail)
        go_ret2
        exact ⟨_, rfl, HZ8.out.1, HZ8.out.2.2⟩
    | none =>
      rw [ha] at hos
      replace hos : ms.take (placeA m.id ms) ++ m :: ms.drop (placeA m.id ms) = os := hos
      have hpl0 : placeA m.id (ms.drop 0) + 0 = placeA m.id ms := by simp
      obtain ⟨pl, hpl⟩ : ∃ pl, placeA m.id ms = pl := ⟨_, rfl⟩
      rw [hpl] at hos hpl0
      have HOS0 := Lib.hid hos
      have HPL0 := Lib.hid hpl0
      have HPLD := Lib.hid hpl
      clear hpl hpl0
      clear hos ha d0 d1 d2 d3 HO3 HSV
      go_wp2_with (fail)
      go_loopw [8] (fun i wr => ∃ k : Nat, k ≤ ms.length ∧ i = .int .i64 k ∧ placeA m.id (ms.drop k) + k = pl ∧ Below w3.heap.size w3 wr) (fun i _ => ms.length - (intOf i).toNat)
      case atStart => exact ⟨0, by omega, rfl, HPL0.out, Below.refl _ _⟩
      case round =>
        clear HPL0
        obtain ⟨k, hk, rfl, hr, hB⟩ := hrel
        by_cases hlt : k < ms.length
        · have q : (0 : Int) ≤ (k : Int) ∧ (k : Int) < (ms.length : Int) := by omega
          obtain ⟨b, off, ha, hb, k0, -⟩ := av_at (P := Try.prog) (HLI.out.below hB).rd k hlt
          subst ha
          have hst := hr
          rw [List.drop_eq_getElem_cons hlt] at hst
          generalize ms[k] = x at *
          unfold placeA at hst
          by_cases hx : x.id < m.id
          · rw [if_pos hx] at hst
            have HST := Lib.hid hst
            clear hr hst
            go_wp2_with (fail)
            have hS9 : wr.drew.cell? ⟨h0, 0, none⟩ = some (.int .i64 m.id) ∧ wr.drew.cell? ⟨b, off + k * 4, none⟩ = some (.int .i64 x.id) := ⟨(sx_keep HSX.out hB).1, k0⟩
            clear k0
            have hBq := hB.drew
            clear hB
            refine wp_region_held_drew (S := fun W => W.cell? ⟨h0, 0, none⟩ = some (.int .i64 m.id) ∧ W.cell? ⟨b, off + k * 4, none⟩ = some (.int .i64 x.id)) (by kernel_rfl) hS9 (fun hHeld => ?_)
            clear hS9
            generalize wr.drew = wq at *
            refine take_yes (i := 0) (oi := { dst := some 29, op := Op.move (Operand.tmp 8), type := 3, pos := "l11_addrs.go:43", after := #[], guard := none }) (v := .int .i64 (k : Int)) rfl (by kernel_rfl) (by kernel_rfl) (by kernel_rfl) (fun _ _ _ h => h) (by rfl) (fun w hSw => by (try dsimp only at hSw); go_simp) (by assumption) ?_
            try simp only [Act.put, List.setIfInBounds_toArray, List.set_cons_zero, List.set_cons_succ]
            refine take_yes (i := 1) (oi := { dst := some 30, op := Op.move (Operand.tmp 0), type := 26, pos := "l11_addrs.go:43", after := #[], guard := none }) (v := .slice (some ⟨b, off, none⟩) ms.length c) rfl (by kernel_rfl) (by kernel_rfl) (by kernel_rfl) (fun _ _ _ h => h) (by rfl) (fun w hSw => by (try dsimp only at hSw); go_simp) (by assumption) ?_
            try simp only [Act.put, List.setIfInBounds_toArray, List.set_cons_zero, List.set_cons_succ]
            refine take_yes (i := 2) (oi := { dst := some 31, op := Op.call { callee := Callee.builtin Builtin.len, args := #[Operand.tmp 30], argTypes := #[26] }, type := 3, pos := "l11_addrs.go:43", after := #[{ on := 1, ground := Ground.data }], guard := none }) (v := .int .i64 (ms.length : Int)) rfl (by kernel_rfl) (by kernel_rfl) (by kernel_rfl) (fun _ _ _ h => h) (by rfl) (fun w hSw => by (try dsimp only at hSw); go_simp) (by assumption) ?_
            try simp only [Act.put, List.setIfInBounds_toArray, List.set_cons_zero, List.set_cons_succ]
            refine take_yes (i := 3) (oi := { dst := some 32, op := Op.binOp BinOp.lss 3 (Operand.tmp 29) (Operand.tmp 31) 3, type := 4, pos := "l11_addrs.go:43", after := #[{ on := 0, ground := Ground.data }, { on := 2, ground := Ground.data }], guard := none }) (v := .bool true) rfl (by kernel_rfl) (by kernel_rfl) (by kernel_rfl) (fun _ _ _ h => h) (by rfl) (fun w hSw => by (try dsimp only at hSw); go_simp) (by assumption) ?_
            try simp only [Act.put, List.setIfInBounds_toArray, List.set_cons_zero, List.set_cons_succ]
            refine take_yes (i := 4) (oi := { dst := some 33, op := Op.move (Operand.tmp 32), type := 4, pos := "l11_addrs.go:43", after := #[{ on := 3, ground := Ground.data }], guard := none }) (v := .bool true) rfl (by kernel_rfl) (by kernel_rfl) (by kernel_rfl) (fun _ _ _ h => h) (by rfl) (fun w hSw => by (try dsimp only at hSw); go_simp) (by assumption) ?_
            try simp only [Act.put, List.setIfInBounds_toArray, List.set_cons_zero, List.set_cons_succ]
            refine take_yes (i := 5) (oi := { dst := some 34, op := Op.move (Operand.tmp 0), type := 26, pos := "l11_addrs.go:43", after := #[{ on := 4, ground := Ground.guard }], guard := some (4, true) }) (v := .slice (some ⟨b, off, none⟩) ms.length c) rfl (by kernel_rfl) (by kernel_rfl) (by kernel_rfl) (fun _ _ _ h => h) (by rfl) (fun w hSw => by (try dsimp only at hSw); go_simp) (by assumption) ?_
            try simp only [Act.put, List.setIfInBounds_toArray, List.set_cons_zero, List.set_cons_succ]
            refine take_yes (i := 6) (oi := { dst := some 35, op := Op.move (Operand.tmp 8), type := 3, pos := "l11_addrs.go:43", after := #[{ on := 4, ground := Ground.guard }], guard := some (4, true) }) (v := .int .i64 (k : Int)) rfl (by kernel_rfl) (by kernel_rfl) (by kernel_rfl) (fun _ _ _ h => h) (by rfl) (fun w hSw => by (try dsimp only at hSw); go_simp) (by assumption) ?_
            try simp only [Act.put, List.setIfInBounds_toArray, List.set_cons_zero, List.set_cons_succ]
            refine take_yes (i := 7) (oi := { dst := some 36, op := Op.indexAddr 26 (Operand.tmp 34) (Operand.tmp 35), type := 0, pos := "l11_addrs.go:43", after := #[{ on := 5, ground := Ground.data }, { on := 6, ground := Ground.data }, { on := 4, ground := Ground.guard }], guard := some (4, true) }) (v := .pointer (some ⟨b, off + k * 4, none⟩)) rfl (by kernel_rfl) (by kernel_rfl) (by kernel_rfl) (fun _ _ _ h => h) (by rfl) (fun w hSw => by (try dsimp only at hSw); go_simp) (by assumption) ?_
            try simp only [Act.put, List.setIfInBounds_toArray, List.set_cons_zero, List.set_cons_succ]
            refine take_yes (i := 8) (oi := { dst := some 37, op := Op.fieldAddr 32 (Operand.tmp 36) 0, type := 0, pos := "l11_addrs.go:43", after := #[{ on := 7, ground := Ground.data }, { on := 4, ground := Ground.guard }], guard := some (4, true) }) (v := .pointer (some ⟨b, off + k * 4, none⟩)) rfl (by kernel_rfl) (by kernel_rfl) (by kernel_rfl) (fun _ _ _ h => h) (by rfl) (fun w hSw => by (try dsimp only at hSw); go_simp) (by assumption) ?_
            try simp only [Act.put, List.setIfInBounds_toArray, List.set_cons_zero, List.set_cons_succ]
            refine take_yes (i := 9) (oi := { dst := some 38, op := Op.load 3 (Operand.tmp 37), type := 3, pos := "l11_addrs.go:43", after := #[{ on := 8, ground := Ground.data }, { on := 4, ground := Ground.guard }], guard := some (4, true) }) (v := .int .i64 x.id) rfl (by kernel_rfl) (by kernel_rfl) (by kernel_rfl) (fun _ _ _ h => h) (by rfl) (fun w hSw => by (try dsimp only at hSw); go_simp) (by assumption) ?_
            try simp only [Act.put, List.setIfInBounds_toArray, List.set_cons_zero, List.set_cons_succ]
            refine take_yes (i := 10) (oi := { dst := some 39, op := Op.fieldAddr 32 (Operand.tmp 3) 0, type := 0, pos := "l11_addrs.go:43", after := #[{ on := 4, ground := Ground.guard }], guard := some (4, true) }) (v := .pointer (some ⟨h0, 0, none⟩)) rfl (by kernel_rfl) (by kernel_rfl) (by kernel_rfl) (fun _ _ _ h => h) (by rfl) (fun w hSw => by (try dsimp only at hSw); go_simp) (by assumption) ?_
            try simp only [Act.put, List.setIfInBounds_toArray, List.set_cons_zero, List.set_cons_succ]
            refine take_yes (i := 11) (oi := { dst := some 40, op := Op.load 3 (Operand.tmp 39), type := 3, pos := "l11_addrs.go:43", after := #[{ on := 10, ground := Ground.data }, { on := 4, ground := Ground.guard }], guard := some (4, true) }) (v := .int .i64 m.id) rfl (by kernel_rfl) (by kernel_rfl) (by kernel_rfl) (fun _ _ _ h => h) (by rfl) (fun w hSw => by (try dsimp only at hSw); go_simp) (by assumption) ?_
            try simp only [Act.put, List.setIfInBounds_toArray, List.set_cons_zero, List.set_cons_succ]
            refine take_yes (i := 12) (oi := { dst := some 41, op := Op.binOp BinOp.lss 3 (Operand.tmp 38) (Operand.tmp 40) 3, type := 4, pos := "l11_addrs.go:43", after := #[{ on := 9, ground := Ground.data }, { on := 11, ground := Ground.data }, { on := 4, ground := Ground.guard }], guard := some (4, true) }) (v := .bool true) rfl (by kernel_rfl) (by kernel_rfl) (by kernel_rfl) (fun _ _ _ h => h) (by rfl) (fun w hSw => by (try dsimp only at hSw); go_simp) (by assumption) ?_
            try simp only [Act.put, List.setIfInBounds_toArray, List.set_cons_zero, List.set_cons_succ]
            refine take_yes (i := 13) (oi := { dst := some 42, op := Op.pick (Operand.tmp 33) (Operand.tmp 41) (Operand.const (Value.bool false)), type := 4, pos := "l11_addrs.go:43", after := #[{ on := 4, ground := Ground.data }, { on := 12, ground := Ground.data }], guard := none }) (v := .bool true) rfl (by kernel_rfl) (by kernel_rfl) (by kernel_rfl) (fun _ _ _ h => h) (by rfl) (fun w hSw => by (try dsimp only at hSw); go_simp) (by assumption) ?_
            try simp only [Act.put, List.setIfInBounds_toArray, List.set_cons_zero, List.set_cons_succ]
            refine wpAnyH_done (by kernel_rfl) ?_ _
            have hHeld2 := hHeld
            clear hHeld
            clear hHeld2
            have HBQ := Lib.hid hBq
            clear hBq
            go_wp2_with (fail)
            go_roundw
            case rel => exact ⟨k + 1, by omega, by go_num, by have := HST.out; omega, HBQ.out⟩
            case measure => simp [intOf]; omega
          · rw [if_neg hx] at hst
            have hP : k = pl := by omega
            have HPK := Lib.hid hP
            clear hst hP hr
            go_wp2_with (fail)
            have hS9 : wr.drew.cell? ⟨h0, 0, none⟩ = some (.int .i64 m.id) ∧ wr.drew.cell? ⟨b, off + k * 4, none⟩ = some (.int .i64 x.id) := ⟨(sx_keep HSX.out hB).1, k0⟩
            clear k0
            have hBq := hB.drew
            clear hB
            refine wp_region_held_drew (S := fun W => W.cell? ⟨h0, 0, none⟩ = some (.int .i64 m.id) ∧ W.cell? ⟨b, off + k * 4, none⟩ = some (.int .i64 x.id)) (by kernel_rfl) hS9 (fun hHeld => ?_)
            clear hS9
            generalize wr.drew = wq at *
            refine take_yes (i := 0) (oi := { dst := some 29, op := Op.move (Operand.tmp 8), type := 3, pos := "l11_addrs.go:43", after := #[], guard := none }) (v := .int .i64 (k : Int)) rfl (by kernel_rfl) (by kernel_rfl) (by kernel_rfl) (fun _ _ _ h => h) (by rfl) (fun w hSw => by (try dsimp only at hSw); go_simp) (by assumption) ?_
            try simp only [Act.put, List.setIfInBounds_toArray, List.set_cons_zero, List.set_cons_succ]
            refine take_yes (i := 1) (oi := { dst := some 30, op := Op.move (Operand.tmp 0), type := 26, pos := "l11_addrs.go:43", after := #[], guard := none }) (v := .slice (some ⟨b, off, none⟩) ms.length c) rfl (by kernel_rfl) (by kernel_rfl) (by kernel_rfl) (fun _ _ _ h => h) (by rfl) (fun w hSw => by (try dsimp only at hSw); go_simp) (by assumption) ?_
            try simp only [Act.put, List.setIfInBounds_toArray, List.set_cons_zero, List.set_cons_succ]
            refine take_yes (i := 2) (oi := { dst := some 31, op := Op.call { callee := Callee.builtin Builtin.len, args := #[Operand.tmp 30], argTypes := #[26] }, type := 3, pos := "l11_addrs.go:43", after := #[{ on := 1, ground := Ground.data }], guard := none }) (v := .int .i64 (ms.length : Int)) rfl (by kernel_rfl) (by kernel_rfl) (by kernel_rfl) (fun _ _ _ h => h) (by rfl) (fun w hSw => by (try dsimp only at hSw); go_simp) (by assumption) ?_
            try simp only [Act.put, List.setIfInBounds_toArray, List.set_cons_zero, List.set_cons_succ]
            refine take_yes (i := 3) (oi := { dst := some 32, op := Op.binOp BinOp.lss 3 (Operand.tmp 29) (Operand.tmp 31) 3, type := 4, pos := "l11_addrs.go:43", after := #[{ on := 0, ground := Ground.data }, { on := 2, ground := Ground.data }], guard := none }) (v := .bool true) rfl (by kernel_rfl) (by kernel_rfl) (by kernel_rfl) (fun _ _ _ h => h) (by rfl) (fun w hSw => by (try dsimp only at hSw); go_simp) (by assumption) ?_
            try simp only [Act.put, List.setIfInBounds_toArray, List.set_cons_zero, List.set_cons_succ]
            refine take_yes (i := 4) (oi := { dst := some 33, op := Op.move (Operand.tmp 32), type := 4, pos := "l11_addrs.go:43", after := #[{ on := 3, ground := Ground.data }], guard := none }) (v := .bool true) rfl (by kernel_rfl) (by kernel_rfl) (by kernel_rfl) (fun _ _ _ h => h) (by rfl) (fun w hSw => by (try dsimp only at hSw); go_simp) (by assumption) ?_
            try simp only [Act.put, List.setIfInBounds_toArray, List.set_cons_zero, List.set_cons_succ]
            refine take_yes (i := 5) (oi := { dst := some 34, op := Op.move (Operand.tmp 0), type := 26, pos := "l11_addrs.go:43", after := #[{ on := 4, ground := Ground.guard }], guard := some (4, true) }) (v := .slice (some ⟨b, off, none⟩) ms.length c) rfl (by kernel_rfl) (by kernel_rfl) (by kernel_rfl) (fun _ _ _ h => h) (by rfl) (fun w hSw => by (try dsimp only at hSw); go_simp) (by assumption) ?_
            try simp only [Act.put, List.setIfInBounds_toArray, List.set_cons_zero, List.set_cons_succ]
            refine take_yes (i := 6) (oi := { dst := some 35, op := Op.move (Operand.tmp 8), type := 3, pos := "l11_addrs.go:43", after := #[{ on := 4, ground := Ground.guard }], guard := some (4, true) }) (v := .int .i64 (k : Int)) rfl (by kernel_rfl) (by kernel_rfl) (by kernel_rfl) (fun _ _ _ h => h) (by rfl) (fun w hSw => by (try dsimp only at hSw); go_simp) (by assumption) ?_
            try simp only [Act.put, List.setIfInBounds_toArray, List.set_cons_zero, List.set_cons_succ]
            refine take_yes (i := 7) (oi := { dst := some 36, op := Op.indexAddr 26 (Operand.tmp 34) (Operand.tmp 35), type := 0, pos := "l11_addrs.go:43", after := #[{ on := 5, ground := Ground.data }, { on := 6, ground := Ground.data }, { on := 4, ground := Ground.guard }], guard := some (4, true) }) (v := .pointer (some ⟨b, off + k * 4, none⟩)) rfl (by kernel_rfl) (by kernel_rfl) (by kernel_rfl) (fun _ _ _ h => h) (by rfl) (fun w hSw => by (try dsimp only at hSw); go_simp) (by assumption) ?_
            try simp only [Act.put, List.setIfInBounds_toArray, List.set_cons_zero, List.set_cons_succ]
            refine take_yes (i := 8) (oi := { dst := some 37, op := Op.fieldAddr 32 (Operand.tmp 36) 0, type := 0, pos := "l11_addrs.go:43", after := #[{ on := 7, ground := Ground.data }, { on := 4, ground := Ground.guard }], guard := some (4, true) }) (v := .pointer (some ⟨b, off + k * 4, none⟩)) rfl (by kernel_rfl) (by kernel_rfl) (by kernel_rfl) (fun _ _ _ h => h) (by rfl) (fun w hSw => by (try dsimp only at hSw); go_simp) (by assumption) ?_
            try simp only [Act.put, List.setIfInBounds_toArray, List.set_cons_zero, List.set_cons_succ]
            refine take_yes (i := 9) (oi := { dst := some 38, op := Op.load 3 (Operand.tmp 37), type := 3, pos := "l11_addrs.go:43", after := #[{ on := 8, ground := Ground.data }, { on := 4, ground := Ground.guard }], guard := some (4, true) }) (v := .int .i64 x.id) rfl (by kernel_rfl) (by kernel_rfl) (by kernel_rfl) (fun _ _ _ h => h) (by rfl) (fun w hSw => by (try dsimp only at hSw); go_simp) (by assumption) ?_
            try simp only [Act.put, List.setIfInBounds_toArray, List.set_cons_zero, List.set_cons_succ]
            refine take_yes (i := 10) (oi := { dst := some 39, op := Op.fieldAddr 32 (Operand.tmp 3) 0, type := 0, pos := "l11_addrs.go:43", after := #[{ on := 4, ground := Ground.guard }], guard := some (4, true) }) (v := .pointer (some ⟨h0, 0, none⟩)) rfl (by kernel_rfl) (by kernel_rfl) (by kernel_rfl) (fun _ _ _ h => h) (by rfl) (fun w hSw => by (try dsimp only at hSw); go_simp) (by assumption) ?_
            try simp only [Act.put, List.setIfInBounds_toArray, List.set_cons_zero, List.set_cons_succ]
            refine take_yes (i := 11) (oi := { dst := some 40, op := Op.load 3 (Operand.tmp 39), type := 3, pos := "l11_addrs.go:43", after := #[{ on := 10, ground := Ground.data }, { on := 4, ground := Ground.guard }], guard := some (4, true) }) (v := .int .i64 m.id) rfl (by kernel_rfl) (by kernel_rfl) (by kernel_rfl) (fun _ _ _ h => h) (by rfl) (fun w hSw => by (try dsimp only at hSw); go_simp) (by assumption) ?_
            try simp only [Act.put, List.setIfInBounds_toArray, List.set_cons_zero, List.set_cons_succ]
            refine take_yes (i := 12) (oi := { dst := some 41, op := Op.binOp BinOp.lss 3 (Operand.tmp 38) (Operand.tmp 40) 3, type := 4, pos := "l11_addrs.go:43", after := #[{ on := 9, ground := Ground.data }, { on := 11, ground := Ground.data }, { on := 4, ground := Ground.guard }], guard := some (4, true) }) (v := .bool false) rfl (by kernel_rfl) (by kernel_rfl) (by kernel_rfl) (fun _ _ _ h => h) (by rfl) (fun w hSw => by (try dsimp only at hSw); go_simp) (by assumption) ?_
            try simp only [Act.put, List.setIfInBounds_toArray, List.set_cons_zero, List.set_cons_succ]
            refine take_yes (i := 13) (oi := { dst := some 42, op := Op.pick (Operand.tmp 33) (Operand.tmp 41) (Operand.const (Value.bool false)), type := 4, pos := "l11_addrs.go:43", after := #[{ on := 4, ground := Ground.data }, { on := 12, ground := Ground.data }], guard := none }) (v := .bool false) rfl (by kernel_rfl) (by kernel_rfl) (by kernel_rfl) (fun _ _ _ h => h) (by rfl) (fun w hSw => by (try dsimp only at hSw); go_simp) (by assumption) ?_
            try simp only [Act.put, List.setIfInBounds_toArray, List.set_cons_zero, List.set_cons_succ]
            refine wpAnyH_done (by kernel_rfl) ?_ _
            have hHeld2 := hHeld
            clear hHeld
            clear hHeld2
            have hP := HPK.out
            have hos := HOS0.out
            rw [← hP] at hos
            obtain ⟨a', hcut, hcutL⟩ := LieE.cut_to (tS := 26) uAv HLI.out k hk
            obtain ⟨a2, c2, hfrom, -, hfromL⟩ := LieE.cut_from (tS := 26) uAv HLI.out k hk
            have hl1 : (ms.take k).length = k := by rw [List.length_take]; omega
            have hl2 : (ms.take k ++ [m]).length = k + 1 := by simp; omega
            have hl3 : (ms.drop k).length ≤ 1048576 := by rw [List.length_drop]; omega
            have hos2 : (ms.take k ++ [m]) ++ ms.drop k = os := by rw [← hos]; simp
            have HL := Lib.hid (And.intro hcutL (And.intro hfromL (And.intro hl1 (And.intro hl2 hl3))))
            clear hP hos hcutL hfromL hl1 hl2 hl3
            generalize hA3 : ms.take k ++ [m] = A3 at *
            have HA3 := Lib.hid hA3
            have HOS := Lib.hid hos2
            clear hA3 hos2
            generalize ms.take k = A1 at *
            generalize ms.drop k = A2 at *
            go_wp2_with (fail)
            have hS := sx_keep HSX.out hBq.drew
            clear hBq
            refine wp_region_held_drew (S := fun W => W.cell? ⟨h0, 0, none⟩ = some (.int .i64 m.id) ∧ W.cell? ⟨h0, 1, none⟩ = some (.int .i64 m.addr) ∧ W.cell? ⟨h0, 2, none⟩ = some (.bool m.spare) ∧ W.cell? ⟨h0, 3, none⟩ = some (.bool m.told) ∧ Below w3.heap.size w3 W) (by kernel_rfl) hS (fun hHeld => ?_)
            clear hS
            generalize wq.drew = wd at *
            refine take_yes (i := 1) (oi := { dst := some 46, op := Op.move (Operand.tmp 0), type := 26, pos := "l11_addrs.go:46", after := #[], guard := none }) (v := .slice (some ⟨b, off, none⟩) ms.length c) rfl (by kernel_rfl) (by kernel_rfl) (by kernel_rfl) (fun _ _ _ h => h) (by rfl) (fun w hSw => by (try dsimp only at hSw); go_simp) (by assumption) ?_
            try simp only [Act.put, List.setIfInBounds_toArray, List.set_cons_zero, List.set_cons_succ]
            refine take_yes (i := 2) (oi := { dst := some 47, op := Op.move (Operand.tmp 8), type := 3, pos := "l11_addrs.go:46", after := #[], guard := none }) (v := .int .i64 (k : Int)) rfl (by kernel_rfl) (by kernel_rfl) (by kernel_rfl) (fun _ _ _ h => h) (by rfl) (fun w hSw => by (try dsimp only at hSw); go_simp) (by assumption) ?_
            try simp only [Act.put, List.setIfInBounds_toArray, List.set_cons_zero, List.set_cons_succ]
            refine take_yes (i := 3) (oi := { dst := some 48, op := Op.slice 26 (Operand.tmp 46) none (some (Operand.tmp 47)) none, type := 26, pos := "l11_addrs.go:46", after := #[{ on := 1, ground := Ground.data }, { on := 2, ground := Ground.data }], guard := none }) (v := (.slice a' k c)) rfl (by kernel_rfl) (by kernel_rfl) (by kernel_rfl) (fun _ _ _ h => h) (by rfl) (fun w hSw => by (try dsimp only at hSw); go_simp) (by assumption) ?_
            try simp only [Act.put, List.setIfInBounds_toArray, List.set_cons_zero, List.set_cons_succ]
            refine take_yes (i := 5) (oi := { dst := some 50, op := Op.load 32 (Operand.tmp 3), type := 32, pos := "l11_addrs.go:46", after := #[], guard := none }) (v := .agg #[.int .i64 m.id, .int .i64 m.addr, .bool m.spare, .bool m.told]) rfl (by kernel_rfl) (by kernel_rfl) (by kernel_rfl) (fun _ _ _ h => h) (by rfl) (fun w hSw => by (try dsimp only at hSw); go_simp) (by assumption) ?_
            try simp only [Act.put, List.setIfInBounds_toArray, List.set_cons_zero, List.set_cons_succ]
            refine wpAnyH_ready (rs := [0, 6]) (by kernel_rfl) (by simp) ?_
            refine AllReadyH.cons (o := { dst := some 45, op := Op.buildSlice 26 0 #[], type := 26, pos := "l11_addrs.go:46", after := #[], guard := none }) rfl (fun K hK => ?_) ?_
            · go_simp
              have hbS := below_new wd (.cells #[] 32)
              have HE2 := Lib.hid (mt_own wd w3.heap.size hHeld.2.2.2.2.size)
              have KK3 := sx_keep hHeld hbS
              clear hbS
              generalize wd.heap.size = ge at *
              generalize wd.alloc (.cells #[] 32) = wx1 at *
              refine hK.out _ _ KK3 (fun hHeldN => ?_)
              clear hK K hHeld
              have hHeld := hHeldN
              clear hHeldN
              try simp only [Act.put, List.setIfInBounds_toArray, List.set_cons_zero, List.set_cons_succ]
              refine wpAnyH_ready (rs := [4, 6]) (by kernel_rfl) (by simp) ?_
              refine AllReadyH.cons (o := { dst := some 49, op := Op.call { callee := Callee.builtin Builtin.append, args := #[Operand.tmp 45, Operand.tmp 48], argTypes := #[26, 26] }, type := 26, pos := "l11_addrs.go:46", after := #[{ on := 0, ground := Ground.data }, { on := 3, ground := Ground.data }], guard := none }) rfl (fun K hK => ?_) ?_
              · refine step_append_els avK rfl _ _ 26 26 rfl uAv uAv w3.heap.size (.slice (some ⟨ge, 0, none⟩) 0 0) (.slice a' k c) [] A1 (by simp [Act.eval, Act.put]) (by simp [Act.eval, Act.put]) HE2.out hHeld.2.2.2.2.size (HL.out.1 _ (HLI.out.below hHeld.2.2.2.2)).rd (by simp; have := HL.out.2.2.1; omega) ?_
                intro v' wx4 hown hgrow hloc
                have KK6 := sx_grown hHeld hgrow (fun g hg => (HE2.out.block g hg).1) HH0.out
                rw [List.nil_append] at hown
                have HE5 := Lib.hid hown
                obtain ⟨va7, va7c, rfl, -⟩ := hown.form
                clear hown hgrow hloc HE2
                refine hK.out _ _ KK6 (fun hHeldN => ?_)
                clear hK K hHeld
                have hHeld := hHeldN
                clear hHeldN
                try simp only [Act.put, List.setIfInBounds_toArray, List.set_cons_zero, List.set_cons_succ]
                refine wpAnyH_ready (rs := [6]) (by kernel_rfl) (by simp) ?_
                refine AllReadyH.cons (o := { dst := some 51, op := Op.buildSlice 26 1 #[(0, Operand.tmp 50)], type := 26, pos := "l11_addrs.go:46", after := #[{ on := 5, ground := Ground.data }], guard := none }) rfl (fun K hK => ?_) AllReadyH.nil
                go_simp
                have hbS := below_new wx4 (.cells #[.int .i64 m.id, .int .i64 m.addr, .bool m.spare, .bool m.told] 32)
                have HE11 := Lib.hid (HE5.out.full hbS)
                clear HE5
                have HG9 := Lib.hid (Cel.new wx4 32 #[.int .i64 m.id, .int .i64 m.addr, .bool m.spare, .bool m.told])
                have KK10 := sx_keep hHeld hbS
                clear hbS
                generalize wx4.heap.size = gg at *
                generalize wx4.alloc (.cells #[.int .i64 m.id, .int .i64 m.addr, .bool m.spare, .bool m.told] 32) = wx8 at *
                refine hK.out _ _ KK10 (fun hHeldN => ?_)
                clear hK K hHeld
                have hHeld := hHeldN
                clear hHeldN
                try simp only [Act.put, List.setIfInBounds_toArray, List.set_cons_zero, List.set_cons_succ]
                refine wpAnyH_ready (rs := [7]) (by kernel_rfl) (by simp) ?_
                refine AllReadyH.cons (o := { dst := some 52, op := Op.call { callee := Callee.builtin Builtin.append, args := #[Operand.tmp 49, Operand.tmp 51], argTypes := #[26, 26] }, type := 26, pos := "l11_addrs.go:46", after := #[{ on := 4, ground := Ground.data }, { on := 6, ground := Ground.data }, { on := 4, ground := Ground.chain }], guard := none }) rfl (fun K hK => ?_) AllReadyH.nil
                refine step_append_els avK rfl _ _ 26 26 rfl uAv uAv w3.heap.size (.slice va7 A1.length va7c) (.slice (some ⟨gg, 0, none⟩) 1 1) A1 [m] (by simp [Act.eval, Act.put]) (by simp [Act.eval, Act.put]) HE11.out hHeld.2.2.2.2.size (rd_box HG9.out) (by have := HL.out.2.2.1; simp; omega) ?_
                intro v' wx12 hown hgrow hloc
                have KK14 := sx_grown hHeld hgrow (fun g hg => (HE11.out.block g hg).1) HH0.out
                rw [HA3.out] at hown
                have HE13 := Lib.hid hown
                obtain ⟨va15, va15c, rfl, -⟩ := hown.form
                clear hown hgrow hloc HE11
                refine hK.out _ _ KK14 (fun hHeldN => ?_)
                clear hK K hHeld
                have hHeld := hHeldN
                clear hHeldN
                try simp only [Act.put, List.setIfInBounds_toArray, List.set_cons_zero, List.set_cons_succ]
                refine take_yes (i := 8) (oi := { dst := some 7, op := Op.assign (Operand.tmp 52), type := 26, pos := "l11_addrs.go:46", after := #[{ on := 7, ground := Ground.data }, { on := 7, ground := Ground.chain }, { on := 0, ground := Ground.phase }, { on := 1, ground := Ground.phase }, { on := 2, ground := Ground.phase }, { on := 3, ground := Ground.phase }, { on := 4, ground := Ground.phase }, { on := 5, ground := Ground.phase }, { on := 6, ground := Ground.phase }, { on := 7, ground := Ground.phase }], guard := none }) (v := (.slice va15 A3.length va15c)) rfl (by kernel_rfl) (by kernel_rfl) (by kernel_rfl) (fun _ _ _ h => h) (by rfl) (fun w hSw => by (try dsimp only at hSw); go_simp) (by assumption) ?_
                try simp only [Act.put, List.setIfInBounds_toArray, List.set_cons_zero, List.set_cons_succ]
                refine wpAnyH_done (by kernel_rfl) ?_ _
                have hHeld2 := hHeld
                clear hHeld
                obtain ⟨-, -, -, -, f4⟩ := hHeld2
                have HE9 := Lib.hid (And.intro HE13.out (And.intro f4 (And.intro (HLI.out.below f4) (show w3.heap.size ≤ wx12.heap.size from f4.size))))
                clear f4 HE13
                go_upto_region 13 with (at_builtin; go_loud (refine wpList_append_els avK rfl _ _ 26 26 rfl uAv uAv w3.heap.size (.slice va15 A3.length va15c) (.slice a2 A2.length c2) A3 A2 rfl rfl HE9.out.1 HE9.out.2.2.2 (HL.out.2.1 _ HE9.out.2.2.1).rd (by have h1 := HL.out.2.2.2.1; have h2 := HL.out.2.2.2.2; omega) ?_; intro v' w7 hown hgrow hloc; rw [HOS.out] at hown; have HZ := Lib.hid (And.intro (HP3.out.1.full (bd_grown HE9.out.2.1 HE9.out.1 HE9.out.2.2.2 hgrow)) (And.intro (hown.mono HP3.out.2.size (Nat.le_refl _)) (Below.then_ HP3.out.2 (bd_grown HE9.out.2.1 HE9.out.1 HE9.out.2.2.2 hgrow)))); obtain ⟨ya, yc, rfl, -⟩ := hown.form; clear hown hgrow hloc))
                go_wp2_with (fail)
                with_reducible refine (cO _ _ HZ.out.2.1.rd).mono ?_
                rintro e w8 ⟨rfl, hb8⟩
                have HZ8 := Lib.hid (And.intro (HZ.out.1.full hb8) (And.intro (HZ.out.2.1.full hb8) (Below.then_ HZ.out.2.2 hb8)))
                clear hb8 HZ cO
                cases hk : addrsOk os with
                | true =>
                  have hr2 := HRS.out
                  rw [hk, if_pos rfl] at hr2
                  subst hr2
                  clear hk
                  go_wp2_with (fail)
                  go_ret2
                  exact ⟨_, rfl, HZ8.out.2.1, HZ8.out.2.2⟩
                | false =>
                  have hr2 := HRS.out
                  rw [hk, if_neg (by decide)] at hr2
                  subst hr2
                  clear hk
                  go_wp2_with (fail)
                  go_ret2
                  exact ⟨_, rfl, HZ8.out.1, HZ8.out.2.2⟩
              refine AllReadyH.cons (o := { dst := some 51, op := Op.buildSlice 26 1 #[(0, Operand.tmp 50)], type := 26, pos := "l11_addrs.go:46", after := #[{ on := 5, ground := Ground.data }], guard := none }) rfl (fun K hK => ?_) AllReadyH.nil
              go_simp
              have hneg := HE2.out.lt
              have HNE := Lib.hid (show ¬ wx1.heap.size = ge by omega)
              clear hneg
              have hbS := below_new wx1 (.cells #[.int .i64 m.id, .int .i64 m.addr, .bool m.spare, .bool m.told] 32)
              have HE19 := Lib.hid (HE2.out.full hbS)
              clear HE2
              have HG17 := Lib.hid (Cel.new wx1 32 #[.int .i64 m.id, .int .i64 m.addr, .bool m.spare, .bool m.told])
              have KK18 := sx_keep hHeld hbS
              clear hbS
              generalize wx1.heap.size = gg at *
              generalize wx1.alloc (.cells #[.int .i64 m.id, .int .i64 m.addr, .bool m.spare, .bool m.told] 32) = wx16 at *
              refine hK.out _ _ KK18 (fun hHeldN => ?_)
              clear hK K hHeld
              have hHeld := hHeldN
              clear hHeldN
              try simp only [Act.put, List.setIfInBounds_toArray, List.set_cons_zero, List.set_cons_succ]
              refine wpAnyH_ready (rs := [4]) (by kernel_rfl) (by simp) ?_
              refine AllReadyH.cons (o := { dst := some 49, op := Op.call { callee := Callee.builtin Builtin.append, args := #[Operand.tmp 45, Operand.tmp 48], argTypes := #[26, 26] }, type := 26, pos := "l11_addrs.go:46", after := #[{ on := 0, ground := Ground.data }, { on := 3, ground := Ground.data }], guard := none }) rfl (fun K hK => ?_) AllReadyH.nil
              refine step_append_els avK rfl _ _ 26 26 rfl uAv uAv w3.heap.size (.slice (some ⟨ge, 0, none⟩) 0 0) (.slice a' k c) [] A1 (by simp [Act.eval, Act.put]) (by simp [Act.eval, Act.put]) HE19.out hHeld.2.2.2.2.size (HL.out.1 _ (HLI.out.below hHeld.2.2.2.2)).rd (by simp; have := HL.out.2.2.1; omega) ?_
              intro v' wx20 hown hgrow hloc
              have KK22 := sx_grown hHeld hgrow (fun g hg => (HE19.out.block g hg).1) HH0.out
              have HG24 := Lib.hid (HG17.out.grown hgrow (fun e => HNE.out (by simpa [Value.ownBlock] using e)))
              clear HG17
              rw [List.nil_append] at hown
              have HE21 := Lib.hid hown
              obtain ⟨va23, va23c, rfl, -⟩ := hown.form
              clear hown hgrow hloc HE19
              refine hK.out _ _ KK22 (fun hHeldN => ?_)
              clear hK K hHeld
              have hHeld := hHeldN
              clear hHeldN
              try simp only [Act.put, List.setIfInBounds_toArray, List.set_cons_zero, List.set_cons_succ]
              refine wpAnyH_ready (rs := [7]) (by kernel_rfl) (by simp) ?_
              refine AllReadyH.cons (o := { dst := some 52, op := Op.call { callee := Callee.builtin Builtin.append, args := #[Operand.tmp 49, Operand.tmp 51], argTypes := #[26, 26] }, type := 26, pos := "l11_addrs.go:46", after := #[{ on := 4, ground := Ground.data }, { on := 6, ground := Ground.data }, { on := 4, ground := Ground.chain }], guard := none }) rfl (fun K hK => ?_) AllReadyH.nil
              refine step_append_els avK rfl _ _ 26 26 rfl uAv uAv w3.heap.size (.slice va23 A1.length va23c) (.slice (some ⟨gg, 0, none⟩) 1 1) A1 [m] (by simp [Act.eval, Act.put]) (by simp [Act.eval, Act.put]) HE21.out hHeld.2.2.2.2.size (rd_box HG24.out) (by have := HL.out.2.2.1; simp; omega) ?_
              intro v' wx25 hown hgrow hloc
              have KK27 := sx_grown hHeld hgrow (fun g hg => (HE21.out.block g hg).1) HH0.out
              rw [HA3.out] at hown
              have HE26 := Lib.hid hown
              obtain ⟨va28, va28c, rfl, -⟩ := hown.form
              clear hown hgrow hloc HE21
              refine hK.out _ _ KK27 (fun hHeldN => ?_)
              clear hK K hHeld
              have hHeld := hHeldN
              clear hHeldN
              try simp only [Act.put, List.setIfInBounds_toArray, List.set_cons_zero, List.set_cons_succ]
              refine take_yes (i := 8) (oi := { dst := some 7, op := Op.assign (Operand.tmp 52), type := 26, pos := "l11_addrs.go:46", after := #[{ on := 7, ground := Ground.data }, { on := 7, ground := Ground.chain }, { on := 0, ground := Ground.phase }, { on := 1, ground := Ground.phase }, { on := 2, ground := Ground.phase }, { on := 3, ground := Ground.phase }, { on := 4, ground := Ground.phase }, { on := 5, ground := Ground.phase }, { on := 6, ground := Ground.phase }, { on := 7, ground := Ground.phase }], guard := none }) (v := (.slice va28 A3.length va28c)) rfl (by kernel_rfl) (by kernel_rfl) (by kernel_rfl) (fun _ _ _ h => h) (by rfl) (fun w hSw => by (try dsimp only at hSw); go_simp) (by assumption) ?_
              try simp only [Act.put, List.setIfInBounds_toArray, List.set_cons_zero, List.set_cons_succ]
              refine wpAnyH_done (by kernel_rfl) ?_ _
              have hHeld2 := hHeld
              clear hHeld
              obtain ⟨-, -, -, -, f4⟩ := hHeld2
              have HE9 := Lib.hid (And.intro HE26.out (And.intro f4 (And.intro (HLI.out.below f4) (show w3.heap.size ≤ wx25.heap.size from f4.size))))
              clear f4 HE26
              go_upto_region 13 with (at_builtin; go_loud (refine wpList_append_els avK rfl _ _ 26 26 rfl uAv uAv w3.heap.size (.slice va28 A3.length va28c) (.slice a2 A2.length c2) A3 A2 rfl rfl HE9.out.1 HE9.out.2.2.2 (HL.out.2.1 _ HE9.out.2.2.1).rd (by have h1 := HL.out.2.2.2.1; have h2 := HL.out.2.2.2.2; omega) ?_; intro v' w7 hown hgrow hloc; rw [HOS.out] at hown; have HZ := Lib.hid (And.intro (HP3.out.1.full (bd_grown HE9.out.2.1 HE9.out.1 HE9.out.2.2.2 hgrow)) (And.intro (hown.mono HP3.out.2.size (Nat.le_refl _)) (Below.then_ HP3.out.2 (bd_grown HE9.out.2.1 HE9.out.1 HE9.out.2.2.2 hgrow)))); obtain ⟨ya, yc, rfl, -⟩ := hown.form; clear hown hgrow hloc))
              go_wp2_with (fail)
              with_reducible refine (cO _ _ HZ.out.2.1.rd).mono ?_
              rintro e w8 ⟨rfl, hb8⟩
              have HZ8 := Lib.hid (And.intro (HZ.out.1.full hb8) (And.intro (HZ.out.2.1.full hb8) (Below.then_ HZ.out.2.2 hb8)))
              clear hb8 HZ cO
              cases hk : addrsOk os with
              | true =>
                have hr2 := HRS.out
                rw [hk, if_pos rfl] at hr2
                subst hr2
                clear hk
                go_wp2_with (fail)
                go_ret2
                exact ⟨_, rfl, HZ8.out.2.1, HZ8.out.2.2⟩
              | false =>
                have hr2 := HRS.out
                rw [hk, if_neg (by decide)] at hr2
                subst hr2
                clear hk
                go_wp2_with (fail)
                go_ret2
                exact ⟨_, rfl, HZ8.out.1, HZ8.out.2.2⟩
            refine AllReadyH.cons (o := { dst := some 51, op := Op.buildSlice 26 1 #[(0, Operand.tmp 50)], type := 26, pos := "l11_addrs.go:46", after := #[{ on := 5, ground := Ground.data }], guard := none }) rfl (fun K hK => ?_) AllReadyH.nil
            go_simp
            have hbS := below_new wd (.cells #[.int .i64 m.id, .int .i64 m.addr, .bool m.spare, .bool m.told] 32)
            have HG30 := Lib.hid (Cel.new wd 32 #[.int .i64 m.id, .int .i64 m.addr, .bool m.spare, .bool m.told])
            have KK31 := sx_keep hHeld hbS
            clear hbS
            generalize wd.heap.size = gg at *
            generalize wd.alloc (.cells #[.int .i64 m.id, .int .i64 m.addr, .bool m.spare, .bool m.told] 32) = wx29 at *
            refine hK.out _ _ KK31 (fun hHeldN => ?_)
            clear hK K hHeld
            have hHeld := hHeldN
            clear hHeldN
            try simp only [Act.put, List.setIfInBounds_toArray, List.set_cons_zero, List.set_cons_succ]
            refine wpAnyH_ready (rs := [0]) (by kernel_rfl) (by simp) ?_
            refine AllReadyH.cons (o := { dst := some 45, op := Op.buildSlice 26 0 #[], type := 26, pos := "l11_addrs.go:46", after := #[], guard := none }) rfl (fun K hK => ?_) AllReadyH.nil
            go_simp
            have hneg := HG30.out.lt
            have HNE := Lib.hid (show ¬ gg = wx29.heap.size by omega)
            clear hneg
            have hbS := below_new wx29 (.cells #[] 32)
            have HG35 := Lib.hid (HG30.out.kept hbS)
            clear HG30
            have HE33 := Lib.hid (mt_own wx29 w3.heap.size hHeld.2.2.2.2.size)
            have KK34 := sx_keep hHeld hbS
            clear hbS
            generalize wx29.heap.size = ge at *
            generalize wx29.alloc (.cells #[] 32) = wx32 at *
            refine hK.out _ _ KK34 (fun hHeldN => ?_)
            clear hK K hHeld
            have hHeld := hHeldN
            clear hHeldN
            try simp only [Act.put, List.setIfInBounds_toArray, List.set_cons_zero, List.set_cons_succ]
            refine wpAnyH_ready (rs := [4]) (by kernel_rfl) (by simp) ?_
            refine AllReadyH.cons (o := { dst := some 49, op := Op.call { callee := Callee.builtin Builtin.append, args := #[Operand.tmp 45, Operand.tmp 48], argTypes := #[26, 26] }, type := 26, pos := "l11_addrs.go:46", after := #[{ on := 0, ground := Ground.data }, { on := 3, ground := Ground.data }], guard := none }) rfl (fun K hK => ?_) AllReadyH.nil
            refine step_append_els avK rfl _ _ 26 26 rfl uAv uAv w3.heap.size (.slice (some ⟨ge, 0, none⟩) 0 0) (.slice a' k c) [] A1 (by simp [Act.eval, Act.put]) (by simp [Act.eval, Act.put]) HE33.out hHeld.2.2.2.2.size (HL.out.1 _ (HLI.out.below hHeld.2.2.2.2)).rd (by simp; have := HL.out.2.2.1; omega) ?_
            intro v' wx36 hown hgrow hloc
            have KK38 := sx_grown hHeld hgrow (fun g hg => (HE33.out.block g hg).1) HH0.out
            have HG40 := Lib.hid (HG35.out.grown hgrow (fun e => HNE.out (by simpa [Value.ownBlock] using e)))
            clear HG35
            rw [List.nil_append] at hown
            have HE37 := Lib.hid hown
            obtain ⟨va39, va39c, rfl, -⟩ := hown.form
            clear hown hgrow hloc HE33
            refine hK.out _ _ KK38 (fun hHeldN => ?_)
            clear hK K hHeld
            have hHeld := hHeldN
            clear hHeldN
            try simp only [Act.put, List.setIfInBounds_toArray, List.set_cons_zero, List.set_cons_succ]
            refine wpAnyH_ready (rs := [7]) (by kernel_rfl) (by simp) ?_
            refine AllReadyH.cons (o := { dst := some 52, op := Op.call { callee := Callee.builtin Builtin.append, args := #[Operand.tmp 49, Operand.tmp 51], argTypes := #[26, 26] }, type := 26, pos := "l11_addrs.go:46", after := #[{ on := 4, ground := Ground.data }, { on := 6, ground := Ground.data }, { on := 4, ground := Ground.chain }], guard := none }) rfl (fun K hK => ?_) AllReadyH.nil
            refine step_append_els avK rfl _ _ 26 26 rfl uAv uAv w3.heap.size (.slice va39 A1.length va39c) (.slice (some ⟨gg, 0, none⟩) 1 1) A1 [m] (by simp [Act.eval, Act.put]) (by simp [Act.eval, Act.put]) HE37.out hHeld.2.2.2.2.size (rd_box HG40.out) (by have := HL.out.2.2.1; simp; omega) ?_
            intro v' wx41 hown hgrow hloc
            have KK43 := sx_grown hHeld hgrow (fun g hg => (HE37.out.block g hg).1) HH0.out
            rw [HA3.out] at hown
            have HE42 := Lib.hid hown
            obtain ⟨va44, va44c, rfl, -⟩ := hown.form
            clear hown hgrow hloc HE37
            refine hK.out _ _ KK43 (fun hHeldN => ?_)
            clear hK K hHeld
            have hHeld := hHeldN
            clear hHeldN
            try simp only [Act.put, List.setIfInBounds_toArray, List.set_cons_zero, List.set_cons_succ]
            refine take_yes (i := 8) (oi := { dst := some 7, op := Op.assign (Operand.tmp 52), type := 26, pos := "l11_addrs.go:46", after := #[{ on := 7, ground := Ground.data }, { on := 7, ground := Ground.chain }, { on := 0, ground := Ground.phase }, { on := 1, ground := Ground.phase }, { on := 2, ground := Ground.phase }, { on := 3, ground := Ground.phase }, { on := 4, ground := Ground.phase }, { on := 5, ground := Ground.phase }, { on := 6, ground := Ground.phase }, { on := 7, ground := Ground.phase }], guard := none }) (v := (.slice va44 A3.length va44c)) rfl (by kernel_rfl) (by kernel_rfl) (by kernel_rfl) (fun _ _ _ h => h) (by rfl) (fun w hSw => by (try dsimp only at hSw); go_simp) (by assumption) ?_
            try simp only [Act.put, List.setIfInBounds_toArray, List.set_cons_zero, List.set_cons_succ]
            refine wpAnyH_done (by kernel_rfl) ?_ _
            have hHeld2 := hHeld
            clear hHeld
            obtain ⟨-, -, -, -, f4⟩ := hHeld2
            have HE9 := Lib.hid (And.intro HE42.out (And.intro f4 (And.intro (HLI.out.below f4) (show w3.heap.size ≤ wx41.heap.size from f4.size))))
            clear f4 HE42
            go_upto_region 13 with (at_builtin; go_loud (refine wpList_append_els avK rfl _ _ 26 26 rfl uAv uAv w3.heap.size (.slice va44 A3.length va44c) (.slice a2 A2.length c2) A3 A2 rfl rfl HE9.out.1 HE9.out.2.2.2 (HL.out.2.1 _ HE9.out.2.2.1).rd (by have h1 := HL.out.2.2.2.1; have h2 := HL.out.2.2.2.2; omega) ?_; intro v' w7 hown hgrow hloc; rw [HOS.out] at hown; have HZ := Lib.hid (And.intro (HP3.out.1.full (bd_grown HE9.out.2.1 HE9.out.1 HE9.out.2.2.2 hgrow)) (And.intro (hown.mono HP3.out.2.size (Nat.le_refl _)) (Below.then_ HP3.out.2 (bd_grown HE9.out.2.1 HE9.out.1 HE9.out.2.2.2 hgrow)))); obtain ⟨ya, yc, rfl, -⟩ := hown.form; clear hown hgrow hloc))
            go_wp2_with (fail)
            with_reducible refine (cO _ _ HZ.out.2.1.rd).mono ?_
            rintro e w8 ⟨rfl, hb8⟩
            have HZ8 := Lib.hid (And.intro (HZ.out.1.full hb8) (And.intro (HZ.out.2.1.full hb8) (Below.then_ HZ.out.2.2 hb8)))
            clear hb8 HZ cO
            cases hk : addrsOk os with
            | true =>
              have hr2 := HRS.out
              rw [hk, if_pos rfl] at hr2
              subst hr2
              clear hk
              go_wp2_with (fail)
              go_ret2
              exact ⟨_, rfl, HZ8.out.2.1, HZ8.out.2.2⟩
            | false =>
              have hr2 := HRS.out
              rw [hk, if_neg (by decide)] at hr2
              subst hr2
              clear hk
              go_wp2_with (fail)
              go_ret2
              exact ⟨_, rfl, HZ8.out.1, HZ8.out.2.2⟩
        · have hkl : k = ms.length := by omega
          have q : ¬ (k : Int) < (ms.length : Int) := by omega
          have qn : ms.length ≤ k := by omega
          rw [hkl, List.drop_length] at hr
          have hP : k = pl := by rw [← hr, hkl]; simp [placeA]
          have HPK := Lib.hid hP
          clear hP hr hkl hlt
          go_wp2_with (fail)
          have hS9 : True := trivial
          have hBq := hB.drew
          clear hB
          refine wp_region_held_drew (S := fun W => True) (by kernel_rfl) hS9 (fun hHeld => ?_)
          clear hS9
          generalize wr.drew = wq at *
          refine take_yes (i := 0) (oi := { dst := some 29, op := Op.move (Operand.tmp 8), type := 3, pos := "l11_addrs.go:43", after := #[], guard := none }) (v := .int .i64 (k : Int)) rfl (by kernel_rfl) (by kernel_rfl) (by kernel_rfl) (fun _ _ _ h => h) (by rfl) (fun w hSw => by (try dsimp only at hSw); go_simp) (by assumption) ?_
          try simp only [Act.put, List.setIfInBounds_toArray, List.set_cons_zero, List.set_cons_succ]
          refine take_yes (i := 1) (oi := { dst := some 30, op := Op.move (Operand.tmp 0), type := 26, pos := "l11_addrs.go:43", after := #[], guard := none }) (v := .slice a ms.length c) rfl (by kernel_rfl) (by kernel_rfl) (by kernel_rfl) (fun _ _ _ h => h) (by rfl) (fun w hSw => by (try dsimp only at hSw); go_simp) (by assumption) ?_
          try simp only [Act.put, List.setIfInBounds_toArray, List.set_cons_zero, List.set_cons_succ]
          refine take_yes (i := 2) (oi := { dst := some 31, op := Op.call { callee := Callee.builtin Builtin.len, args := #[Operand.tmp 30], argTypes := #[26] }, type := 3, pos := "l11_addrs.go:43", after := #[{ on := 1, ground := Ground.data }], guard := none }) (v := .int .i64 (ms.length : Int)) rfl (by kernel_rfl) (by kernel_rfl) (by kernel_rfl) (fun _ _ _ h => h) (by rfl) (fun w hSw => by (try dsimp only at hSw); go_simp) (by assumption) ?_
          try simp only [Act.put, List.setIfInBounds_toArray, List.set_cons_zero, List.set_cons_succ]
          refine take_yes (i := 3) (oi := { dst := some 32, op := Op.binOp BinOp.lss 3 (Operand.tmp 29) (Operand.tmp 31) 3, type := 4, pos := "l11_addrs.go:43", after := #[{ on := 0, ground := Ground.data }, { on := 2, ground := Ground.data }], guard := none }) (v := .bool false) rfl (by kernel_rfl) (by kernel_rfl) (by kernel_rfl) (fun _ _ _ h => h) (by rfl) (fun w hSw => by (try dsimp only at hSw); go_simp) (by assumption) ?_
          try simp only [Act.put, List.setIfInBounds_toArray, List.set_cons_zero, List.set_cons_succ]
          refine take_yes (i := 4) (oi := { dst := some 33, op := Op.move (Operand.tmp 32), type := 4, pos := "l11_addrs.go:43", after := #[{ on := 3, ground := Ground.data }], guard := none }) (v := .bool false) rfl (by kernel_rfl) (by kernel_rfl) (by kernel_rfl) (fun _ _ _ h => h) (by rfl) (fun w hSw => by (try dsimp only at hSw); go_simp) (by assumption) ?_
          try simp only [Act.put, List.setIfInBounds_toArray, List.set_cons_zero, List.set_cons_succ]
          refine take_no (i := 5) (oi := { dst := some 34, op := Op.move (Operand.tmp 0), type := 26, pos := "l11_addrs.go:43", after := #[{ on := 4, ground := Ground.guard }], guard := some (4, true) }) rfl (by kernel_rfl) (by kernel_rfl) (by kernel_rfl) (fun _ _ _ h => h) (by rfl) (by assumption) ?_
          try simp only [Act.put, List.setIfInBounds_toArray, List.set_cons_zero, List.set_cons_succ]
          refine take_no (i := 6) (oi := { dst := some 35, op := Op.move (Operand.tmp 8), type := 3, pos := "l11_addrs.go:43", after := #[{ on := 4, ground := Ground.guard }], guard := some (4, true) }) rfl (by kernel_rfl) (by kernel_rfl) (by kernel_rfl) (fun _ _ _ h => h) (by rfl) (by assumption) ?_
          try simp only [Act.put, List.setIfInBounds_toArray, List.set_cons_zero, List.set_cons_succ]
          refine take_no (i := 7) (oi := { dst := some 36, op := Op.indexAddr 26 (Operand.tmp 34) (Operand.tmp 35), type := 0, pos := "l11_addrs.go:43", after := #[{ on := 5, ground := Ground.data }, { on := 6, ground := Ground.data }, { on := 4, ground := Ground.guard }], guard := some (4, true) }) rfl (by kernel_rfl) (by kernel_rfl) (by kernel_rfl) (fun _ _ _ h => h) (by rfl) (by assumption) ?_
          try simp only [Act.put, List.setIfInBounds_toArray, List.set_cons_zero, List.set_cons_succ]
          refine take_no (i := 8) (oi := { dst := some 37, op := Op.fieldAddr 32 (Operand.tmp 36) 0, type := 0, pos := "l11_addrs.go:43", after := #[{ on := 7, ground := Ground.data }, { on := 4, ground := Ground.guard }], guard := some (4, true) }) rfl (by kernel_rfl) (by kernel_rfl) (by kernel_rfl) (fun _ _ _ h => h) (by rfl) (by assumption) ?_
          try simp only [Act.put, List.setIfInBounds_toArray, List.set_cons_zero, List.set_cons_succ]
          refine take_no (i := 9) (oi := { dst := some 38, op := Op.load 3 (Operand.tmp 37), type := 3, pos := "l11_addrs.go:43", after := #[{ on := 8, ground := Ground.data }, { on := 4, ground := Ground.guard }], guard := some (4, true) }) rfl (by kernel_rfl) (by kernel_rfl) (by kernel_rfl) (fun _ _ _ h => h) (by rfl) (by assumption) ?_
          try simp only [Act.put, List.setIfInBounds_toArray, List.set_cons_zero, List.set_cons_succ]
          refine take_no (i := 10) (oi := { dst := some 39, op := Op.fieldAddr 32 (Operand.tmp 3) 0, type := 0, pos := "l11_addrs.go:43", after := #[{ on := 4, ground := Ground.guard }], guard := some (4, true) }) rfl (by kernel_rfl) (by kernel_rfl) (by kernel_rfl) (fun _ _ _ h => h) (by rfl) (by assumption) ?_
          try simp only [Act.put, List.setIfInBounds_toArray, List.set_cons_zero, List.set_cons_succ]
          refine take_no (i := 11) (oi := { dst := some 40, op := Op.load 3 (Operand.tmp 39), type := 3, pos := "l11_addrs.go:43", after := #[{ on := 10, ground := Ground.data }, { on := 4, ground := Ground.guard }], guard := some (4, true) }) rfl (by kernel_rfl) (by kernel_rfl) (by kernel_rfl) (fun _ _ _ h => h) (by rfl) (by assumption) ?_
          try simp only [Act.put, List.setIfInBounds_toArray, List.set_cons_zero, List.set_cons_succ]
          refine take_no (i := 12) (oi := { dst := some 41, op := Op.binOp BinOp.lss 3 (Operand.tmp 38) (Operand.tmp 40) 3, type := 4, pos := "l11_addrs.go:43", after := #[{ on := 9, ground := Ground.data }, { on := 11, ground := Ground.data }, { on := 4, ground := Ground.guard }], guard := some (4, true) }) rfl (by kernel_rfl) (by kernel_rfl) (by kernel_rfl) (fun _ _ _ h => h) (by rfl) (by assumption) ?_
          try simp only [Act.put, List.setIfInBounds_toArray, List.set_cons_zero, List.set_cons_succ]
          refine take_yes (i := 13) (oi := { dst := some 42, op := Op.pick (Operand.tmp 33) (Operand.tmp 41) (Operand.const (Value.bool false)), type := 4, pos := "l11_addrs.go:43", after := #[{ on := 4, ground := Ground.data }, { on := 12, ground := Ground.data }], guard := none }) (v := .bool false) rfl (by kernel_rfl) (by kernel_rfl) (by kernel_rfl) (fun _ _ _ h => h) (by rfl) (fun w hSw => by (try dsimp only at hSw); go_simp) (by assumption) ?_
          try simp only [Act.put, List.setIfInBounds_toArray, List.set_cons_zero, List.set_cons_succ]
          refine wpAnyH_done (by kernel_rfl) ?_ _
          have hHeld2 := hHeld
          clear hHeld
          clear hHeld2
          have hP := HPK.out
          have hos := HOS0.out
          rw [← hP] at hos
          obtain ⟨a', hcut, hcutL⟩ := LieE.cut_to (tS := 26) uAv HLI.out k hk
          obtain ⟨a2, c2, hfrom, -, hfromL⟩ := LieE.cut_from (tS := 26) uAv HLI.out k hk
          have hl1 : (ms.take k).length = k := by rw [List.length_take]; omega
          have hl2 : (ms.take k ++ [m]).length = k + 1 := by simp; omega
          have hl3 : (ms.drop k).length ≤ 1048576 := by rw [List.length_drop]; omega
          have hos2 : (ms.take k ++ [m]) ++ ms.drop k = os := by rw [← hos]; simp
          have HL := Lib.hid (And.intro hcutL (And.intro hfromL (And.intro hl1 (And.intro hl2 hl3))))
          clear hP hos hcutL hfromL hl1 hl2 hl3
          generalize hA3 : ms.take k ++ [m] = A3 at *
          have HA3 := Lib.hid hA3
          have HOS := Lib.hid hos2
          clear hA3 hos2
          generalize ms.take k = A1 at *
          generalize ms.drop k = A2 at *
          go_wp2_with (fail)
          have hS := sx_keep HSX.out hBq.drew
          clear hBq
          refine wp_region_held_drew (S := fun W => W.cell? ⟨h0, 0, none⟩ = some (.int .i64 m.id) ∧ W.cell? ⟨h0, 1, none⟩ = some (.int .i64 m.addr) ∧ W.cell? ⟨h0, 2, none⟩ = some (.bool m.spare) ∧ W.cell? ⟨h0, 3, none⟩ = some (.bool m.told) ∧ Below w3.heap.size w3 W) (by kernel_rfl) hS (fun hHeld => ?_)
          clear hS
          generalize wq.drew = wd at *
          refine take_yes (i := 1) (oi := { dst := some 46, op := Op.move (Operand.tmp 0), type := 26, pos := "l11_addrs.go:46", after := #[], guard := none }) (v := .slice a ms.length c) rfl (by kernel_rfl) (by kernel_rfl) (by kernel_rfl) (fun _ _ _ h => h) (by rfl) (fun w hSw => by (try dsimp only at hSw); go_simp) (by assumption) ?_
          try simp only [Act.put, List.setIfInBounds_toArray, List.set_cons_zero, List.set_cons_succ]
          refine take_yes (i := 2) (oi := { dst := some 47, op := Op.move (Operand.tmp 8), type := 3, pos := "l11_addrs.go:46", after := #[], guard := none }) (v := .int .i64 (k : Int)) rfl (by kernel_rfl) (by kernel_rfl) (by kernel_rfl) (fun _ _ _ h => h) (by rfl) (fun w hSw => by (try dsimp only at hSw); go_simp) (by assumption) ?_
          try simp only [Act.put, List.setIfInBounds_toArray, List.set_cons_zero, List.set_cons_succ]
          refine take_yes (i := 3) (oi := { dst := some 48, op := Op.slice 26 (Operand.tmp 46) none (some (Operand.tmp 47)) none, type := 26, pos := "l11_addrs.go:46", after := #[{ on := 1, ground := Ground.data }, { on := 2, ground := Ground.data }], guard := none }) (v := (.slice a' k c)) rfl (by kernel_rfl) (by kernel_rfl) (by kernel_rfl) (fun _ _ _ h => h) (by rfl) (fun w hSw => by (try dsimp only at hSw); go_simp) (by assumption) ?_
          try simp only [Act.put, List.setIfInBounds_toArray, List.set_cons_zero, List.set_cons_succ]
          refine take_yes (i := 5) (oi := { dst := some 50, op := Op.load 32 (Operand.tmp 3), type := 32, pos := "l11_addrs.go:46", after := #[], guard := none }) (v := .agg #[.int .i64 m.id, .int .i64 m.addr, .bool m.spare, .bool m.told]) rfl (by kernel_rfl) (by kernel_rfl) (by kernel_rfl) (fun _ _ _ h => h) (by rfl) (fun w hSw => by (try dsimp only at hSw); go_simp) (by assumption) ?_
          try simp only [Act.put, List.setIfInBounds_toArray, List.set_cons_zero, List.set_cons_succ]
          refine wpAnyH_ready (rs := [0, 6]) (by kernel_rfl) (by simp) ?_
          refine AllReadyH.cons (o := { dst := some 45, op := Op.buildSlice 26 0 #[], type := 26, pos := "l11_addrs.go:46", after := #[], guard := none }) rfl (fun K hK => ?_) ?_
          · go_simp
            have hbS := below_new wd (.cells #[] 32)
            have HE46 := Lib.hid (mt_own wd w3.heap.size hHeld.2.2.2.2.size)
            have KK47 := sx_keep hHeld hbS
            clear hbS
            generalize wd.heap.size = ge at *
            generalize wd.alloc (.cells #[] 32) = wx45 at *
            refine hK.out _ _ KK47 (fun hHeldN => ?_)
            clear hK K hHeld
            have hHeld := hHeldN
            clear hHeldN
            try simp only [Act.put, List.setIfInBounds_toArray, List.set_cons_zero, List.set_cons_succ]
            refine wpAnyH_ready (rs := [4, 6]) (by kernel_rfl) (by simp) ?_
            refine AllReadyH.cons (o := { dst := some 49, op := Op.call { callee := Callee.builtin Builtin.append, args := #[Operand.tmp 45, Operand.tmp 48], argTypes := #[26, 26] }, type := 26, pos := "l11_addrs.go:46", after := #[{ on := 0, ground := Ground.data }, { on := 3, ground := Ground.data }], guard := none }) rfl (fun K hK => ?_) ?_
            · refine step_append_els avK rfl _ _ 26 26 rfl uAv uAv w3.heap.size (.slice (some ⟨ge, 0, none⟩) 0 0) (.slice a' k c) [] A1 (by simp [Act.eval, Act.put]) (by simp [Act.eval, Act.put]) HE46.out hHeld.2.2.2.2.size (HL.out.1 _ (HLI.out.below hHeld.2.2.2.2)).rd (by simp; have := HL.out.2.2.1; omega) ?_
              intro v' wx48 hown hgrow hloc
              have KK50 := sx_grown hHeld hgrow (fun g hg => (HE46.out.block g hg).1) HH0.out
              rw [List.nil_append] at hown
              have HE49 := Lib.hid hown
              obtain ⟨va51, va51c, rfl, -⟩ := hown.form
              clear hown hgrow hloc HE46
              refine hK.out _ _ KK50 (fun hHeldN => ?_)
              clear hK K hHeld
              have hHeld := hHeldN
              clear hHeldN
              try simp only [Act.put, List.setIfInBounds_toArray, List.set_cons_zero, List.set_cons_succ]
              refine wpAnyH_ready (rs := [6]) (by kernel_rfl) (by simp) ?_
              refine AllReadyH.cons (o := { dst := some 51, op := Op.buildSlice 26 1 #[(0, Operand.tmp 50)], type := 26, pos := "l11_addrs.go:46", after := #[{ on := 5, ground := Ground.data }], guard := none }) rfl (fun K hK => ?_) AllReadyH.nil
              go_simp
              have hbS := below_new wx48 (.cells #[.int .i64 m.id, .int .i64 m.addr, .bool m.spare, .bool m.told] 32)
              have HE55 := Lib.hid (HE49.out.full hbS)
              clear HE49
              have HG53 := Lib.hid (Cel.new wx48 32 #[.int .i64 m.id, .int .i64 m.addr, .bool m.spare, .bool m.told])
              have KK54 := sx_keep hHeld hbS
              clear hbS
              generalize wx48.heap.size = gg at *
              generalize wx48.alloc (.cells #[.int .i64 m.id, .int .i64 m.addr, .bool m.spare, .bool m.told] 32) = wx52 at *
              refine hK.out _ _ KK54 (fun hHeldN => ?_)
              clear hK K hHeld
              have hHeld := hHeldN
              clear hHeldN
              try simp only [Act.put, List.setIfInBounds_toArray, List.set_cons_zero, List.set_cons_succ]
              refine wpAnyH_ready (rs := [7]) (by kernel_rfl) (by simp) ?_
              refine AllReadyH.cons (o := { dst := some 52, op := Op.call { callee := Callee.builtin Builtin.append, args := #[Operand.tmp 49, Operand.tmp 51], argTypes := #[26, 26] }, type := 26, pos := "l11_addrs.go:46", after := #[{ on := 4, ground := Ground.data }, { on := 6, ground := Ground.data }, { on := 4, ground := Ground.chain }], guard := none }) rfl (fun K hK => ?_) AllReadyH.nil
              refine step_append_els avK rfl _ _ 26 26 rfl uAv uAv w3.heap.size (.slice va51 A1.length va51c) (.slice (some ⟨gg, 0, none⟩) 1 1) A1 [m] (by simp [Act.eval, Act.put]) (by simp [Act.eval, Act.put]) HE55.out hHeld.2.2.2.2.size (rd_box HG53.out) (by have := HL.out.2.2.1; simp; omega) ?_
              intro v' wx56 hown hgrow hloc
              have KK58 := sx_grown hHeld hgrow (fun g hg => (HE55.out.block g hg).1) HH0.out
              rw [HA3.out] at hown
              have HE57 := Lib.hid hown
              obtain ⟨va59, va59c, rfl, -⟩ := hown.form
              clear hown hgrow hloc HE55
              refine hK.out _ _ KK58 (fun hHeldN => ?_)
              clear hK K hHeld
              have hHeld := hHeldN
              clear hHeldN
              try simp only [Act.put, List.setIfInBounds_toArray, List.set_cons_zero, List.set_cons_succ]
              refine take_yes (i := 8) (oi := { dst := some 7, op := Op.assign (Operand.tmp 52), type := 26, pos := "l11_addrs.go:46", after := #[{ on := 7, ground := Ground.data }, { on := 7, ground := Ground.chain }, { on := 0, ground := Ground.phase }, { on := 1, ground := Ground.phase }, { on := 2, ground := Ground.phase }, { on := 3, ground := Ground.phase }, { on := 4, ground := Ground.phase }, { on := 5, ground := Ground.phase }, { on := 6, ground := Ground.phase }, { on := 7, ground := Ground.phase }], guard := none }) (v := (.slice va59 A3.length va59c)) rfl (by kernel_rfl) (by kernel_rfl) (by kernel_rfl) (fun _ _ _ h => h) (by rfl) (fun w hSw => by (try dsimp only at hSw); go_simp) (by assumption) ?_
              try simp only [Act.put, List.setIfInBounds_toArray, List.set_cons_zero, List.set_cons_succ]
              refine wpAnyH_done (by kernel_rfl) ?_ _
              have hHeld2 := hHeld
              clear hHeld
              obtain ⟨-, -, -, -, f4⟩ := hHeld2
              have HE9 := Lib.hid (And.intro HE57.out (And.intro f4 (And.intro (HLI.out.below f4) (show w3.heap.size ≤ wx56.heap.size from f4.size))))
              clear f4 HE57
              go_upto_region 13 with (at_builtin; go_loud (refine wpList_append_els avK rfl _ _ 26 26 rfl uAv uAv w3.heap.size (.slice va59 A3.length va59c) (.slice a2 A2.length c2) A3 A2 rfl rfl HE9.out.1 HE9.out.2.2.2 (HL.out.2.1 _ HE9.out.2.2.1).rd (by have h1 := HL.out.2.2.2.1; have h2 := HL.out.2.2.2.2; omega) ?_; intro v' w7 hown hgrow hloc; rw [HOS.out] at hown; have HZ := Lib.hid (And.intro (HP3.out.1.full (bd_grown HE9.out.2.1 HE9.out.1 HE9.out.2.2.2 hgrow)) (And.intro (hown.mono HP3.out.2.size (Nat.le_refl _)) (Below.then_ HP3.out.2 (bd_grown HE9.out.2.1 HE9.out.1 HE9.out.2.2.2 hgrow)))); obtain ⟨ya, yc, rfl, -⟩ := hown.form; clear hown hgrow hloc))
              go_wp2_with (fail)
              with_reducible refine (cO _ _ HZ.out.2.1.rd).mono ?_
              rintro e w8 ⟨rfl, hb8⟩
              have HZ8 := Lib.hid (And.intro (HZ.out.1.full hb8) (And.intro (HZ.out.2.1.full hb8) (Below.then_ HZ.out.2.2 hb8)))
              clear hb8 HZ cO
              cases hk : addrsOk os with
              | true =>
                have hr2 := HRS.out
                rw [hk, if_pos rfl] at hr2
                subst hr2
                clear hk
                go_wp2_with (fail)
                go_ret2
                exact ⟨_, rfl, HZ8.out.2.1, HZ8.out.2.2⟩
              | false =>
                have hr2 := HRS.out
                rw [hk, if_neg (by decide)] at hr2
                subst hr2
                clear hk
                go_wp2_with (fail)
                go_ret2
                exact ⟨_, rfl, HZ8.out.1, HZ8.out.2.2⟩
            refine AllReadyH.cons (o := { dst := some 51, op := Op.buildSlice 26 1 #[(0, Operand.tmp 50)], type := 26, pos := "l11_addrs.go:46", after := #[{ on := 5, ground := Ground.data }], guard := none }) rfl (fun K hK => ?_) AllReadyH.nil
            go_simp
            have hneg := HE46.out.lt
            have HNE := Lib.hid (show ¬ wx45.heap.size = ge by omega)
            clear hneg
            have hbS := below_new wx45 (.cells #[.int .i64 m.id, .int .i64 m.addr, .bool m.spare, .bool m.told] 32)
            have HE63 := Lib.hid (HE46.out.full hbS)
            clear HE46
            have HG61 := Lib.hid (Cel.new wx45 32 #[.int .i64 m.id, .int .i64 m.addr, .bool m.spare, .bool m.told])
            have KK62 := sx_keep hHeld hbS
            clear hbS
            generalize wx45.heap.size = gg at *
            generalize wx45.alloc (.cells #[.int .i64 m.id, .int .i64 m.addr, .bool m.spare, .bool m.told] 32) = wx60 at *
            refine hK.out _ _ KK62 (fun hHeldN => ?_)
            clear hK K hHeld
            have hHeld := hHeldN
            clear hHeldN
            try simp only [Act.put, List.setIfInBounds_toArray, List.set_cons_zero, List.set_cons_succ]
            refine wpAnyH_ready (rs := [4]) (by kernel_rfl) (by simp) ?_
            refine AllReadyH.cons (o := { dst := some 49, op := Op.call { callee := Callee.builtin Builtin.append, args := #[Operand.tmp 45, Operand.tmp 48], argTypes := #[26, 26] }, type := 26, pos := "l11_addrs.go:46", after := #[{ on := 0, ground := Ground.data }, { on := 3, ground := Ground.data }], guard := none }) rfl (fun K hK => ?_) AllReadyH.nil
            refine step_append_els avK rfl _ _ 26 26 rfl uAv uAv w3.heap.size (.slice (some ⟨ge, 0, none⟩) 0 0) (.slice a' k c) [] A1 (by simp [Act.eval, Act.put]) (by simp [Act.eval, Act.put]) HE63.out hHeld.2.2.2.2.size (HL.out.1 _ (HLI.out.below hHeld.2.2.2.2)).rd (by simp; have := HL.out.2.2.1; omega) ?_
            intro v' wx64 hown hgrow hloc
            have KK66 := sx_grown hHeld hgrow (fun g hg => (HE63.out.block g hg).1) HH0.out
            have HG68 := Lib.hid (HG61.out.grown hgrow (fun e => HNE.out (by simpa [Value.ownBlock] using e)))
            clear HG61
            rw [List.nil_append] at hown
            have HE65 := Lib.hid hown
            obtain ⟨va67, va67c, rfl, -⟩ := hown.form
            clear hown hgrow hloc HE63
            refine hK.out _ _ KK66 (fun hHeldN => ?_)
            clear hK K hHeld
            have hHeld := hHeldN
            clear hHeldN
            try simp only [Act.put, List.setIfInBounds_toArray, List.set_cons_zero, List.set_cons_succ]
            refine wpAnyH_ready (rs := [7]) (by kernel_rfl) (by simp) ?_
            refine AllReadyH.cons (o := { dst := some 52, op := Op.call { callee := Callee.builtin Builtin.append, args := #[Operand.tmp 49, Operand.tmp 51], argTypes := #[26, 26] }, type := 26, pos := "l11_addrs.go:46", after := #[{ on := 4, ground := Ground.data }, { on := 6, ground := Ground.data }, { on := 4, ground := Ground.chain }], guard := none }) rfl (fun K hK => ?_) AllReadyH.nil
            refine step_append_els avK rfl _ _ 26 26 rfl uAv uAv w3.heap.size (.slice va67 A1.length va67c) (.slice (some ⟨gg, 0, none⟩) 1 1) A1 [m] (by simp [Act.eval, Act.put]) (by simp [Act.eval, Act.put]) HE65.out hHeld.2.2.2.2.size (rd_box HG68.out) (by have := HL.out.2.2.1; simp; omega) ?_
            intro v' wx69 hown hgrow hloc
            have KK71 := sx_grown hHeld hgrow (fun g hg => (HE65.out.block g hg).1) HH0.out
            rw [HA3.out] at hown
            have HE70 := Lib.hid hown
            obtain ⟨va72, va72c, rfl, -⟩ := hown.form
            clear hown hgrow hloc HE65
            refine hK.out _ _ KK71 (fun hHeldN => ?_)
            clear hK K hHeld
            have hHeld := hHeldN
            clear hHeldN
            try simp only [Act.put, List.setIfInBounds_toArray, List.set_cons_zero, List.set_cons_succ]
            refine take_yes (i := 8) (oi := { dst := some 7, op := Op.assign (Operand.tmp 52), type := 26, pos := "l11_addrs.go:46", after := #[{ on := 7, ground := Ground.data }, { on := 7, ground := Ground.chain }, { on := 0, ground := Ground.phase }, { on := 1, ground := Ground.phase }, { on := 2, ground := Ground.phase }, { on := 3, ground := Ground.phase }, { on := 4, ground := Ground.phase }, { on := 5, ground := Ground.phase }, { on := 6, ground := Ground.phase }, { on := 7, ground := Ground.phase }], guard := none }) (v := (.slice va72 A3.length va72c)) rfl (by kernel_rfl) (by kernel_rfl) (by kernel_rfl) (fun _ _ _ h => h) (by rfl) (fun w hSw => by (try dsimp only at hSw); go_simp) (by assumption) ?_
            try simp only [Act.put, List.setIfInBounds_toArray, List.set_cons_zero, List.set_cons_succ]
            refine wpAnyH_done (by kernel_rfl) ?_ _
            have hHeld2 := hHeld
            clear hHeld
            obtain ⟨-, -, -, -, f4⟩ := hHeld2
            have HE9 := Lib.hid (And.intro HE70.out (And.intro f4 (And.intro (HLI.out.below f4) (show w3.heap.size ≤ wx69.heap.size from f4.size))))
            clear f4 HE70
            go_upto_region 13 with (at_builtin; go_loud (refine wpList_append_els avK rfl _ _ 26 26 rfl uAv uAv w3.heap.size (.slice va72 A3.length va72c) (.slice a2 A2.length c2) A3 A2 rfl rfl HE9.out.1 HE9.out.2.2.2 (HL.out.2.1 _ HE9.out.2.2.1).rd (by have h1 := HL.out.2.2.2.1; have h2 := HL.out.2.2.2.2; omega) ?_; intro v' w7 hown hgrow hloc; rw [HOS.out] at hown; have HZ := Lib.hid (And.intro (HP3.out.1.full (bd_grown HE9.out.2.1 HE9.out.1 HE9.out.2.2.2 hgrow)) (And.intro (hown.mono HP3.out.2.size (Nat.le_refl _)) (Below.then_ HP3.out.2 (bd_grown HE9.out.2.1 HE9.out.1 HE9.out.2.2.2 hgrow)))); obtain ⟨ya, yc, rfl, -⟩ := hown.form; clear hown hgrow hloc))
            go_wp2_with (fail)
            with_reducible refine (cO _ _ HZ.out.2.1.rd).mono ?_
            rintro e w8 ⟨rfl, hb8⟩
            have HZ8 := Lib.hid (And.intro (HZ.out.1.full hb8) (And.intro (HZ.out.2.1.full hb8) (Below.then_ HZ.out.2.2 hb8)))
            clear hb8 HZ cO
            cases hk : addrsOk os with
            | true =>
              have hr2 := HRS.out
              rw [hk, if_pos rfl] at hr2
              subst hr2
              clear hk
              go_wp2_with (fail)
              go_ret2
              exact ⟨_, rfl, HZ8.out.2.1, HZ8.out.2.2⟩
            | false =>
              have hr2 := HRS.out
              rw [hk, if_neg (by decide)] at hr2
              subst hr2
              clear hk
              go_wp2_with (fail)
              go_ret2
              exact ⟨_, rfl, HZ8.out.1, HZ8.out.2.2⟩
          refine AllReadyH.cons (o := { dst := some 51, op := Op.buildSlice 26 1 #[(0, Operand.tmp 50)], type := 26, pos := "l11_addrs.go:46", after := #[{ on := 5, ground := Ground.data }], guard := none }) rfl (fun K hK => ?_) AllReadyH.nil
          go_simp
          have hbS := below_new wd (.cells #[.int .i64 m.id, .int .i64 m.addr, .bool m.spare, .bool m.told] 32)
          have HG74 := Lib.hid (Cel.new wd 32 #[.int .i64 m.id, .int .i64 m.addr, .bool m.spare, .bool m.told])
          have KK75 := sx_keep hHeld hbS
          clear hbS
          generalize wd.heap.size = gg at *
          generalize wd.alloc (.cells #[.int .i64 m.id, .int .i64 m.addr, .bool m.spare, .bool m.told] 32) = wx73 at *
          refine hK.out _ _ KK75 (fun hHeldN => ?_)
          clear hK K hHeld
          have hHeld := hHeldN
          clear hHeldN
          try simp only [Act.put, List.setIfInBounds_toArray, List.set_cons_zero, List.set_cons_succ]
          refine wpAnyH_ready (rs := [0]) (by kernel_rfl) (by simp) ?_
          refine AllReadyH.cons (o := { dst := some 45, op := Op.buildSlice 26 0 #[], type := 26, pos := "l11_addrs.go:46", after := #[], guard := none }) rfl (fun K hK => ?_) AllReadyH.nil
          go_simp
          have hneg := HG74.out.lt
          have HNE := Lib.hid (show ¬ gg = wx73.heap.size by omega)
          clear hneg
          have hbS := below_new wx73 (.cells #[] 32)
          have HG79 := Lib.hid (HG74.out.kept hbS)
          clear HG74
          have HE77 := Lib.hid (mt_own wx73 w3.heap.size hHeld.2.2.2.2.size)
          have KK78 := sx_keep hHeld hbS
          clear hbS
          generalize wx73.heap.size = ge at *
          generalize wx73.alloc (.cells #[] 32) = wx76 at *
          refine hK.out _ _ KK78 (fun hHeldN => ?_)
          clear hK K hHeld
          have hHeld := hHeldN
          clear hHeldN
          try simp only [Act.put, List.setIfInBounds_toArray, List.set_cons_zero, List.set_cons_succ]
          refine wpAnyH_ready (rs := [4]) (by kernel_rfl) (by simp) ?_
          refine AllReadyH.cons (o := { dst := some 49, op := Op.call { callee := Callee.builtin Builtin.append, args := #[Operand.tmp 45, Operand.tmp 48], argTypes := #[26, 26] }, type := 26, pos := "l11_addrs.go:46", after := #[{ on := 0, ground := Ground.data }, { on := 3, ground := Ground.data }], guard := none }) rfl (fun K hK => ?_) AllReadyH.nil
          refine step_append_els avK rfl _ _ 26 26 rfl uAv uAv w3.heap.size (.slice (some ⟨ge, 0, none⟩) 0 0) (.slice a' k c) [] A1 (by simp [Act.eval, Act.put]) (by simp [Act.eval, Act.put]) HE77.out hHeld.2.2.2.2.size (HL.out.1 _ (HLI.out.below hHeld.2.2.2.2)).rd (by simp; have := HL.out.2.2.1; omega) ?_
          intro v' wx80 hown hgrow hloc
          have KK82 := sx_grown hHeld hgrow (fun g hg => (HE77.out.block g hg).1) HH0.out
          have HG84 := Lib.hid (HG79.out.grown hgrow (fun e => HNE.out (by simpa [Value.ownBlock] using e)))
          clear HG79
          rw [List.nil_append] at hown
          have HE81 := Lib.hid hown
          obtain ⟨va83, va83c, rfl, -⟩ := hown.form
          clear hown hgrow hloc HE77
          refine hK.out _ _ KK82 (fun hHeldN => ?_)
          clear hK K hHeld
          have hHeld := hHeldN
          clear hHeldN
          try simp only [Act.put, List.setIfInBounds_toArray, List.set_cons_zero, List.set_cons_succ]
          refine wpAnyH_ready (rs := [7]) (by kernel_rfl) (by simp) ?_
          refine AllReadyH.cons (o := { dst := some 52, op := Op.call { callee := Callee.builtin Builtin.append, args := #[Operand.tmp 49, Operand.tmp 51], argTypes := #[26, 26] }, type := 26, pos := "l11_addrs.go:46", after := #[{ on := 4, ground := Ground.data }, { on := 6, ground := Ground.data }, { on := 4, ground := Ground.chain }], guard := none }) rfl (fun K hK => ?_) AllReadyH.nil
          refine step_append_els avK rfl _ _ 26 26 rfl uAv uAv w3.heap.size (.slice va83 A1.length va83c) (.slice (some ⟨gg, 0, none⟩) 1 1) A1 [m] (by simp [Act.eval, Act.put]) (by simp [Act.eval, Act.put]) HE81.out hHeld.2.2.2.2.size (rd_box HG84.out) (by have := HL.out.2.2.1; simp; omega) ?_
          intro v' wx85 hown hgrow hloc
          have KK87 := sx_grown hHeld hgrow (fun g hg => (HE81.out.block g hg).1) HH0.out
          rw [HA3.out] at hown
          have HE86 := Lib.hid hown
          obtain ⟨va88, va88c, rfl, -⟩ := hown.form
          clear hown hgrow hloc HE81
          refine hK.out _ _ KK87 (fun hHeldN => ?_)
          clear hK K hHeld
          have hHeld := hHeldN
          clear hHeldN
          try simp only [Act.put, List.setIfInBounds_toArray, List.set_cons_zero, List.set_cons_succ]
          refine take_yes (i := 8) (oi := { dst := some 7, op := Op.assign (Operand.tmp 52), type := 26, pos := "l11_addrs.go:46", after := #[{ on := 7, ground := Ground.data }, { on := 7, ground := Ground.chain }, { on := 0, ground := Ground.phase }, { on := 1, ground := Ground.phase }, { on := 2, ground := Ground.phase }, { on := 3, ground := Ground.phase }, { on := 4, ground := Ground.phase }, { on := 5, ground := Ground.phase }, { on := 6, ground := Ground.phase }, { on := 7, ground := Ground.phase }], guard := none }) (v := (.slice va88 A3.length va88c)) rfl (by kernel_rfl) (by kernel_rfl) (by kernel_rfl) (fun _ _ _ h => h) (by rfl) (fun w hSw => by (try dsimp only at hSw); go_simp) (by assumption) ?_
          try simp only [Act.put, List.setIfInBounds_toArray, List.set_cons_zero, List.set_cons_succ]
          refine wpAnyH_done (by kernel_rfl) ?_ _
          have hHeld2 := hHeld
          clear hHeld
          obtain ⟨-, -, -, -, f4⟩ := hHeld2
          have HE9 := Lib.hid (And.intro HE86.out (And.intro f4 (And.intro (HLI.out.below f4) (show w3.heap.size ≤ wx85.heap.size from f4.size))))
          clear f4 HE86
          go_upto_region 13 with (at_builtin; go_loud (refine wpList_append_els avK rfl _ _ 26 26 rfl uAv uAv w3.heap.size (.slice va88 A3.length va88c) (.slice a2 A2.length c2) A3 A2 rfl rfl HE9.out.1 HE9.out.2.2.2 (HL.out.2.1 _ HE9.out.2.2.1).rd (by have h1 := HL.out.2.2.2.1; have h2 := HL.out.2.2.2.2; omega) ?_; intro v' w7 hown hgrow hloc; rw [HOS.out] at hown; have HZ := Lib.hid (And.intro (HP3.out.1.full (bd_grown HE9.out.2.1 HE9.out.1 HE9.out.2.2.2 hgrow)) (And.intro (hown.mono HP3.out.2.size (Nat.le_refl _)) (Below.then_ HP3.out.2 (bd_grown HE9.out.2.1 HE9.out.1 HE9.out.2.2.2 hgrow)))); obtain ⟨ya, yc, rfl, -⟩ := hown.form; clear hown hgrow hloc))
          go_wp2_with (fail)
          with_reducible refine (cO _ _ HZ.out.2.1.rd).mono ?_
          rintro e w8 ⟨rfl, hb8⟩
          have HZ8 := Lib.hid (And.intro (HZ.out.1.full hb8) (And.intro (HZ.out.2.1.full hb8) (Below.then_ HZ.out.2.2 hb8)))
          clear hb8 HZ cO
          cases hk : addrsOk os with
          | true =>
            have hr2 := HRS.out
            rw [hk, if_pos rfl] at hr2
            subst hr2
            clear hk
            go_wp2_with (fail)
            go_ret2
            exact ⟨_, rfl, HZ8.out.2.1, HZ8.out.2.2⟩
          | false =>
            have hr2 := HRS.out
            rw [hk, if_neg (by decide)] at hr2
            subst hr2
            clear hk
            go_wp2_with (fail)
            go_ret2
            exact ⟨_, rfl, HZ8.out.1, HZ8.out.2.2⟩
end Go.Proofs.Ytmokepopmfcdnaa
