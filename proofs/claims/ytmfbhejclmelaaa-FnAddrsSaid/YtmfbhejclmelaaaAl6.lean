import Derived.Test.YtmfbhejclmelaaaAl5
namespace Go.Proofs.Ytmfbhejclmelaaa
open Go.RowKit

theorem s8_keep {w5 W W' : World} {b off k bt : Nat} {m : Av} (h : W.cell? ⟨b, off + k * 4, none⟩ = some (.int .i64 m.id) ∧ W.cell? ⟨b, off + k * 4 + 1, none⟩ = some (.int .i64 m.addr) ∧ W.cell? ⟨b, off + k * 4 + 2, none⟩ = some (.bool m.spare) ∧ W.cell? ⟨b, off + k * 4 + 3, none⟩ = some (.bool m.told) ∧ W.cell? ⟨bt, 0, none⟩ = some (.int .i64 m.id) ∧ W.cell? ⟨bt, 1, none⟩ = some (.int .i64 m.addr) ∧ W.cell? ⟨bt, 2, none⟩ = some (.bool m.spare) ∧ W.cell? ⟨bt, 3, none⟩ = some (.bool m.told) ∧ Below w5.heap.size w5 W) (hb : Below W.heap.size W W') : W'.cell? ⟨b, off + k * 4, none⟩ = some (.int .i64 m.id) ∧ W'.cell? ⟨b, off + k * 4 + 1, none⟩ = some (.int .i64 m.addr) ∧ W'.cell? ⟨b, off + k * 4 + 2, none⟩ = some (.bool m.spare) ∧ W'.cell? ⟨b, off + k * 4 + 3, none⟩ = some (.bool m.told) ∧ W'.cell? ⟨bt, 0, none⟩ = some (.int .i64 m.id) ∧ W'.cell? ⟨bt, 1, none⟩ = some (.int .i64 m.addr) ∧ W'.cell? ⟨bt, 2, none⟩ = some (.bool m.spare) ∧ W'.cell? ⟨bt, 3, none⟩ = some (.bool m.told) ∧ Below w5.heap.size w5 W' :=
  ⟨keepc' h.1 hb, keepc' h.2.1 hb, keepc' h.2.2.1 hb, keepc' h.2.2.2.1 hb, keepc' h.2.2.2.2.1 hb, keepc' h.2.2.2.2.2.1 hb, keepc' h.2.2.2.2.2.2.1 hb, keepc' h.2.2.2.2.2.2.2.1 hb, Below.then_ h.2.2.2.2.2.2.2.2 hb⟩
theorem drop_hit {os : List Av} {id : Int} {k : Nat} (h : atA id os = some k) : dropA os id = (os.take k ++ os.drop (k + 1), true) := by
  unfold dropA
  rw [h]

set_option linter.unusedSimpArgs false in
set_option maxRecDepth 100000 in
set_option maxHeartbeats 8000000 in
theorem fnaddrs_law (v : Value) (w : World) (n : Nat) (hr : RdB w v n) :
    Calls Try.prog 3 #[v] w fun e w' => e = .returned (.bool true) ∧ Below w.heap.size w w' := by
  have cb := big_call v n w hr
  by_cases hn : 1048576 < n
  · rw [decide_eq_true hn] at cb
    clear hn hr
    go_enter Try.func3, Try.ntmps3
    go_wp2_with (fail)
    with_reducible refine cb.mono ?_
    rintro e w1 ⟨rfl, rfl⟩
    go_wp2_with (fail)
    go_ret
    exact ⟨rfl, Below.refl _ _⟩
  · rw [decide_eq_false hn] at cb
    have cp := draw_putAddr v n w hr (by omega)
    clear hn hr
    go_enter Try.func3, Try.ntmps3
    go_wp2_with (fail)
    with_reducible refine cb.mono ?_
    rintro e w0 ⟨rfl, rfl⟩
    clear cb
    go_wp2_with (fail)
    with_reducible refine cp.mono ?_
    rintro e w1 ⟨u, ms, m, rfl, hO, hl, hwf, hm, hb1⟩
    clear cp
    obtain ⟨ua, uc, rfl, -⟩ := hO.form
    have hb2 := below_av w1 m
    have hC2 := Cel.new w1 26 #[.int .i64 m.id, .int .i64 m.addr, .bool m.spare, .bool m.told]
    obtain ⟨c0, c1, c2, c3⟩ := cel4a hC2
    have cP := impl_putAddr (.slice ua ms.length uc) ms m _ (hO.rd.below hb2) (by omega) hwf hm
    have HW := Lib.hid (And.intro (hO.full hb2) (And.intro (Below.then_ hb1 hb2) (And.intro hC2 (And.intro hwf (And.intro hm hl)))))
    have HL := Lib.hid hl
    clear hO hwf hb1 hb2 hC2 hl
    by_cases hok : addrsOk (outA ms m) = true
    · have hp : putA ms m = (outA ms m, true) := by unfold putA; rw [if_pos hok]
      rw [hp] at cP
      have hwo := out_wf HW.out.2.2.2.1 hm
      obtain ⟨k, hk, hat, hget⟩ := out_at ms m
      have hol := (outA_len ms m).2
      obtain ⟨h6, hgo⟩ := ok_len hok
      have hnone := okGo_less hgo m.id k hat
      have hdr := drop_hit hat
      have hun := untold_less (outA ms m) k hk
      rw [hget] at hun
      have hll : ((outA ms m).take k ++ (outA ms m).drop (k + 1)).length = (outA ms m).length - 1 := by simp; omega
      have ha1 : atInt (outA ms m) m.id = (k : Int) := by unfold atInt; rw [hat]
      have ha2 : atInt ((outA ms m).take k ++ (outA ms m).drop (k + 1)) m.id = -1 := by unfold atInt; rw [hnone]
      have hul := untold_len (outA ms m)
      have cA := fun u W h => impl_addrAt u (outA ms m) m.id W h (by omega)
      have cO := fun u W h => spec_addrsOk u (outA ms m) W h (by omega)
      have cI := fun u W B C h => impl_addrsOk u (outA ms m) B C W h (by omega)
      have cD := fun u W h => impl_dropAddr u (outA ms m) m.id W h (by omega) hwo hm
      have cU := fun u W h => impl_untold u (outA ms m) W h (by omega)
      have cU2 := fun u W h => impl_untold u ((outA ms m).take k ++ (outA ms m).drop (k + 1)) W h (by omega)
      have cA2 := fun u W h => impl_addrAt u ((outA ms m).take k ++ (outA ms m).drop (k + 1)) m.id W h (by omega)
      rw [hok] at cO cI
      rw [hdr] at cD
      rw [ha1] at cA
      rw [ha2] at cA2
      simp only at cD
      have hn1 : (untoldA (outA ms m)).length = (untoldA ((outA ms m).take k ++ (outA ms m).drop (k + 1))).length + (if m.told = true then 0 else 1) := hun
      have HG := Lib.hid hget
      have HLL := Lib.hid hll
      have HN1 := Lib.hid hn1
      clear hll hn1 hp hwo hat hgo hnone hdr hun ha1 ha2 hok hget hm
      generalize (outA ms m).take k ++ (outA ms m).drop (k + 1) = ls at *
      generalize outA ms m = os at *
      go_wp2_with (fail)
      generalize hbt : w1.heap.size = bt at *
      generalize w1.alloc (.cells #[.int .i64 m.id, .int .i64 m.addr, .bool m.spare, .bool m.told] 26) = w2 at *
      clear hbt
      with_reducible refine cP.mono ?_
      rintro e w3 ⟨v3, rfl, hO3, hb3⟩
      obtain ⟨oa, oc, rfl, -⟩ := hO3.form
      have HO3 := Lib.hid (And.intro hO3 (And.intro (Below.then_ HW.out.2.1 hb3) (HW.out.2.2.1.kept hb3)))
      obtain ⟨c0, c1, c2, c3⟩ := cel4a (HW.out.2.2.1.kept hb3)
      clear cP hO3 hb3
      go_wp2_with (fail)
      with_reducible refine (cA _ _ HO3.out.1.rd).mono ?_
      rintro e w5 ⟨rfl, hb5⟩
      have HO5 := Lib.hid (And.intro (HO3.out.1.full hb5) (And.intro (Below.then_ HO3.out.2.1 hb5) (HO3.out.2.2.kept hb5)))
      obtain ⟨b, off, hae, -, k0, k1, k2, k3, -⟩ := av_at (P := Try.prog) HO5.out.1.rd k hk
      rw [HG.out] at k0 k1 k2 k3
      subst hae
      obtain ⟨d0, d1, d2, d3⟩ := cel4a HO5.out.2.2
      have qk : (0 : Int) ≤ (k : Int) ∧ (k : Int) < (os.length : Int) := by omega
      have hne := fun W => neq_av m m W false (by simp)
      have hS := s8_keep (w5 := w5) ⟨k0, k1, k2, k3, d0, d1, d2, d3, Below.refl _ _⟩ (show Below _ _ (World.drew _) from (Below.refl _ _).drew)
      clear cA hb5 HO3 k0 k1 k2 k3 d0 d1 d2 d3 c0 c1 c2 c3
      go_wp2_with (fail)
      refine wp_region_held_drew (S := fun W => W.cell? ⟨b, off + k * 4, none⟩ = some (.int .i64 m.id) ∧ W.cell? ⟨b, off + k * 4 + 1, none⟩ = some (.int .i64 m.addr) ∧ W.cell? ⟨b, off + k * 4 + 2, none⟩ = some (.bool m.spare) ∧ W.cell? ⟨b, off + k * 4 + 3, none⟩ = some (.bool m.told) ∧ W.cell? ⟨bt, 0, none⟩ = some (.int .i64 m.id) ∧ W.cell? ⟨bt, 1, none⟩ = some (.int .i64 m.addr) ∧ W.cell? ⟨bt, 2, none⟩ = some (.bool m.spare) ∧ W.cell? ⟨bt, 3, none⟩ = some (.bool m.told) ∧ Below w5.heap.size w5 W) (by kernel_rfl) hS (fun hHeld => ?_)
      clear hS
      refine take_yes (i := 0) (oi := { dst := some 33, op := Op.move (Operand.tmp 5), type := 24, pos := "laws.go:503", after := #[], guard := none }) (v := .slice (some ⟨b, off, none⟩) os.length oc) rfl (by kernel_rfl) (by kernel_rfl) (by kernel_rfl) (fun _ _ _ h => h) (by rfl) (fun w hSw => by (try dsimp only at hSw); go_simp) (by assumption) ?_
      try simp only [Act.put, List.setIfInBounds_toArray, List.set_cons_zero, List.set_cons_succ]
      refine wpAnyH_ready (rs := [1]) (by kernel_rfl) (by simp) ?_
      refine AllReadyH.cons (o := { dst := some 34, op := Op.call { callee := Callee.value (Operand.func 14), args := #[Operand.tmp 33], argTypes := #[24] }, type := 4, pos := "laws.go:503", after := #[{ on := 0, ground := Ground.data }], guard := none }) rfl (fun K hK => ?_) AllReadyH.nil
      go_simp
      with_reducible refine (cO _ _ (HO5.out.1.rd.below hHeld.2.2.2.2.2.2.2.2)).mono ?_
      rintro e w6 ⟨rfl, hb6⟩
      have K6 := s8_keep hHeld hb6
      refine hK.out _ _ K6 (fun hHeldN => ?_)
      clear hK K hHeld
      have hHeld := hHeldN
      clear hHeldN
      try simp only [Act.put, List.setIfInBounds_toArray, List.set_cons_zero, List.set_cons_succ]
      refine take_yes (i := 2) (oi := { dst := some 35, op := Op.unOp UnOp.not 4 (Operand.tmp 34), type := 4, pos := "laws.go:503", after := #[{ on := 1, ground := Ground.data }], guard := none }) (v := .bool false) rfl (by kernel_rfl) (by kernel_rfl) (by kernel_rfl) (fun _ _ _ h => h) (by rfl) (fun w hSw => by (try dsimp only at hSw); go_simp) (by assumption) ?_
      try simp only [Act.put, List.setIfInBounds_toArray, List.set_cons_zero, List.set_cons_succ]
      refine take_yes (i := 3) (oi := { dst := some 36, op := Op.move (Operand.tmp 35), type := 4, pos := "laws.go:503", after := #[{ on := 2, ground := Ground.data }, { on := 1, ground := Ground.chain }], guard := none }) (v := .bool false) rfl (by kernel_rfl) (by kernel_rfl) (by kernel_rfl) (fun _ _ _ h => h) (by rfl) (fun w hSw => by (try dsimp only at hSw); go_simp) (by assumption) ?_
      try simp only [Act.put, List.setIfInBounds_toArray, List.set_cons_zero, List.set_cons_succ]
      refine take_yes (i := 4) (oi := { dst := some 37, op := Op.move (Operand.tmp 7), type := 3, pos := "laws.go:503", after := #[{ on := 3, ground := Ground.guard }], guard := some (3, false) }) (v := .int .i64 (k : Int)) rfl (by kernel_rfl) (by kernel_rfl) (by kernel_rfl) (fun _ _ _ h => h) (by rfl) (fun w hSw => by (try dsimp only at hSw); go_simp) (by assumption) ?_
      try simp only [Act.put, List.setIfInBounds_toArray, List.set_cons_zero, List.set_cons_succ]
      refine take_yes (i := 5) (oi := { dst := some 38, op := Op.binOp BinOp.lss 3 (Operand.tmp 37) (Operand.const (Value.int IntKind.i64 0)) 3, type := 4, pos := "laws.go:503", after := #[{ on := 4, ground := Ground.data }, { on := 3, ground := Ground.guard }], guard := some (3, false) }) (v := .bool false) rfl (by kernel_rfl) (by kernel_rfl) (by kernel_rfl) (fun _ _ _ h => h) (by rfl) (fun w hSw => by (try dsimp only at hSw); go_simp) (by assumption) ?_
      try simp only [Act.put, List.setIfInBounds_toArray, List.set_cons_zero, List.set_cons_succ]
      refine take_yes (i := 6) (oi := { dst := some 39, op := Op.pick (Operand.tmp 36) (Operand.const (Value.bool true)) (Operand.tmp 38), type := 4, pos := "laws.go:503", after := #[{ on := 3, ground := Ground.data }, { on := 5, ground := Ground.data }], guard := none }) (v := .bool false) rfl (by kernel_rfl) (by kernel_rfl) (by kernel_rfl) (fun _ _ _ h => h) (by rfl) (fun w hSw => by (try dsimp only at hSw); go_simp) (by assumption) ?_
      try simp only [Act.put, List.setIfInBounds_toArray, List.set_cons_zero, List.set_cons_succ]
      refine take_yes (i := 7) (oi := { dst := some 40, op := Op.move (Operand.tmp 39), type := 4, pos := "laws.go:503", after := #[{ on := 6, ground := Ground.data }, { on := 3, ground := Ground.chain }], guard := none }) (v := .bool false) rfl (by kernel_rfl) (by kernel_rfl) (by kernel_rfl) (fun _ _ _ h => h) (by rfl) (fun w hSw => by (try dsimp only at hSw); go_simp) (by assumption) ?_
      try simp only [Act.put, List.setIfInBounds_toArray, List.set_cons_zero, List.set_cons_succ]
      refine take_yes (i := 8) (oi := { dst := some 41, op := Op.move (Operand.tmp 7), type := 3, pos := "laws.go:503", after := #[{ on := 7, ground := Ground.guard }], guard := some (7, false) }) (v := .int .i64 (k : Int)) rfl (by kernel_rfl) (by kernel_rfl) (by kernel_rfl) (fun _ _ _ h => h) (by rfl) (fun w hSw => by (try dsimp only at hSw); go_simp) (by assumption) ?_
      try simp only [Act.put, List.setIfInBounds_toArray, List.set_cons_zero, List.set_cons_succ]
      refine take_yes (i := 9) (oi := { dst := some 42, op := Op.move (Operand.tmp 5), type := 24, pos := "laws.go:503", after := #[{ on := 7, ground := Ground.guard }], guard := some (7, false) }) (v := .slice (some ⟨b, off, none⟩) os.length oc) rfl (by kernel_rfl) (by kernel_rfl) (by kernel_rfl) (fun _ _ _ h => h) (by rfl) (fun w hSw => by (try dsimp only at hSw); go_simp) (by assumption) ?_
      try simp only [Act.put, List.setIfInBounds_toArray, List.set_cons_zero, List.set_cons_succ]
      refine take_yes (i := 10) (oi := { dst := some 43, op := Op.call { callee := Callee.builtin Builtin.len, args := #[Operand.tmp 42], argTypes := #[24] }, type := 3, pos := "laws.go:503", after := #[{ on := 9, ground := Ground.data }, { on := 7, ground := Ground.guard }], guard := some (7, false) }) (v := .int .i64 (os.length : Int)) rfl (by kernel_rfl) (by kernel_rfl) (by kernel_rfl) (fun _ _ _ h => h) (by rfl) (fun w hSw => by (try dsimp only at hSw); go_simp) (by assumption) ?_
      try simp only [Act.put, List.setIfInBounds_toArray, List.set_cons_zero, List.set_cons_succ]
      refine take_yes (i := 11) (oi := { dst := some 44, op := Op.binOp BinOp.geq 3 (Operand.tmp 41) (Operand.tmp 43) 3, type := 4, pos := "laws.go:503", after := #[{ on := 8, ground := Ground.data }, { on := 10, ground := Ground.data }, { on := 7, ground := Ground.guard }], guard := some (7, false) }) (v := .bool false) rfl (by kernel_rfl) (by kernel_rfl) (by kernel_rfl) (fun _ _ _ h => h) (by rfl) (fun w hSw => by (try dsimp only at hSw); go_simp) (by assumption) ?_
      try simp only [Act.put, List.setIfInBounds_toArray, List.set_cons_zero, List.set_cons_succ]
      refine take_yes (i := 12) (oi := { dst := some 45, op := Op.pick (Operand.tmp 40) (Operand.const (Value.bool true)) (Operand.tmp 44), type := 4, pos := "laws.go:503", after := #[{ on := 7, ground := Ground.data }, { on := 11, ground := Ground.data }], guard := none }) (v := .bool false) rfl (by kernel_rfl) (by kernel_rfl) (by kernel_rfl) (fun _ _ _ h => h) (by rfl) (fun w hSw => by (try dsimp only at hSw); go_simp) (by assumption) ?_
      try simp only [Act.put, List.setIfInBounds_toArray, List.set_cons_zero, List.set_cons_succ]
      refine take_yes (i := 13) (oi := { dst := some 46, op := Op.move (Operand.tmp 45), type := 4, pos := "laws.go:503", after := #[{ on := 12, ground := Ground.data }, { on := 7, ground := Ground.chain }], guard := none }) (v := .bool false) rfl (by kernel_rfl) (by kernel_rfl) (by kernel_rfl) (fun _ _ _ h => h) (by rfl) (fun w hSw => by (try dsimp only at hSw); go_simp) (by assumption) ?_
      try simp only [Act.put, List.setIfInBounds_toArray, List.set_cons_zero, List.set_cons_succ]
      refine take_yes (i := 14) (oi := { dst := some 47, op := Op.move (Operand.tmp 5), type := 24, pos := "laws.go:503", after := #[{ on := 13, ground := Ground.guard }], guard := some (13, false) }) (v := .slice (some ⟨b, off, none⟩) os.length oc) rfl (by kernel_rfl) (by kernel_rfl) (by kernel_rfl) (fun _ _ _ h => h) (by rfl) (fun w hSw => by (try dsimp only at hSw); go_simp) (by assumption) ?_
      try simp only [Act.put, List.setIfInBounds_toArray, List.set_cons_zero, List.set_cons_succ]
      refine take_yes (i := 15) (oi := { dst := some 48, op := Op.move (Operand.tmp 7), type := 3, pos := "laws.go:503", after := #[{ on := 13, ground := Ground.guard }], guard := some (13, false) }) (v := .int .i64 (k : Int)) rfl (by kernel_rfl) (by kernel_rfl) (by kernel_rfl) (fun _ _ _ h => h) (by rfl) (fun w hSw => by (try dsimp only at hSw); go_simp) (by assumption) ?_
      try simp only [Act.put, List.setIfInBounds_toArray, List.set_cons_zero, List.set_cons_succ]
      refine take_yes (i := 16) (oi := { dst := some 49, op := Op.indexAddr 24 (Operand.tmp 47) (Operand.tmp 48), type := 0, pos := "laws.go:503", after := #[{ on := 14, ground := Ground.data }, { on := 15, ground := Ground.data }, { on := 13, ground := Ground.guard }], guard := some (13, false) }) (v := .pointer (some ⟨b, off + k * 4, none⟩)) rfl (by kernel_rfl) (by kernel_rfl) (by kernel_rfl) (fun _ _ _ h => h) (by rfl) (fun w hSw => by (try dsimp only at hSw); go_simp) (by assumption) ?_
      try simp only [Act.put, List.setIfInBounds_toArray, List.set_cons_zero, List.set_cons_succ]
      refine take_yes (i := 17) (oi := { dst := some 50, op := Op.load 26 (Operand.tmp 49), type := 26, pos := "laws.go:503", after := #[{ on := 16, ground := Ground.data }, { on := 13, ground := Ground.guard }], guard := some (13, false) }) (v := .agg #[.int .i64 m.id, .int .i64 m.addr, .bool m.spare, .bool m.told]) rfl (by kernel_rfl) (by kernel_rfl) (by kernel_rfl) (fun _ _ _ h => h) (by rfl) (fun w hSw => by (try dsimp only at hSw); go_simp) (by assumption) ?_
      try simp only [Act.put, List.setIfInBounds_toArray, List.set_cons_zero, List.set_cons_succ]
      refine take_yes (i := 18) (oi := { dst := some 51, op := Op.load 26 (Operand.tmp 4), type := 26, pos := "laws.go:503", after := #[{ on := 13, ground := Ground.guard }], guard := some (13, false) }) (v := .agg #[.int .i64 m.id, .int .i64 m.addr, .bool m.spare, .bool m.told]) rfl (by kernel_rfl) (by kernel_rfl) (by kernel_rfl) (fun _ _ _ h => h) (by rfl) (fun w hSw => by (try dsimp only at hSw); go_simp) (by assumption) ?_
      try simp only [Act.put, List.setIfInBounds_toArray, List.set_cons_zero, List.set_cons_succ]
      refine take_yes (i := 19) (oi := { dst := some 52, op := Op.binOp BinOp.neq 26 (Operand.tmp 50) (Operand.tmp 51) 26, type := 4, pos := "laws.go:503", after := #[{ on := 17, ground := Ground.data }, { on := 18, ground := Ground.data }, { on := 13, ground := Ground.guard }], guard := some (13, false) }) (v := .bool false) rfl (by kernel_rfl) (by kernel_rfl) (by kernel_rfl) (fun _ _ _ h => h) (by rfl) (fun w hSw => by (try dsimp only at hSw); go_simp) (by assumption) ?_
      try simp only [Act.put, List.setIfInBounds_toArray, List.set_cons_zero, List.set_cons_succ]
      refine take_yes (i := 20) (oi := { dst := some 53, op := Op.pick (Operand.tmp 46) (Operand.const (Value.bool true)) (Operand.tmp 52), type := 4, pos := "laws.go:503", after := #[{ on := 13, ground := Ground.data }, { on := 19, ground := Ground.data }], guard := none }) (v := .bool false) rfl (by kernel_rfl) (by kernel_rfl) (by kernel_rfl) (fun _ _ _ h => h) (by rfl) (fun w hSw => by (try dsimp only at hSw); go_simp) (by assumption) ?_
      try simp only [Act.put, List.setIfInBounds_toArray, List.set_cons_zero, List.set_cons_succ]
      refine wpAnyH_done (by kernel_rfl) ?_ _
      have hHeld2 := hHeld
      clear hHeld
      have HO6 := Lib.hid (And.intro (HO5.out.1.full hHeld2.2.2.2.2.2.2.2.2) (And.intro (Below.then_ HO5.out.2.1 hHeld2.2.2.2.2.2.2.2.2) (HO5.out.2.2.kept hHeld2.2.2.2.2.2.2.2.2)))
      clear hHeld2 K6 hb6 HO5 cO hne
      obtain ⟨c0, c1, c2, c3⟩ := cel4a HO6.out.2.2
      go_wp2_with (fail)
      with_reducible refine (cD _ _ HO6.out.1.rd).mono ?_
      rintro e w7 ⟨v7, rfl, hO7, hb7⟩
      obtain ⟨la, lc, rfl, -⟩ := hO7.form
      have HO7 := Lib.hid (And.intro (HO6.out.1.full hb7) (And.intro (Below.then_ HO6.out.2.1 hb7) (And.intro (HO6.out.2.2.kept hb7) hO7)))
      clear c0 c1 c2 c3 hO7 hb7 HO6 cD
      go_wp2_with (fail)
      with_reducible refine (cU _ _ HO7.out.1.rd).mono ?_
      rintro e w8 ⟨u8, rfl, hO8, hb8⟩
      obtain ⟨xa, xc, rfl, -⟩ := hO8.form
      have HO8 := Lib.hid (And.intro (HO7.out.1.full hb8) (And.intro (Below.then_ HO7.out.2.1 hb8) (And.intro (HO7.out.2.2.1.kept hb8) (HO7.out.2.2.2.full hb8))))
      clear hO8 hb8 HO7 cU
      go_wp2_with (fail)
      with_reducible refine (cU2 _ _ HO8.out.2.2.2.rd).mono ?_
      rintro e w9 ⟨u9, rfl, hO9, hb9⟩
      obtain ⟨ya, yc, rfl, -⟩ := hO9.form
      have HO9 := Lib.hid (And.intro (HO8.out.1.full hb9) (And.intro (Below.then_ HO8.out.2.1 hb9) (And.intro (HO8.out.2.2.1.kept hb9) (HO8.out.2.2.2.full hb9))))
      clear hO9 hb9 HO8 cU2
      have e1 : IntKind.i64.wrap (((untoldA os).length : Int) - ((untoldA ls).length : Int)) = if m.told = true then 0 else 1 := by
        rw [HN1.out]
        split
        · rw [IntWalk.i64_in _ (by omega)]; omega
        · rw [IntWalk.i64_in _ (by omega)]; omega
      have e2 : IntKind.i64.wrap ((os.length : Int) - 1) = (ls.length : Int) := by have h1 := HLL.out; rw [IntWalk.i64_in _ (by omega)]; omega
      obtain ⟨c0, c1, c2, c3⟩ := cel4a HO9.out.2.2.1
      generalize hsum : (if m.told = true then (0 : Int) else 1) = sm at e1
      have HS := Lib.hid hsum
      clear hsum HN1 HLL hul hol h6 qk HG hk
      generalize (untoldA os).length = n1 at *
      generalize (untoldA ls).length = n2 at *
      go_wp2_with (fail)
      with_reducible refine (cI _ _ _ _ HO9.out.1.lie).mono ?_
      rintro e w10 ⟨rfl, hb10⟩
      have HO10 := Lib.hid (And.intro (HO9.out.2.2.2.rd.below hb10) (And.intro (Below.then_ HO9.out.2.1 hb10) (HO9.out.2.2.1.kept hb10)))
      obtain ⟨c0, c1, c2, c3⟩ := cel4a HO10.out.2.2
      clear hb10 HO9 cI
      go_wp2_with (fail)
      with_reducible refine (cA2 _ _ HO10.out.1).mono ?_
      rintro e w11 ⟨rfl, hb11⟩
      have HB := Lib.hid (Below.then_ HO10.out.2.1 hb11)
      obtain ⟨c0, c1, c2, c3⟩ := cel4a (HO10.out.2.2.kept hb11)
      clear hb11 HO10 cA2
      cases hT : m.told with
      | true =>
        have hs := HS.out
        rw [hT, if_pos rfl] at hs
        subst hs
        rw [hT] at c3
        clear HS hT
        go_wp2_with (fail)
        go_ret
        exact ⟨rfl, HB.out⟩
      | false =>
        have hs := HS.out
        rw [hT, if_neg (by decide)] at hs
        subst hs
        rw [hT] at c3
        clear HS hT
        go_wp2_with (fail)
        go_ret
        exact ⟨rfl, HB.out⟩
    · have hp : putA ms m = (ms, false) := by unfold putA; rw [if_neg hok]
      rw [hp] at cP
      simp only at cP
      have cS := fun u v W h1 h2 => same_addrs u v ms W h1 h2 (by have := HL.out; omega)
      clear hp hok hm
      go_wp2_with (fail)
      generalize w1.alloc (.cells #[.int .i64 m.id, .int .i64 m.addr, .bool m.spare, .bool m.told] 26) = w2 at *
      with_reducible refine cP.mono ?_
      rintro e w3 ⟨v3, rfl, hO3, hb3⟩
      obtain ⟨oa, oc, rfl, -⟩ := hO3.form
      have HO3 := Lib.hid (And.intro hO3 (And.intro (HW.out.1.full hb3) (Below.then_ HW.out.2.1 hb3)))
      clear hO3 hb3 cP c0 c1 c2 c3
      go_wp2_with (fail)
      with_reducible refine (cS _ _ _ HO3.out.1.rd HO3.out.2.1.rd).mono ?_
      rintro e w4 ⟨rfl, hb4⟩
      have HB := Lib.hid (Below.then_ HO3.out.2.2 hb4)
      clear hb4 HO3 cS
      go_wp2_with (fail)
      go_ret
      exact ⟨rfl, HB.out⟩
end Go.Proofs.Ytmfbhejclmelaaa
