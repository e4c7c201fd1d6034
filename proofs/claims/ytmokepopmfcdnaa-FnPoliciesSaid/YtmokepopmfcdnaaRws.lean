import Derived.Test.YtmokepopmfcdnaaRms
import Derived.Test.YtmokepopmfcdnaaRwa
namespace Go.Proofs.Ytmokepopmfcdnaa
open Go.RowKit

theorem t8_more (Q : List Rv) (x : Rv) (h : (Q.take 8).length < 8) : Q.take 8 ++ [x] = (Q ++ [x]).take 8 := by
  rw [List.length_take] at h
  rw [List.take_of_length_le (by omega), List.take_of_length_le (by simp; omega)]
theorem t8_done (Q R : List Rv) (h : ¬ (Q.take 8).length < 8) : Q.take 8 = (Q ++ R).take 8 := by
  rw [List.length_take] at h
  rw [List.take_append_of_le_length (by omega)]
theorem row_split (a : Av) (fs : List Av) (j : Nat) : rowR a fs = rowR a (fs.take j) ++ rowR a (fs.drop j) := by
  unfold rowR
  rw [← List.map_append, List.take_append_drop]

set_option linter.unusedSimpArgs false in
set_option linter.unusedVariables false in
set_option maxRecDepth 100000 in
set_option maxHeartbeats 8000000 in
theorem spec_wanted (kd mn : Int) (v v2 : Value) (os fs : List Av) (w : World) (hv : RdV w v os) (hv2 : RdV w v2 fs) :
    Calls Try.prog 11 #[.agg #[.int .i64 kd, .int .i64 mn], v, v2] w fun e w' => ∃ u, e = .returned u ∧ OwnR w' w.heap.size w'.heap.size u (wantR kd mn os fs) ∧ Below w.heap.size w w' := by
  have cP := fun W => spec_policyOk kd mn W
  have hb0 := below_pol w kd mn
  have hc0 := Cel.new w 25 #[.int .i64 kd, .int .i64 mn]
  have hm0 := mtr_own (w.alloc (.cells #[.int .i64 kd, .int .i64 mn] 25))
  have hb1 := below_new (w.alloc (.cells #[.int .i64 kd, .int .i64 mn] 25)) (.cells #[] 34)
  have HZ := Lib.hid (And.intro (hm0.mono hb0.size (Nat.le_refl _)) (And.intro (Below.then_ hb0 hb1) (hc0.kept hb1)))
  have hz0 : (w.alloc (.cells #[.int .i64 kd, .int .i64 mn] 25)).heap.size = w.heap.size + 1 := by simp
  rw [hz0] at HZ
  clear hz0
  obtain ⟨b0c, b1c⟩ := cel2a (hc0.kept hb1)
  clear hb0 hc0 hm0 hb1
  obtain ⟨a, c, rfl⟩ := hv.form
  obtain ⟨a2, c2, rfl⟩ := hv2.form
  have HV := Lib.hid (And.intro hv hv2)
  clear hv hv2
  have c1 := fun W => spec_in (os.length : Int) 1 6 W
  have c2' := fun W => spec_in (fs.length : Int) 1 6 W
  cases hp : polOk kd mn with
  | false =>
    rw [want_no (by rw [hp]; rfl)]
    rw [hp] at cP
    clear hp
    go_enter Try.func11, Try.ntmps11
    go_wp2_with (fail)
    with_reducible refine (cP _).mono ?_
    rintro e w1 ⟨rfl, hb⟩
    have HN := Lib.hid (And.intro (HZ.out.1.full hb) (And.intro (Below.then_ HZ.out.2.1 hb) (HZ.out.2.2.kept hb)))
    have k0 := keepc' b0c hb
    have k1 := keepc' b1c hb
    clear cP hb b0c b1c HZ
    go_wp2_with (fail)
    go_ret
    exact ⟨_, rfl, HN.out.1, HN.out.2.1⟩
  | true =>
    by_cases f1 : 1 ≤ os.length ∧ os.length ≤ 6
    · rw [decide_eq_true (by omega : (1 : Int) ≤ (os.length : Int) ∧ (os.length : Int) ≤ 6)] at c1
      by_cases f2 : 1 ≤ fs.length ∧ fs.length ≤ 6
      · rw [decide_eq_true (by omega : (1 : Int) ≤ (fs.length : Int) ∧ (fs.length : Int) ≤ 6)] at c2'
        have hf : fitR os fs = true := decide_eq_true ⟨f1, f2⟩
        by_cases h1 : kd = 1
        · subst h1
          rw [want_mesh hp hf rfl]
          rw [hp] at cP
          generalize hR : (meshR os fs).take 8 = R
          have HR := Lib.hid hR
          clear hR hp hf
          go_enter Try.func11, Try.ntmps11
          go_wp2_with (fail)
          with_reducible refine (cP _).mono ?_
          rintro e w1 ⟨rfl, hb⟩
          have HN := Lib.hid (And.intro (HZ.out.1.full hb) (And.intro (Below.then_ HZ.out.2.1 hb) (HZ.out.2.2.kept hb)))
          have k0 := keepc' b0c hb
          have k1 := keepc' b1c hb
          clear cP hb b0c b1c HZ
          go_wp2_with (fail)
          with_reducible refine (c1 _).mono ?_
          rintro e wx ⟨rfl, rfl⟩
          clear c1
          go_wp2_with (fail)
          with_reducible refine (c2' _).mono ?_
          rintro e wx ⟨rfl, rfl⟩
          clear c2'
          go_wp2_with (fail)
          have hO0 : OwnR w1 w.heap.size w1.heap.size (.slice (some ⟨w.heap.size + 1, 0, none⟩) 0 0) ((meshR (os.take 0) fs).take 8) := HN.out.1
          have hB0 := HN.out.2.1
          clear HN k0 k1
          go_loopw [7, 8] (fun u i wr => ∃ p : Nat, p ≤ os.length ∧ i = .int .i64 p ∧ OwnR wr w.heap.size wr.heap.size u ((meshR (os.take p) fs).take 8) ∧ Below w.heap.size w wr) (fun _ i _ => os.length - (intOf i).toNat)
          case atStart => exact ⟨0, by omega, rfl, hO0, hB0⟩
          case round =>
            clear hO0 hB0
            obtain ⟨p, hk, rfl, hO, hB⟩ := hrel
            by_cases hlt : p < os.length
            · have q : (0 : Int) ≤ (p : Int) ∧ (p : Int) < (os.length : Int) := by omega
              obtain ⟨b, off, ha, hb, -, l1, -, -, -⟩ := av_at (P := Try.prog) HV.out.1 p hlt
              subst ha
              have hst := mesh_take os fs p hlt
              generalize os[p] = m at *
              have HM := Lib.hid hst
              have HL1 := Lib.hid (And.intro hb l1)
              clear hst l1 hb
              generalize meshR (os.take p) fs = L at *
              have HX := Lib.hid (And.intro hO hB)
              obtain ⟨ua0, uc0, rfl, -⟩ := hO.form
              clear hO hB
              go_wp2_with (fail)
              go_loopw [7, 9] (fun u i wr => ∃ j : Nat, j ≤ fs.length ∧ i = .int .i64 j ∧ OwnR wr w.heap.size wr.heap.size u ((L ++ rowR m (fs.take j)).take 8) ∧ Below w.heap.size w wr) (fun _ i _ => fs.length - (intOf i).toNat)
              case atStart => exact ⟨0, by omega, rfl, by rw [List.take_zero]; simpa [rowR] using HX.out.1, HX.out.2⟩
              case round =>
                clear HX
                obtain ⟨j, hj, rfl, hO, hB⟩ := hrel
                by_cases hlj : j < fs.length
                · have q3 : (0 : Int) ≤ (j : Int) ∧ (j : Int) < (fs.length : Int) := by omega
                  by_cases h8 : ((L ++ rowR m (fs.take j)).take 8).length < 8
                  · have q8 : (((L ++ rowR m (fs.take j)).take 8).length : Int) < 8 := by omega
                    obtain ⟨b2, off2, ha2, hb2, -, l2, -, -, -⟩ := av_at (P := Try.prog) HV.out.2 j hlj
                    subst ha2
                    have hst := row_take m fs j hlj
                    have hmore := t8_more (L ++ rowR m (fs.take j)) ⟨m.addr, fs[j].addr, 0⟩ h8
                    rw [List.append_assoc, ← hst] at hmore
                    generalize fs[j] = m2 at *
                    have HL2 := Lib.hid (And.intro hb2 l2)
                    have HLE := Lib.hid h8
                    clear hst h8 l2 hb2
                    generalize (L ++ rowR m (fs.take j)).take 8 = Q at *
                    obtain ⟨ua, uc, rfl, -⟩ := hO.form
                    have HQ := Lib.hid (show ∀ Q2, Q ++ [(⟨m.addr, m2.addr, 0⟩ : Rv)] = Q2 → Q2 = (L ++ rowR m (fs.take (j + 1))).take 8 from fun _ h => by rw [← h]; exact hmore)
                    have HK := Lib.hid (show ∀ W, Below w.heap.size w W → W.cell? ⟨b, off + p * 4 + 1, none⟩ = some (.int .i64 m.addr) ∧ W.cell? ⟨b2, off2 + j * 4 + 1, none⟩ = some (.int .i64 m2.addr) ∧ Below w.heap.size w W from fun W h => ⟨by rw [h.cell (p := ⟨b, off + p * 4 + 1, none⟩) HL1.out.1]; exact HL1.out.2, by rw [h.cell (p := ⟨b2, off2 + j * 4 + 1, none⟩) HL2.out.1]; exact HL2.out.2, h⟩)
                    have HO := Lib.hid (show OwnR wr.drew w.heap.size wr.drew.heap.size (.slice ua Q.length uc) Q from hO)
                    have HB := Lib.hid hB
                    clear hO hB hmore
                    go_wp2_with (fail)
                    have hS := HK.out _ HB.out.drew
                    refine wp_region_held_drew (S := fun W => W.cell? ⟨b, off + p * 4 + 1, none⟩ = some (.int .i64 m.addr) ∧ W.cell? ⟨b2, off2 + j * 4 + 1, none⟩ = some (.int .i64 m2.addr) ∧ Below w.heap.size w W) (by kernel_rfl) hS (fun hHeld => ?_)
                    clear hS
                    generalize wr.drew = wd at *
                    refine take_yes (i := 0) (oi := { dst := some 49, op := Op.move (Operand.tmp 7), type := 29, pos := "l12_policy.go:20", after := #[], guard := none }) (v := .slice ua Q.length uc) rfl (by kernel_rfl) (by kernel_rfl) (by kernel_rfl) (fun _ _ _ h => h) (by rfl) (fun w hSw => by (try dsimp only at hSw); go_simp) (by assumption) ?_
                    try simp only [Act.put, List.setIfInBounds_toArray, List.set_cons_zero, List.set_cons_succ]
                    refine take_yes (i := 1) (oi := { dst := some 50, op := Op.move (Operand.tmp 1), type := 26, pos := "l12_policy.go:20", after := #[], guard := none }) (v := .slice (some ⟨b, off, none⟩) os.length c) rfl (by kernel_rfl) (by kernel_rfl) (by kernel_rfl) (fun _ _ _ h => h) (by rfl) (fun w hSw => by (try dsimp only at hSw); go_simp) (by assumption) ?_
                    try simp only [Act.put, List.setIfInBounds_toArray, List.set_cons_zero, List.set_cons_succ]
                    refine take_yes (i := 2) (oi := { dst := some 51, op := Op.move (Operand.tmp 8), type := 3, pos := "l12_policy.go:20", after := #[], guard := none }) (v := .int .i64 (p : Int)) rfl (by kernel_rfl) (by kernel_rfl) (by kernel_rfl) (fun _ _ _ h => h) (by rfl) (fun w hSw => by (try dsimp only at hSw); go_simp) (by assumption) ?_
                    try simp only [Act.put, List.setIfInBounds_toArray, List.set_cons_zero, List.set_cons_succ]
                    refine take_yes (i := 3) (oi := { dst := some 52, op := Op.indexAddr 26 (Operand.tmp 50) (Operand.tmp 51), type := 0, pos := "l12_policy.go:20", after := #[{ on := 1, ground := Ground.data }, { on := 2, ground := Ground.data }], guard := none }) (v := .pointer (some ⟨b, off + p * 4, none⟩)) rfl (by kernel_rfl) (by kernel_rfl) (by kernel_rfl) (fun _ _ _ h => h) (by rfl) (fun w hSw => by (try dsimp only at hSw); go_simp) (by assumption) ?_
                    try simp only [Act.put, List.setIfInBounds_toArray, List.set_cons_zero, List.set_cons_succ]
                    refine take_yes (i := 4) (oi := { dst := some 53, op := Op.fieldAddr 32 (Operand.tmp 52) 1, type := 0, pos := "l12_policy.go:20", after := #[{ on := 3, ground := Ground.data }], guard := none }) (v := .pointer (some ⟨b, off + p * 4 + 1, none⟩)) rfl (by kernel_rfl) (by kernel_rfl) (by kernel_rfl) (fun _ _ _ h => h) (by rfl) (fun w hSw => by (try dsimp only at hSw); go_simp) (by assumption) ?_
                    try simp only [Act.put, List.setIfInBounds_toArray, List.set_cons_zero, List.set_cons_succ]
                    refine take_yes (i := 5) (oi := { dst := some 54, op := Op.load 3 (Operand.tmp 53), type := 3, pos := "l12_policy.go:20", after := #[{ on := 4, ground := Ground.data }], guard := none }) (v := .int .i64 m.addr) rfl (by kernel_rfl) (by kernel_rfl) (by kernel_rfl) (fun _ _ _ h => h) (by rfl) (fun w hSw => by (try dsimp only at hSw); go_simp) (by assumption) ?_
                    try simp only [Act.put, List.setIfInBounds_toArray, List.set_cons_zero, List.set_cons_succ]
                    refine take_yes (i := 6) (oi := { dst := some 55, op := Op.move (Operand.tmp 2), type := 26, pos := "l12_policy.go:20", after := #[], guard := none }) (v := .slice (some ⟨b2, off2, none⟩) fs.length c2) rfl (by kernel_rfl) (by kernel_rfl) (by kernel_rfl) (fun _ _ _ h => h) (by rfl) (fun w hSw => by (try dsimp only at hSw); go_simp) (by assumption) ?_
                    try simp only [Act.put, List.setIfInBounds_toArray, List.set_cons_zero, List.set_cons_succ]
                    refine take_yes (i := 7) (oi := { dst := some 56, op := Op.move (Operand.tmp 9), type := 3, pos := "l12_policy.go:20", after := #[], guard := none }) (v := .int .i64 (j : Int)) rfl (by kernel_rfl) (by kernel_rfl) (by kernel_rfl) (fun _ _ _ h => h) (by rfl) (fun w hSw => by (try dsimp only at hSw); go_simp) (by assumption) ?_
                    try simp only [Act.put, List.setIfInBounds_toArray, List.set_cons_zero, List.set_cons_succ]
                    refine take_yes (i := 8) (oi := { dst := some 57, op := Op.indexAddr 26 (Operand.tmp 55) (Operand.tmp 56), type := 0, pos := "l12_policy.go:20", after := #[{ on := 6, ground := Ground.data }, { on := 7, ground := Ground.data }], guard := none }) (v := .pointer (some ⟨b2, off2 + j * 4, none⟩)) rfl (by kernel_rfl) (by kernel_rfl) (by kernel_rfl) (fun _ _ _ h => h) (by rfl) (fun w hSw => by (try dsimp only at hSw); go_simp) (by assumption) ?_
                    try simp only [Act.put, List.setIfInBounds_toArray, List.set_cons_zero, List.set_cons_succ]
                    refine take_yes (i := 9) (oi := { dst := some 58, op := Op.fieldAddr 32 (Operand.tmp 57) 1, type := 0, pos := "l12_policy.go:20", after := #[{ on := 8, ground := Ground.data }], guard := none }) (v := .pointer (some ⟨b2, off2 + j * 4 + 1, none⟩)) rfl (by kernel_rfl) (by kernel_rfl) (by kernel_rfl) (fun _ _ _ h => h) (by rfl) (fun w hSw => by (try dsimp only at hSw); go_simp) (by assumption) ?_
                    try simp only [Act.put, List.setIfInBounds_toArray, List.set_cons_zero, List.set_cons_succ]
                    refine take_yes (i := 10) (oi := { dst := some 59, op := Op.load 3 (Operand.tmp 58), type := 3, pos := "l12_policy.go:20", after := #[{ on := 9, ground := Ground.data }], guard := none }) (v := .int .i64 m2.addr) rfl (by kernel_rfl) (by kernel_rfl) (by kernel_rfl) (fun _ _ _ h => h) (by rfl) (fun w hSw => by (try dsimp only at hSw); go_simp) (by assumption) ?_
                    try simp only [Act.put, List.setIfInBounds_toArray, List.set_cons_zero, List.set_cons_succ]
                    refine take_yes (i := 11) (oi := { dst := some 60, op := Op.build 34 #[(0, Operand.tmp 54), (1, Operand.tmp 59)], type := 34, pos := "l12_policy.go:20", after := #[{ on := 5, ground := Ground.data }, { on := 10, ground := Ground.data }], guard := none }) (v := .agg #[.int .i64 m.addr, .int .i64 m2.addr, .int .i64 0]) rfl (by kernel_rfl) (by kernel_rfl) (by kernel_rfl) (fun _ _ _ h => h) (by rfl) (fun w hSw => by (try dsimp only at hSw); go_simp) (by assumption) ?_
                    try simp only [Act.put, List.setIfInBounds_toArray, List.set_cons_zero, List.set_cons_succ]
                    refine wpAnyH_ready (rs := [12]) (by kernel_rfl) (by simp) ?_
                    refine AllReadyH.cons (o := { dst := some 61, op := Op.buildSlice 29 1 #[(0, Operand.tmp 60)], type := 29, pos := "l12_policy.go:20", after := #[{ on := 11, ground := Ground.data }], guard := none }) rfl (fun K hK => ?_) AllReadyH.nil
                    go_simp
                    have hbS := below_rv wd (⟨m.addr, m2.addr, 0⟩ : Rv)
                    have HR1 := Lib.hid (rd_new wd (⟨m.addr, m2.addr, 0⟩ : Rv))
                    have HO1 := Lib.hid (HO.out.full hbS)
                    have KK1 := HK.out _ (Below.then_ hHeld.2.2 hbS)
                    clear hbS
                    generalize wd.heap.size = gb at *
                    generalize wd.alloc (.cells #[.int .i64 m.addr, .int .i64 m2.addr, .int .i64 0] 34) = wb at *
                    refine hK.out _ _ KK1 (fun hHeldN => ?_)
                    clear hK K hHeld
                    have hHeld := hHeldN
                    clear hHeldN
                    try simp only [Act.put, List.setIfInBounds_toArray, List.set_cons_zero, List.set_cons_succ]
                    refine wpAnyH_ready (rs := [13]) (by kernel_rfl) (by simp) ?_
                    refine AllReadyH.cons (o := { dst := some 62, op := Op.call { callee := Callee.builtin Builtin.append, args := #[Operand.tmp 49, Operand.tmp 61], argTypes := #[29, 29] }, type := 29, pos := "l12_policy.go:20", after := #[{ on := 0, ground := Ground.data }, { on := 12, ground := Ground.data }], guard := none }) rfl (fun K hK => ?_) AllReadyH.nil
                    refine step_append_els rvK rfl _ _ 29 29 rfl uRv uRv w.heap.size (.slice ua Q.length uc) (.slice (some ⟨gb, 0, none⟩) 1 1) Q [(⟨m.addr, m2.addr, 0⟩ : Rv)] (by simp [Act.eval, Act.put]) (by simp [Act.eval, Act.put]) HO1.out hHeld.2.2.size HR1.out (by have := HLE.out; simp; omega) ?_
                    intro v' wa hown hgrow hloc
                    have KK2 := HK.out _ (hHeld.2.2.grown hgrow hHeld.2.2.size (fun g hg => (HO1.out.block g hg).1))
                    have HO2 := Lib.hid hown
                    obtain ⟨va, vc, rfl, -⟩ := hown.form
                    clear hown hgrow hloc HO1 HR1
                    refine hK.out _ _ KK2 (fun hHeldN => ?_)
                    clear hK K hHeld
                    have hHeld := hHeldN
                    clear hHeldN
                    try simp only [Act.put, List.setIfInBounds_toArray, List.set_cons_zero, List.set_cons_succ]
                    refine take_yes (i := 14) (oi := { dst := some 7, op := Op.assign (Operand.tmp 62), type := 29, pos := "l12_policy.go:20", after := #[{ on := 13, ground := Ground.data }, { on := 13, ground := Ground.chain }, { on := 0, ground := Ground.phase }, { on := 1, ground := Ground.phase }, { on := 2, ground := Ground.phase }, { on := 3, ground := Ground.phase }, { on := 4, ground := Ground.phase }, { on := 5, ground := Ground.phase }, { on := 6, ground := Ground.phase }, { on := 7, ground := Ground.phase }, { on := 8, ground := Ground.phase }, { on := 9, ground := Ground.phase }, { on := 10, ground := Ground.phase }, { on := 11, ground := Ground.phase }, { on := 12, ground := Ground.phase }, { on := 13, ground := Ground.phase }], guard := none }) (v := (.slice va (Q ++ [(⟨m.addr, m2.addr, 0⟩ : Rv)]).length vc)) rfl (by kernel_rfl) (by kernel_rfl) (by kernel_rfl) (fun _ _ _ h => h) (by rfl) (fun w hSw => by (try dsimp only at hSw); go_simp) (by assumption) ?_
                    try simp only [Act.put, List.setIfInBounds_toArray, List.set_cons_zero, List.set_cons_succ]
                    refine wpAnyH_done (by kernel_rfl) ?_ _
                    have hHeld2 := hHeld
                    clear hHeld
                    have HF := Lib.hid (And.intro HO2.out hHeld2.2.2)
                    clear hHeld2 HO2
                    generalize hQ2 : Q ++ [(⟨m.addr, m2.addr, 0⟩ : Rv)] = Q2 at *
                    have hq := HQ.out _ rfl
                    clear hQ2 HQ
                    subst hq
                    go_wp2_with (fail)
                    go_roundw
                    case rel => exact ⟨j + 1, by omega, by go_num, HF.out.1, HF.out.2⟩
                    case measure => simp [intOf]; omega
                  · have q8 : ¬ (((L ++ rowR m (fs.take j)).take 8).length : Int) < 8 := by omega
                    have hd := t8_done (L ++ rowR m (fs.take j)) (rowR m (fs.drop j)) h8
                    rw [List.append_assoc, ← row_split, ← HM.out] at hd
                    have HX := Lib.hid (And.intro hO hB)
                    obtain ⟨ua, uc, rfl, -⟩ := hO.form
                    generalize (L ++ rowR m (fs.take j)).take 8 = Q at *
                    have HD := Lib.hid hd
                    clear hO hB hd h8
                    go_wp2_with (fail)
                    go_roundw
                    case rel => exact ⟨p + 1, by omega, by go_num, by rw [← HD.out]; exact HX.out.1, HX.out.2⟩
                    case measure => simp [intOf]; omega
                · obtain rfl : j = fs.length := by omega
                  have q3 : ¬ (fs.length : Int) < (fs.length : Int) := by omega
                  rw [List.take_length, ← HM.out] at hO
                  have HX := Lib.hid (And.intro hO hB)
                  obtain ⟨ua, uc, rfl, -⟩ := hO.form
                  clear hO hB
                  go_wp2_with (fail)
                  go_roundw
                  case rel => exact ⟨p + 1, by omega, by go_num, HX.out.1, HX.out.2⟩
                  case measure => simp [intOf]; omega
            · obtain rfl : p = os.length := by omega
              have q : ¬ (os.length : Int) < (os.length : Int) := by omega
              rw [List.take_length, HR.out] at hO
              have HX := Lib.hid (And.intro hO hB)
              obtain ⟨ua, uc, rfl, -⟩ := hO.form
              clear hO hB
              go_wp2_with (fail)
              go_ret
              exact ⟨_, rfl, HX.out.1, HX.out.2⟩
        · have b1 : (kd == 1) = false := by simpa using h1
          rw [want_ports hp hf h1]
          rw [hp] at cP
          have hmle := many_le hp
          obtain ⟨b, off, ha, hb, -, l1, -, -, -⟩ := av_at (P := Try.prog) HV.out.1 0 (by omega)
          subst ha
          obtain ⟨b2, off2, ha2, hb2, -, l2, -, -, -⟩ := av_at (P := Try.prog) HV.out.2 0 (by omega)
          subst ha2
          rw [Nat.zero_mul, Nat.add_zero] at l1 l2
          have hx : os.headD Av.zero = os[0] := by cases os with | nil => simp at f1 | cons x r => rfl
          have hy : fs.headD Av.zero = fs[0] := by cases fs with | nil => simp at f2 | cons x r => rfl
          rw [hx, hy]
          clear hx hy
          have q1 : (0 : Int) < (os.length : Int) := by omega
          have q2 : (0 : Int) < (fs.length : Int) := by omega
          have q3 : 0 < os.length := by omega
          have q4 : 0 < fs.length := by omega
          generalize os[0] = m at *
          generalize fs[0] = m2 at *
          have HL := Lib.hid (And.intro (And.intro hb l1) (And.intro hb2 l2))
          clear hb l1 hb2 l2
          by_cases h2 : kd = 2
          · subst h2
            have hmn : ((manyR 2 mn : Nat) : Int) = mn := by
              unfold polOk at hp
              have := of_decide_eq_true hp
              unfold manyR
              rw [if_pos rfl]
              omega
            generalize manyR 2 mn = n at *
            subst hmn
            clear hp hf h1
            go_enter Try.func11, Try.ntmps11
            go_wp2_with (fail)
            with_reducible refine (cP _).mono ?_
            rintro e w1 ⟨rfl, hb⟩
            have HN := Lib.hid (And.intro (HZ.out.1.full hb) (And.intro (Below.then_ HZ.out.2.1 hb) (HZ.out.2.2.kept hb)))
            have k0 := keepc' b0c hb
            have k1 := keepc' b1c hb
            clear cP hb b0c b1c HZ
            go_wp2_with (fail)
            with_reducible refine (c1 _).mono ?_
            rintro e wx ⟨rfl, rfl⟩
            clear c1
            go_wp2_with (fail)
            with_reducible refine (c2' _).mono ?_
            rintro e wx ⟨rfl, rfl⟩
            clear c2'
            go_wp2_with (fail)
            have hO0 : OwnR w1 w.heap.size w1.heap.size (.slice (some ⟨w.heap.size + 1, 0, none⟩) 0 0) (portsR m.addr m2.addr 0) := HN.out.1
            have hB0 := HN.out.2.1
            clear HN k0 k1
            go_loopw [7, 11] (fun u i wr => ∃ j : Nat, j ≤ n ∧ i = .int .i64 j ∧ OwnR wr w.heap.size wr.heap.size u (portsR m.addr m2.addr j) ∧ Below w.heap.size w wr) (fun _ i _ => n - (intOf i).toNat)
            case atStart => exact ⟨0, by omega, rfl, hO0, hB0⟩
            case round =>
              clear hO0 hB0
              obtain ⟨j, hj, rfl, hO, hB⟩ := hrel
              by_cases hlj : j < n
              · have q5 : (j : Int) < (n : Int) := by omega
                have hsu := ports_succ m.addr m2.addr j
                have hpl := ports_len m.addr m2.addr j
                generalize portsR m.addr m2.addr j = Q at *
                have HLE := Lib.hid (show Q.length ≤ 8 by omega)
                obtain ⟨ua, uc, rfl, -⟩ := hO.form
                have HQ := Lib.hid (show ∀ Q2, Q ++ [(⟨m.addr, m2.addr, (j : Int)⟩ : Rv)] = Q2 → Q2 = portsR m.addr m2.addr (j + 1) from fun _ h => by rw [← h]; exact hsu.symm)
                have HK := Lib.hid (show ∀ W, Below w.heap.size w W → W.cell? ⟨b, off + 1, none⟩ = some (.int .i64 m.addr) ∧ W.cell? ⟨b2, off2 + 1, none⟩ = some (.int .i64 m2.addr) ∧ Below w.heap.size w W from fun W h => ⟨by rw [h.cell (p := ⟨b, off + 1, none⟩) HL.out.1.1]; exact HL.out.1.2, by rw [h.cell (p := ⟨b2, off2 + 1, none⟩) HL.out.2.1]; exact HL.out.2.2, h⟩)
                have HO := Lib.hid (show OwnR wr.drew w.heap.size wr.drew.heap.size (.slice ua Q.length uc) Q from hO)
                have HB := Lib.hid hB
                clear hO hB hsu hpl
                go_wp2_with (fail)
                have hS := HK.out _ HB.out.drew
                refine wp_region_held_drew (S := fun W => W.cell? ⟨b, off + 1, none⟩ = some (.int .i64 m.addr) ∧ W.cell? ⟨b2, off2 + 1, none⟩ = some (.int .i64 m2.addr) ∧ Below w.heap.size w W) (by kernel_rfl) hS (fun hHeld => ?_)
                clear hS
                generalize wr.drew = wd at *
                refine take_yes (i := 0) (oi := { dst := some 74, op := Op.move (Operand.tmp 7), type := 29, pos := "l12_policy.go:30", after := #[], guard := none }) (v := .slice ua Q.length uc) rfl (by kernel_rfl) (by kernel_rfl) (by kernel_rfl) (fun _ _ _ h => h) (by rfl) (fun w hSw => by (try dsimp only at hSw); go_simp) (by assumption) ?_
                try simp only [Act.put, List.setIfInBounds_toArray, List.set_cons_zero, List.set_cons_succ]
                refine take_yes (i := 1) (oi := { dst := some 75, op := Op.move (Operand.tmp 1), type := 26, pos := "l12_policy.go:30", after := #[], guard := none }) (v := .slice (some ⟨b, off, none⟩) os.length c) rfl (by kernel_rfl) (by kernel_rfl) (by kernel_rfl) (fun _ _ _ h => h) (by rfl) (fun w hSw => by (try dsimp only at hSw); go_simp) (by assumption) ?_
                try simp only [Act.put, List.setIfInBounds_toArray, List.set_cons_zero, List.set_cons_succ]
                refine take_yes (i := 2) (oi := { dst := some 76, op := Op.indexAddr 26 (Operand.tmp 75) (Operand.const (Value.int IntKind.i64 0)), type := 0, pos := "l12_policy.go:30", after := #[{ on := 1, ground := Ground.data }], guard := none }) (v := .pointer (some ⟨b, off, none⟩)) rfl (by kernel_rfl) (by kernel_rfl) (by kernel_rfl) (fun _ _ _ h => h) (by rfl) (fun w hSw => by (try dsimp only at hSw); go_simp) (by assumption) ?_
                try simp only [Act.put, List.setIfInBounds_toArray, List.set_cons_zero, List.set_cons_succ]
                refine take_yes (i := 3) (oi := { dst := some 77, op := Op.fieldAddr 32 (Operand.tmp 76) 1, type := 0, pos := "l12_policy.go:30", after := #[{ on := 2, ground := Ground.data }], guard := none }) (v := .pointer (some ⟨b, off + 1, none⟩)) rfl (by kernel_rfl) (by kernel_rfl) (by kernel_rfl) (fun _ _ _ h => h) (by rfl) (fun w hSw => by (try dsimp only at hSw); go_simp) (by assumption) ?_
                try simp only [Act.put, List.setIfInBounds_toArray, List.set_cons_zero, List.set_cons_succ]
                refine take_yes (i := 4) (oi := { dst := some 78, op := Op.load 3 (Operand.tmp 77), type := 3, pos := "l12_policy.go:30", after := #[{ on := 3, ground := Ground.data }], guard := none }) (v := .int .i64 m.addr) rfl (by kernel_rfl) (by kernel_rfl) (by kernel_rfl) (fun _ _ _ h => h) (by rfl) (fun w hSw => by (try dsimp only at hSw); go_simp) (by assumption) ?_
                try simp only [Act.put, List.setIfInBounds_toArray, List.set_cons_zero, List.set_cons_succ]
                refine take_yes (i := 5) (oi := { dst := some 79, op := Op.move (Operand.tmp 2), type := 26, pos := "l12_policy.go:30", after := #[], guard := none }) (v := .slice (some ⟨b2, off2, none⟩) fs.length c2) rfl (by kernel_rfl) (by kernel_rfl) (by kernel_rfl) (fun _ _ _ h => h) (by rfl) (fun w hSw => by (try dsimp only at hSw); go_simp) (by assumption) ?_
                try simp only [Act.put, List.setIfInBounds_toArray, List.set_cons_zero, List.set_cons_succ]
                refine take_yes (i := 6) (oi := { dst := some 80, op := Op.indexAddr 26 (Operand.tmp 79) (Operand.const (Value.int IntKind.i64 0)), type := 0, pos := "l12_policy.go:30", after := #[{ on := 5, ground := Ground.data }], guard := none }) (v := .pointer (some ⟨b2, off2, none⟩)) rfl (by kernel_rfl) (by kernel_rfl) (by kernel_rfl) (fun _ _ _ h => h) (by rfl) (fun w hSw => by (try dsimp only at hSw); go_simp) (by assumption) ?_
                try simp only [Act.put, List.setIfInBounds_toArray, List.set_cons_zero, List.set_cons_succ]
                refine take_yes (i := 7) (oi := { dst := some 81, op := Op.fieldAddr 32 (Operand.tmp 80) 1, type := 0, pos := "l12_policy.go:30", after := #[{ on := 6, ground := Ground.data }], guard := none }) (v := .pointer (some ⟨b2, off2 + 1, none⟩)) rfl (by kernel_rfl) (by kernel_rfl) (by kernel_rfl) (fun _ _ _ h => h) (by rfl) (fun w hSw => by (try dsimp only at hSw); go_simp) (by assumption) ?_
                try simp only [Act.put, List.setIfInBounds_toArray, List.set_cons_zero, List.set_cons_succ]
                refine take_yes (i := 8) (oi := { dst := some 82, op := Op.load 3 (Operand.tmp 81), type := 3, pos := "l12_policy.go:30", after := #[{ on := 7, ground := Ground.data }], guard := none }) (v := .int .i64 m2.addr) rfl (by kernel_rfl) (by kernel_rfl) (by kernel_rfl) (fun _ _ _ h => h) (by rfl) (fun w hSw => by (try dsimp only at hSw); go_simp) (by assumption) ?_
                try simp only [Act.put, List.setIfInBounds_toArray, List.set_cons_zero, List.set_cons_succ]
                refine take_yes (i := 9) (oi := { dst := some 83, op := Op.move (Operand.tmp 11), type := 3, pos := "l12_policy.go:30", after := #[], guard := none }) (v := .int .i64 (j : Int)) rfl (by kernel_rfl) (by kernel_rfl) (by kernel_rfl) (fun _ _ _ h => h) (by rfl) (fun w hSw => by (try dsimp only at hSw); go_simp) (by assumption) ?_
                try simp only [Act.put, List.setIfInBounds_toArray, List.set_cons_zero, List.set_cons_succ]
                refine take_yes (i := 10) (oi := { dst := some 84, op := Op.build 34 #[(0, Operand.tmp 78), (1, Operand.tmp 82), (2, Operand.tmp 83)], type := 34, pos := "l12_policy.go:30", after := #[{ on := 4, ground := Ground.data }, { on := 8, ground := Ground.data }, { on := 9, ground := Ground.data }], guard := none }) (v := .agg #[.int .i64 m.addr, .int .i64 m2.addr, .int .i64 (j : Int)]) rfl (by kernel_rfl) (by kernel_rfl) (by kernel_rfl) (fun _ _ _ h => h) (by rfl) (fun w hSw => by (try dsimp only at hSw); go_simp) (by assumption) ?_
                try simp only [Act.put, List.setIfInBounds_toArray, List.set_cons_zero, List.set_cons_succ]
                refine wpAnyH_ready (rs := [11]) (by kernel_rfl) (by simp) ?_
                refine AllReadyH.cons (o := { dst := some 85, op := Op.buildSlice 29 1 #[(0, Operand.tmp 84)], type := 29, pos := "l12_policy.go:30", after := #[{ on := 10, ground := Ground.data }], guard := none }) rfl (fun K hK => ?_) AllReadyH.nil
                go_simp
                have hbS := below_rv wd (⟨m.addr, m2.addr, (j : Int)⟩ : Rv)
                have HR1 := Lib.hid (rd_new wd (⟨m.addr, m2.addr, (j : Int)⟩ : Rv))
                have HO1 := Lib.hid (HO.out.full hbS)
                have KK1 := HK.out _ (Below.then_ hHeld.2.2 hbS)
                clear hbS
                generalize wd.heap.size = gb at *
                generalize wd.alloc (.cells #[.int .i64 m.addr, .int .i64 m2.addr, .int .i64 (j : Int)] 34) = wb at *
                refine hK.out _ _ KK1 (fun hHeldN => ?_)
                clear hK K hHeld
                have hHeld := hHeldN
                clear hHeldN
                try simp only [Act.put, List.setIfInBounds_toArray, List.set_cons_zero, List.set_cons_succ]
                refine wpAnyH_ready (rs := [12]) (by kernel_rfl) (by simp) ?_
                refine AllReadyH.cons (o := { dst := some 86, op := Op.call { callee := Callee.builtin Builtin.append, args := #[Operand.tmp 74, Operand.tmp 85], argTypes := #[29, 29] }, type := 29, pos := "l12_policy.go:30", after := #[{ on := 0, ground := Ground.data }, { on := 11, ground := Ground.data }], guard := none }) rfl (fun K hK => ?_) AllReadyH.nil
                refine step_append_els rvK rfl _ _ 29 29 rfl uRv uRv w.heap.size (.slice ua Q.length uc) (.slice (some ⟨gb, 0, none⟩) 1 1) Q [(⟨m.addr, m2.addr, (j : Int)⟩ : Rv)] (by simp [Act.eval, Act.put]) (by simp [Act.eval, Act.put]) HO1.out hHeld.2.2.size HR1.out (by have := HLE.out; simp; omega) ?_
                intro v' wa hown hgrow hloc
                have KK2 := HK.out _ (hHeld.2.2.grown hgrow hHeld.2.2.size (fun g hg => (HO1.out.block g hg).1))
                have HO2 := Lib.hid hown
                obtain ⟨va, vc, rfl, -⟩ := hown.form
                clear hown hgrow hloc HO1 HR1
                refine hK.out _ _ KK2 (fun hHeldN => ?_)
                clear hK K hHeld
                have hHeld := hHeldN
                clear hHeldN
                try simp only [Act.put, List.setIfInBounds_toArray, List.set_cons_zero, List.set_cons_succ]
                refine take_yes (i := 13) (oi := { dst := some 7, op := Op.assign (Operand.tmp 86), type := 29, pos := "l12_policy.go:30", after := #[{ on := 12, ground := Ground.data }, { on := 12, ground := Ground.chain }, { on := 0, ground := Ground.phase }, { on := 1, ground := Ground.phase }, { on := 2, ground := Ground.phase }, { on := 3, ground := Ground.phase }, { on := 4, ground := Ground.phase }, { on := 5, ground := Ground.phase }, { on := 6, ground := Ground.phase }, { on := 7, ground := Ground.phase }, { on := 8, ground := Ground.phase }, { on := 9, ground := Ground.phase }, { on := 10, ground := Ground.phase }, { on := 11, ground := Ground.phase }, { on := 12, ground := Ground.phase }], guard := none }) (v := (.slice va (Q ++ [(⟨m.addr, m2.addr, (j : Int)⟩ : Rv)]).length vc)) rfl (by kernel_rfl) (by kernel_rfl) (by kernel_rfl) (fun _ _ _ h => h) (by rfl) (fun w hSw => by (try dsimp only at hSw); go_simp) (by assumption) ?_
                try simp only [Act.put, List.setIfInBounds_toArray, List.set_cons_zero, List.set_cons_succ]
                refine wpAnyH_done (by kernel_rfl) ?_ _
                have hHeld2 := hHeld
                clear hHeld
                have HF := Lib.hid (And.intro HO2.out hHeld2.2.2)
                clear hHeld2 HO2
                generalize hQ2 : Q ++ [(⟨m.addr, m2.addr, (j : Int)⟩ : Rv)] = Q2 at *
                have hq := HQ.out _ rfl
                clear hQ2 HQ
                subst hq
                go_wp2_with (fail)
                go_roundw
                case rel => exact ⟨j + 1, by omega, by go_num, HF.out.1, HF.out.2⟩
                case measure => simp [intOf]; omega
              · obtain rfl : j = n := by omega
                have q5 : ¬ (j : Int) < (j : Int) := by omega
                have HX := Lib.hid (And.intro hO hB)
                obtain ⟨ua, uc, rfl, -⟩ := hO.form
                clear hO hB
                go_wp2_with (fail)
                go_ret
                exact ⟨_, rfl, HX.out.1, HX.out.2⟩
          · have b2' : (kd == 2) = false := by simpa using h2
            have hmn : manyR kd mn = 1 := by unfold manyR; rw [if_neg h2]
            generalize manyR kd mn = n at *
            have hn1 : (n : Int) = 1 := by omega
            clear hp hf h1 h2 hmn
            go_enter Try.func11, Try.ntmps11
            go_wp2_with (fail)
            with_reducible refine (cP _).mono ?_
            rintro e w1 ⟨rfl, hb⟩
            have HN := Lib.hid (And.intro (HZ.out.1.full hb) (And.intro (Below.then_ HZ.out.2.1 hb) (HZ.out.2.2.kept hb)))
            have k0 := keepc' b0c hb
            have k1 := keepc' b1c hb
            clear cP hb b0c b1c HZ
            go_wp2_with (fail)
            with_reducible refine (c1 _).mono ?_
            rintro e wx ⟨rfl, rfl⟩
            clear c1
            go_wp2_with (fail)
            with_reducible refine (c2' _).mono ?_
            rintro e wx ⟨rfl, rfl⟩
            clear c2'
            go_wp2_with (fail)
            have hO0 : OwnR w1 w.heap.size w1.heap.size (.slice (some ⟨w.heap.size + 1, 0, none⟩) 0 0) (portsR m.addr m2.addr 0) := HN.out.1
            have hB0 := HN.out.2.1
            clear HN k0 k1
            go_loopw [7, 11] (fun u i wr => ∃ j : Nat, j ≤ n ∧ i = .int .i64 j ∧ OwnR wr w.heap.size wr.heap.size u (portsR m.addr m2.addr j) ∧ Below w.heap.size w wr) (fun _ i _ => n - (intOf i).toNat)
            case atStart => exact ⟨0, by omega, rfl, hO0, hB0⟩
            case round =>
              clear hO0 hB0
              obtain ⟨j, hj, rfl, hO, hB⟩ := hrel
              by_cases hlj : j < n
              · have q5 : (j : Int) < 1 := by omega
                have hsu := ports_succ m.addr m2.addr j
                have hpl := ports_len m.addr m2.addr j
                generalize portsR m.addr m2.addr j = Q at *
                have HLE := Lib.hid (show Q.length ≤ 8 by omega)
                obtain ⟨ua, uc, rfl, -⟩ := hO.form
                have HQ := Lib.hid (show ∀ Q2, Q ++ [(⟨m.addr, m2.addr, (j : Int)⟩ : Rv)] = Q2 → Q2 = portsR m.addr m2.addr (j + 1) from fun _ h => by rw [← h]; exact hsu.symm)
                have HK := Lib.hid (show ∀ W, Below w.heap.size w W → W.cell? ⟨b, off + 1, none⟩ = some (.int .i64 m.addr) ∧ W.cell? ⟨b2, off2 + 1, none⟩ = some (.int .i64 m2.addr) ∧ Below w.heap.size w W from fun W h => ⟨by rw [h.cell (p := ⟨b, off + 1, none⟩) HL.out.1.1]; exact HL.out.1.2, by rw [h.cell (p := ⟨b2, off2 + 1, none⟩) HL.out.2.1]; exact HL.out.2.2, h⟩)
                have HO := Lib.hid (show OwnR wr.drew w.heap.size wr.drew.heap.size (.slice ua Q.length uc) Q from hO)
                have HB := Lib.hid hB
                clear hO hB hsu hpl
                go_wp2_with (fail)
                have hS := HK.out _ HB.out.drew
                refine wp_region_held_drew (S := fun W => W.cell? ⟨b, off + 1, none⟩ = some (.int .i64 m.addr) ∧ W.cell? ⟨b2, off2 + 1, none⟩ = some (.int .i64 m2.addr) ∧ Below w.heap.size w W) (by kernel_rfl) hS (fun hHeld => ?_)
                clear hS
                generalize wr.drew = wd at *
                refine take_yes (i := 0) (oi := { dst := some 74, op := Op.move (Operand.tmp 7), type := 29, pos := "l12_policy.go:30", after := #[], guard := none }) (v := .slice ua Q.length uc) rfl (by kernel_rfl) (by kernel_rfl) (by kernel_rfl) (fun _ _ _ h => h) (by rfl) (fun w hSw => by (try dsimp only at hSw); go_simp) (by assumption) ?_
                try simp only [Act.put, List.setIfInBounds_toArray, List.set_cons_zero, List.set_cons_succ]
                refine take_yes (i := 1) (oi := { dst := some 75, op := Op.move (Operand.tmp 1), type := 26, pos := "l12_policy.go:30", after := #[], guard := none }) (v := .slice (some ⟨b, off, none⟩) os.length c) rfl (by kernel_rfl) (by kernel_rfl) (by kernel_rfl) (fun _ _ _ h => h) (by rfl) (fun w hSw => by (try dsimp only at hSw); go_simp) (by assumption) ?_
                try simp only [Act.put, List.setIfInBounds_toArray, List.set_cons_zero, List.set_cons_succ]
                refine take_yes (i := 2) (oi := { dst := some 76, op := Op.indexAddr 26 (Operand.tmp 75) (Operand.const (Value.int IntKind.i64 0)), type := 0, pos := "l12_policy.go:30", after := #[{ on := 1, ground := Ground.data }], guard := none }) (v := .pointer (some ⟨b, off, none⟩)) rfl (by kernel_rfl) (by kernel_rfl) (by kernel_rfl) (fun _ _ _ h => h) (by rfl) (fun w hSw => by (try dsimp only at hSw); go_simp) (by assumption) ?_
                try simp only [Act.put, List.setIfInBounds_toArray, List.set_cons_zero, List.set_cons_succ]
                refine take_yes (i := 3) (oi := { dst := some 77, op := Op.fieldAddr 32 (Operand.tmp 76) 1, type := 0, pos := "l12_policy.go:30", after := #[{ on := 2, ground := Ground.data }], guard := none }) (v := .pointer (some ⟨b, off + 1, none⟩)) rfl (by kernel_rfl) (by kernel_rfl) (by kernel_rfl) (fun _ _ _ h => h) (by rfl) (fun w hSw => by (try dsimp only at hSw); go_simp) (by assumption) ?_
                try simp only [Act.put, List.setIfInBounds_toArray, List.set_cons_zero, List.set_cons_succ]
                refine take_yes (i := 4) (oi := { dst := some 78, op := Op.load 3 (Operand.tmp 77), type := 3, pos := "l12_policy.go:30", after := #[{ on := 3, ground := Ground.data }], guard := none }) (v := .int .i64 m.addr) rfl (by kernel_rfl) (by kernel_rfl) (by kernel_rfl) (fun _ _ _ h => h) (by rfl) (fun w hSw => by (try dsimp only at hSw); go_simp) (by assumption) ?_
                try simp only [Act.put, List.setIfInBounds_toArray, List.set_cons_zero, List.set_cons_succ]
                refine take_yes (i := 5) (oi := { dst := some 79, op := Op.move (Operand.tmp 2), type := 26, pos := "l12_policy.go:30", after := #[], guard := none }) (v := .slice (some ⟨b2, off2, none⟩) fs.length c2) rfl (by kernel_rfl) (by kernel_rfl) (by kernel_rfl) (fun _ _ _ h => h) (by rfl) (fun w hSw => by (try dsimp only at hSw); go_simp) (by assumption) ?_
                try simp only [Act.put, List.setIfInBounds_toArray, List.set_cons_zero, List.set_cons_succ]
                refine take_yes (i := 6) (oi := { dst := some 80, op := Op.indexAddr 26 (Operand.tmp 79) (Operand.const (Value.int IntKind.i64 0)), type := 0, pos := "l12_policy.go:30", after := #[{ on := 5, ground := Ground.data }], guard := none }) (v := .pointer (some ⟨b2, off2, none⟩)) rfl (by kernel_rfl) (by kernel_rfl) (by kernel_rfl) (fun _ _ _ h => h) (by rfl) (fun w hSw => by (try dsimp only at hSw); go_simp) (by assumption) ?_
                try simp only [Act.put, List.setIfInBounds_toArray, List.set_cons_zero, List.set_cons_succ]
                refine take_yes (i := 7) (oi := { dst := some 81, op := Op.fieldAddr 32 (Operand.tmp 80) 1, type := 0, pos := "l12_policy.go:30", after := #[{ on := 6, ground := Ground.data }], guard := none }) (v := .pointer (some ⟨b2, off2 + 1, none⟩)) rfl (by kernel_rfl) (by kernel_rfl) (by kernel_rfl) (fun _ _ _ h => h) (by rfl) (fun w hSw => by (try dsimp only at hSw); go_simp) (by assumption) ?_
                try simp only [Act.put, List.setIfInBounds_toArray, List.set_cons_zero, List.set_cons_succ]
                refine take_yes (i := 8) (oi := { dst := some 82, op := Op.load 3 (Operand.tmp 81), type := 3, pos := "l12_policy.go:30", after := #[{ on := 7, ground := Ground.data }], guard := none }) (v := .int .i64 m2.addr) rfl (by kernel_rfl) (by kernel_rfl) (by kernel_rfl) (fun _ _ _ h => h) (by rfl) (fun w hSw => by (try dsimp only at hSw); go_simp) (by assumption) ?_
                try simp only [Act.put, List.setIfInBounds_toArray, List.set_cons_zero, List.set_cons_succ]
                refine take_yes (i := 9) (oi := { dst := some 83, op := Op.move (Operand.tmp 11), type := 3, pos := "l12_policy.go:30", after := #[], guard := none }) (v := .int .i64 (j : Int)) rfl (by kernel_rfl) (by kernel_rfl) (by kernel_rfl) (fun _ _ _ h => h) (by rfl) (fun w hSw => by (try dsimp only at hSw); go_simp) (by assumption) ?_
                try simp only [Act.put, List.setIfInBounds_toArray, List.set_cons_zero, List.set_cons_succ]
                refine take_yes (i := 10) (oi := { dst := some 84, op := Op.build 34 #[(0, Operand.tmp 78), (1, Operand.tmp 82), (2, Operand.tmp 83)], type := 34, pos := "l12_policy.go:30", after := #[{ on := 4, ground := Ground.data }, { on := 8, ground := Ground.data }, { on := 9, ground := Ground.data }], guard := none }) (v := .agg #[.int .i64 m.addr, .int .i64 m2.addr, .int .i64 (j : Int)]) rfl (by kernel_rfl) (by kernel_rfl) (by kernel_rfl) (fun _ _ _ h => h) (by rfl) (fun w hSw => by (try dsimp only at hSw); go_simp) (by assumption) ?_
                try simp only [Act.put, List.setIfInBounds_toArray, List.set_cons_zero, List.set_cons_succ]
                refine wpAnyH_ready (rs := [11]) (by kernel_rfl) (by simp) ?_
                refine AllReadyH.cons (o := { dst := some 85, op := Op.buildSlice 29 1 #[(0, Operand.tmp 84)], type := 29, pos := "l12_policy.go:30", after := #[{ on := 10, ground := Ground.data }], guard := none }) rfl (fun K hK => ?_) AllReadyH.nil
                go_simp
                have hbS := below_rv wd (⟨m.addr, m2.addr, (j : Int)⟩ : Rv)
                have HR1 := Lib.hid (rd_new wd (⟨m.addr, m2.addr, (j : Int)⟩ : Rv))
                have HO1 := Lib.hid (HO.out.full hbS)
                have KK1 := HK.out _ (Below.then_ hHeld.2.2 hbS)
                clear hbS
                generalize wd.heap.size = gb at *
                generalize wd.alloc (.cells #[.int .i64 m.addr, .int .i64 m2.addr, .int .i64 (j : Int)] 34) = wb at *
                refine hK.out _ _ KK1 (fun hHeldN => ?_)
                clear hK K hHeld
                have hHeld := hHeldN
                clear hHeldN
                try simp only [Act.put, List.setIfInBounds_toArray, List.set_cons_zero, List.set_cons_succ]
                refine wpAnyH_ready (rs := [12]) (by kernel_rfl) (by simp) ?_
                refine AllReadyH.cons (o := { dst := some 86, op := Op.call { callee := Callee.builtin Builtin.append, args := #[Operand.tmp 74, Operand.tmp 85], argTypes := #[29, 29] }, type := 29, pos := "l12_policy.go:30", after := #[{ on := 0, ground := Ground.data }, { on := 11, ground := Ground.data }], guard := none }) rfl (fun K hK => ?_) AllReadyH.nil
                refine step_append_els rvK rfl _ _ 29 29 rfl uRv uRv w.heap.size (.slice ua Q.length uc) (.slice (some ⟨gb, 0, none⟩) 1 1) Q [(⟨m.addr, m2.addr, (j : Int)⟩ : Rv)] (by simp [Act.eval, Act.put]) (by simp [Act.eval, Act.put]) HO1.out hHeld.2.2.size HR1.out (by have := HLE.out; simp; omega) ?_
                intro v' wa hown hgrow hloc
                have KK2 := HK.out _ (hHeld.2.2.grown hgrow hHeld.2.2.size (fun g hg => (HO1.out.block g hg).1))
                have HO2 := Lib.hid hown
                obtain ⟨va, vc, rfl, -⟩ := hown.form
                clear hown hgrow hloc HO1 HR1
                refine hK.out _ _ KK2 (fun hHeldN => ?_)
                clear hK K hHeld
                have hHeld := hHeldN
                clear hHeldN
                try simp only [Act.put, List.setIfInBounds_toArray, List.set_cons_zero, List.set_cons_succ]
                refine take_yes (i := 13) (oi := { dst := some 7, op := Op.assign (Operand.tmp 86), type := 29, pos := "l12_policy.go:30", after := #[{ on := 12, ground := Ground.data }, { on := 12, ground := Ground.chain }, { on := 0, ground := Ground.phase }, { on := 1, ground := Ground.phase }, { on := 2, ground := Ground.phase }, { on := 3, ground := Ground.phase }, { on := 4, ground := Ground.phase }, { on := 5, ground := Ground.phase }, { on := 6, ground := Ground.phase }, { on := 7, ground := Ground.phase }, { on := 8, ground := Ground.phase }, { on := 9, ground := Ground.phase }, { on := 10, ground := Ground.phase }, { on := 11, ground := Ground.phase }, { on := 12, ground := Ground.phase }], guard := none }) (v := (.slice va (Q ++ [(⟨m.addr, m2.addr, (j : Int)⟩ : Rv)]).length vc)) rfl (by kernel_rfl) (by kernel_rfl) (by kernel_rfl) (fun _ _ _ h => h) (by rfl) (fun w hSw => by (try dsimp only at hSw); go_simp) (by assumption) ?_
                try simp only [Act.put, List.setIfInBounds_toArray, List.set_cons_zero, List.set_cons_succ]
                refine wpAnyH_done (by kernel_rfl) ?_ _
                have hHeld2 := hHeld
                clear hHeld
                have HF := Lib.hid (And.intro HO2.out hHeld2.2.2)
                clear hHeld2 HO2
                generalize hQ2 : Q ++ [(⟨m.addr, m2.addr, (j : Int)⟩ : Rv)] = Q2 at *
                have hq := HQ.out _ rfl
                clear hQ2 HQ
                subst hq
                go_wp2_with (fail)
                go_roundw
                case rel => exact ⟨j + 1, by omega, by go_num, HF.out.1, HF.out.2⟩
                case measure => simp [intOf]; omega
              · obtain rfl : j = n := by omega
                have q5 : ¬ (j : Int) < 1 := by omega
                have HX := Lib.hid (And.intro hO hB)
                obtain ⟨ua, uc, rfl, -⟩ := hO.form
                clear hO hB
                go_wp2_with (fail)
                go_ret
                exact ⟨_, rfl, HX.out.1, HX.out.2⟩
      · rw [decide_eq_false (by omega : ¬ ((1 : Int) ≤ (fs.length : Int) ∧ (fs.length : Int) ≤ 6))] at c2'
        rw [want_no (by rw [show fitR os fs = false from decide_eq_false (fun h => f2 h.2)]; exact Bool.and_false _)]
        rw [hp] at cP
        clear hp
        go_enter Try.func11, Try.ntmps11
        go_wp2_with (fail)
        with_reducible refine (cP _).mono ?_
        rintro e w1 ⟨rfl, hb⟩
        have HN := Lib.hid (And.intro (HZ.out.1.full hb) (And.intro (Below.then_ HZ.out.2.1 hb) (HZ.out.2.2.kept hb)))
        have k0 := keepc' b0c hb
        have k1 := keepc' b1c hb
        clear cP hb b0c b1c HZ
        go_wp2_with (fail)
        with_reducible refine (c1 _).mono ?_
        rintro e wx ⟨rfl, rfl⟩
        clear c1
        go_wp2_with (fail)
        with_reducible refine (c2' _).mono ?_
        rintro e wx ⟨rfl, rfl⟩
        clear c2'
        go_wp2_with (fail)
        go_ret
        exact ⟨_, rfl, HN.out.1, HN.out.2.1⟩
    · rw [decide_eq_false (by omega : ¬ ((1 : Int) ≤ (os.length : Int) ∧ (os.length : Int) ≤ 6))] at c1
      rw [want_no (by rw [show fitR os fs = false from decide_eq_false (fun h => f1 h.1)]; exact Bool.and_false _)]
      rw [hp] at cP
      clear hp
      go_enter Try.func11, Try.ntmps11
      go_wp2_with (fail)
      with_reducible refine (cP _).mono ?_
      rintro e w1 ⟨rfl, hb⟩
      have HN := Lib.hid (And.intro (HZ.out.1.full hb) (And.intro (Below.then_ HZ.out.2.1 hb) (HZ.out.2.2.kept hb)))
      have k0 := keepc' b0c hb
      have k1 := keepc' b1c hb
      clear cP hb b0c b1c HZ
      go_wp2_with (fail)
      with_reducible refine (c1 _).mono ?_
      rintro e wx ⟨rfl, rfl⟩
      clear c1
      go_wp2_with (fail)
      go_ret
      exact ⟨_, rfl, HN.out.1, HN.out.2.1⟩
end Go.Proofs.Ytmokepopmfcdnaa
