import Derived.Test.YtoeflkmhofkiaaaLlw
import Derived.Test.YtoeflkmhofkiaaaRwl
namespace Go.Proofs.Ytoeflkmhofkiaaa
open Go.RowKit
set_option maxRecDepth 100000


set_option linter.unusedSimpArgs false in
set_option maxRecDepth 100000 in
set_option maxHeartbeats 8000000 in
theorem between_law0 (r : Rv) (m B : Lv) (hB : betweenL r m = B) (w : World) (hs : m.text.size ≤ 9223372036854775807) (cI : m.text.size ≤ 1048576 → ∀ W, Calls Try.prog 21 #[.agg #[.int .i64 r.own, .int .i64 r.far, .int .i64 r.port], .agg (lvC m)] W fun e w' => e = .returned (.agg (lvC B)) ∧ Below W.heap.size W w') :
    Calls Try.prog 10 #[.agg #[.int .i64 r.own, .int .i64 r.far, .int .i64 r.port], .agg (lvC m)] w fun e w' => e = .returned (.bool true) ∧ Below w.heap.size w w' := by
  have hszL := lvC_infoL m
  have hszB := lvC_info B
  have hA0 := (Cel.new w 53 #[.int .i64 r.own, .int .i64 r.far, .int .i64 r.port]).alloc (.cells (lvC m) 61)
  have hX0 := Cel.new (w.alloc (.cells #[.int .i64 r.own, .int .i64 r.far, .int .i64 r.port] 53)) 61 (lvC m)
  have hB0 : Below w.heap.size w ((w.alloc (.cells #[.int .i64 r.own, .int .i64 r.far, .int .i64 r.port] 53)).alloc (.cells (lvC m) 61)) := Below.then_ (below_new _ _) (below_new _ _)
  simp only [World.size_alloc] at hX0
  obtain ⟨W0, hW0⟩ : ∃ W0, ((w.alloc (.cells #[.int .i64 r.own, .int .i64 r.far, .int .i64 r.port] 53)).alloc (.cells (lvC m) 61)) = W0 := ⟨_, rfl⟩
  rw [hW0] at hA0 hX0 hB0
  have HW := Lib.hid hW0
  have HD := Lib.hid (show ∀ W, Below W0.heap.size W0 W → Below w.heap.size w W ∧ Cel W w.heap.size 53 #[.int .i64 r.own, .int .i64 r.far, .int .i64 r.port] ∧ W.heap[w.heap.size + 1]? = some (.cells (lvC m) 61 (0, 0)) from fun W h => ⟨Below.then_ hB0 h, hA0.kept h, Cel.kept (t := 61) hX0 h⟩)
  clear hA0 hX0 hB0 hW0
  have cZ := fun W => sz_letter m 1048576 W hs (by omega) (by omega)
  have cL := fun W => to_letter m W
  have cR := fun W => to_road r W
  have cS := fun W => spec_between r m W
  obtain ⟨r9, hr9⟩ : ∃ r9 : Int, (if (1048576 : Int) - (m.text.size : Int) < 0 then -1 else (1048576 : Int) - (m.text.size : Int)) = r9 := ⟨_, rfl⟩
  have hBL : #[.int .i64 m.kind, .int .i64 r.own, .int .i64 r.far, .int .i64 r.port, .int .i64 m.key, .int .i64 m.token, .int .i64 m.nonce, .int .i64 m.give, .int .i64 m.sign, .int .i64 m.tag.kind, .int .i64 m.tag.one, .int .i64 m.tag.two, .int .i64 m.tag.a, .int .i64 m.tag.b, .int .i64 m.id, .int .i64 m.addr, .bool m.spare, .int .i64 m.pos, .string m.text] = (lvC B) := by rw [← hB, lvC_eq]; rfl
  rw [hBL] at cS
  rw [← lvC_eq] at cL cS
  have cE := fun W => eq_letter B W
  rw [← lvC_eq] at cE
  rw [hr9] at cZ
  have HQ := Lib.hid (show ¬ r9 < 0 → m.text.size ≤ 1048576 from fun h => by rw [← hr9] at h; split at h <;> omega)
  clear hr9 hBL hB hs
  go_enter Try.func10, Try.ntmps10
  go_upto_region 1 with (fail)
  rw [HW.out]
  clear HW
  have HB0 := Lib.hid (Below.refl W0.heap.size W0)
  have hcell := (HD.out _ HB0.out).2.2
  go_wp2_with (first | (with_reducible refine wpList_load_row rfl 61 _ rfl _ rfl 61 _ (0, 0) _ hcell Try.underlying61 rfl hszL ?_))
  with_reducible refine (cZ _).mono ?_
  rintro e w1 ⟨rfl, b1⟩
  have HB1 := Lib.hid (Below.then_ HB0.out b1)
  clear b1 HB0 cZ hcell
  by_cases q9 : r9 < 0
  · have HE := Lib.hid (HD.out _ HB1.out).1
    clear HD HB1
    go_wp2_with (fail)
    go_ret
    exact ⟨rfl, HE.out⟩
  · replace cI := cI (HQ.out (by omega))
    clear HQ
    go_upto_region 5 with (fail)
    rename_i QQ5 KK5 hKK5
    have hS : Below W0.heap.size W0 w1.drew := HB1.out.drew
    have REST5 : ∀ (g6 : Nat) (y5 : World), Below W0.heap.size W0 y5 ∧ Cel y5 g6 41 (lvC B) → KK5 { tmps := #[.agg #[.int .i64 r.own, .int .i64 r.far, .int .i64 r.port], .agg (lvC m), .pointer (some ⟨w.heap.size, 0, none⟩), .pointer (some ⟨w.heap.size + 1, 0, none⟩), .bool false, .int .i64 r9, .pointer (some ⟨g6, 0, none⟩), undef, .agg (lvC m), .int .i64 1048576, .int .i64 r9, .int .i64 r9, .bool (decide (r9 < 0)), .agg #[.int .i64 r.own, .int .i64 r.far, .int .i64 r.port], .agg #[.int .i64 r.own, .int .i64 r.far, .int .i64 r.port], .agg (lvC m), .agg (lvC m), .agg (lvC B), undef, undef, undef, undef, undef, undef, undef, undef, undef], defers := [] } y5 := by
      clear hS HB1
      intro g6 y5 hF
      refine hKK5 _ _ ?_
      have HZ := Lib.hid (show ∀ V, Below y5.heap.size y5 V → Below W0.heap.size W0 V ∧ Cel V g6 41 (lvC B) from fun V h => ⟨Below.then_ hF.1 h, hF.2.kept h⟩)
      clear hF
      have hS : Below y5.heap.size y5 y5.drew := (Below.refl _ _).drew
      go_upto_region 6 with (fail)
      rename_i KK6 hKK6
      have REST6 : ∀ (g7 : Nat) (y6 : World), Below y5.heap.size y5 y6 ∧ Cel y6 g7 41 (lvC B) → KK6 { tmps := #[.agg #[.int .i64 r.own, .int .i64 r.far, .int .i64 r.port], .agg (lvC m), .pointer (some ⟨w.heap.size, 0, none⟩), .pointer (some ⟨w.heap.size + 1, 0, none⟩), .bool false, .int .i64 r9, .pointer (some ⟨g6, 0, none⟩), .pointer (some ⟨g7, 0, none⟩), .agg (lvC m), .int .i64 1048576, .int .i64 r9, .int .i64 r9, .bool (decide (r9 < 0)), .agg #[.int .i64 r.own, .int .i64 r.far, .int .i64 r.port], .agg #[.int .i64 r.own, .int .i64 r.far, .int .i64 r.port], .agg (lvC m), .agg (lvC m), .agg (lvC B), .agg #[.int .i64 r.own, .int .i64 r.far, .int .i64 r.port], .agg #[.int .i64 r.own, .int .i64 r.far, .int .i64 r.port], .agg (lvC m), .agg (lvC m), .agg (lvC B), undef, undef, undef, undef], defers := [] } y6 := by
        clear hS
        intro g7 y6 hF
        refine hKK6 _ _ ?_
        have h7 : y6.heap[g7]? = some (.cells (lvC B) 41 (0, 0)) := hF.2
        have h6 : y6.heap[g6]? = some (.cells (lvC B) 41 (0, 0)) := (HZ.out _ hF.1).2
        have HF := Lib.hid (HZ.out _ hF.1).1
        clear hF
        go_wp2_with (first | (with_reducible refine wpList_load_row rfl 41 _ rfl _ rfl 41 _ (0, 0) _ h7 Try.underlying41 rfl hszB ?_) | (with_reducible refine wpList_load_row rfl 41 _ rfl _ rfl 41 _ (0, 0) _ h6 Try.underlying41 rfl hszB ?_))
        with_reducible refine (cE _).mono ?_
        rintro e w7 ⟨rfl, b7⟩
        have HE := Lib.hid (HD.out _ (Below.then_ HF.out b7)).1
        clear HD HF b7 h6 h7
        go_wp2_with (fail)
        go_ret
        exact ⟨rfl, HE.out⟩
      refine wp_region_held_drew (S := fun W => Below y5.heap.size y5 W) (by kernel_rfl) hS (fun hHeld => ?_)
      clear hS
      generalize y5.drew = wd6 at *
      refine take_yes (i := 0) (oi := { dst := some 18, op := Op.load 53 (Operand.tmp 2), type := 53, pos := "exact.go:4374", after := #[], guard := none }) (v := .agg #[.int .i64 r.own, .int .i64 r.far, .int .i64 r.port]) rfl (by kernel_rfl) (by kernel_rfl) (by kernel_rfl) (fun _ _ _ h => h) (by rfl) (fun w hSw => by (try dsimp only at hSw); obtain ⟨r0, r1, r2⟩ := cel3r (HD.out _ (HZ.out _ hSw).1).2.1; go_simp) (by assumption) ?_
      try simp only [Act.put, List.setIfInBounds_toArray, List.set_cons_zero, List.set_cons_succ]
      refine take_yes (i := 2) (oi := { dst := some 20, op := Op.load 61 (Operand.tmp 3), type := 61, pos := "exact.go:4374", after := #[], guard := none }) (v := .agg (lvC m)) rfl (by kernel_rfl) (by kernel_rfl) (by kernel_rfl) (fun _ _ _ h => h) (by rfl) (fun w hSw => yes_load_row 61 _ rfl _ (by first | rfl | simp [Act.eval, Act.put]) _ (run_loadVar_row _ _ 61 61 _ (0, 0) _ (HD.out _ (HZ.out _ hSw).1).2.2 Try.underlying61 rfl hszL)) (by assumption) ?_
      try simp only [Act.put, List.setIfInBounds_toArray, List.set_cons_zero, List.set_cons_succ]
      refine wpAnyH_ready (rs := [1, 5]) (by kernel_rfl) (by simp) ?_
      refine AllReadyH.cons (o := { dst := some 19, op := Op.call { callee := Callee.value (Operand.func 40), args := #[Operand.tmp 18], argTypes := #[53] }, type := 26, pos := "exact.go:4374", after := #[{ on := 0, ground := Ground.data }], guard := none }) rfl (fun K hK => ?_) ?_
      · go_simp
        with_reducible refine (cR _).mono ?_
        rintro e wA1 ⟨rfl, bA⟩
        have KA2 := Below.then_ hHeld bA
        clear bA
        refine hK.out _ _ KA2 (fun hHeldN => ?_)
        clear hK K hHeld
        have hHeld := hHeldN
        clear hHeldN
        try simp only [Act.put, List.setIfInBounds_toArray, List.set_cons_zero, List.set_cons_succ]
        refine wpAnyH_ready (rs := [3, 5]) (by kernel_rfl) (by simp) ?_
        refine AllReadyH.cons (o := { dst := some 21, op := Op.call { callee := Callee.value (Operand.func 35), args := #[Operand.tmp 20], argTypes := #[61] }, type := 41, pos := "exact.go:4374", after := #[{ on := 2, ground := Ground.data }, { on := 1, ground := Ground.chain }], guard := none }) rfl (fun K hK => ?_) ?_
        · go_simp
          with_reducible refine (cL _).mono ?_
          rintro e wA3 ⟨rfl, bA⟩
          have KA4 := Below.then_ hHeld bA
          clear bA
          refine hK.out _ _ KA4 (fun hHeldN => ?_)
          clear hK K hHeld
          have hHeld := hHeldN
          clear hHeldN
          try simp only [Act.put, List.setIfInBounds_toArray, List.set_cons_zero, List.set_cons_succ]
          refine wpAnyH_ready (rs := [4, 5]) (by kernel_rfl) (by simp) ?_
          refine AllReadyH.cons (o := { dst := some 22, op := Op.call { callee := Callee.value (Operand.func 21), args := #[Operand.tmp 19, Operand.tmp 21], argTypes := #[26, 41] }, type := 41, pos := "exact.go:4374", after := #[{ on := 1, ground := Ground.data }, { on := 3, ground := Ground.data }, { on := 3, ground := Ground.chain }], guard := none }) rfl (fun K hK => ?_) ?_
          · go_simp
            with_reducible refine (cI _).mono ?_
            rintro e wA5 ⟨rfl, bA⟩
            have KA6 := Below.then_ hHeld bA
            clear bA
            refine hK.out _ _ KA6 (fun hHeldN => ?_)
            clear hK K hHeld
            have hHeld := hHeldN
            clear hHeldN
            try simp only [Act.put, List.setIfInBounds_toArray, List.set_cons_zero, List.set_cons_succ]
            refine wpAnyH_ready (rs := [5]) (by kernel_rfl) (by simp) ?_
            refine AllReadyH.cons (o := { dst := some 7, op := Op.alloc 41, type := 0, pos := "exact.go:4374", after := #[], guard := none }) rfl (fun K hK => ?_) AllReadyH.nil
            go_simp
            have KB9 := Below.then_ hHeld (below_new wA5 (.cells #[.int .i64 0, .int .i64 0, .int .i64 0, .int .i64 0, .int .i64 0, .int .i64 0, .int .i64 0, .int .i64 0, .int .i64 0, .int .i64 0, .int .i64 0, .int .i64 0, .int .i64 0, .int .i64 0, .int .i64 0, .int .i64 0, .bool false, .int .i64 0, .string ⟨#[]⟩] 41))
            have HB7 := Lib.hid (And.intro (Cel.new wA5 41 #[.int .i64 0, .int .i64 0, .int .i64 0, .int .i64 0, .int .i64 0, .int .i64 0, .int .i64 0, .int .i64 0, .int .i64 0, .int .i64 0, .int .i64 0, .int .i64 0, .int .i64 0, .int .i64 0, .int .i64 0, .int .i64 0, .bool false, .int .i64 0, .string ⟨#[]⟩]) hHeld.size)
            generalize wA5.heap.size = gb10 at *
            generalize wA5.alloc (.cells #[.int .i64 0, .int .i64 0, .int .i64 0, .int .i64 0, .int .i64 0, .int .i64 0, .int .i64 0, .int .i64 0, .int .i64 0, .int .i64 0, .int .i64 0, .int .i64 0, .int .i64 0, .int .i64 0, .int .i64 0, .int .i64 0, .bool false, .int .i64 0, .string ⟨#[]⟩] 41) = wB8 at *
            refine hK.out _ _ KB9 (fun hHeldN => ?_)
            clear hK K hHeld
            have hHeld := hHeldN
            clear hHeldN
            try simp only [Act.put, List.setIfInBounds_toArray, List.set_cons_zero, List.set_cons_succ]
            refine wpAnyH_ready (rs := [6]) (by kernel_rfl) (by simp) ?_
            refine AllReadyH.cons (o := { dst := none, op := Op.store 41 (Operand.tmp 7) (Operand.tmp 22), type := 0, pos := "exact.go:4374", after := #[{ on := 5, ground := Ground.data }, { on := 4, ground := Ground.data }, { on := 4, ground := Ground.chain }, { on := 0, ground := Ground.phase }, { on := 1, ground := Ground.phase }, { on := 2, ground := Ground.phase }, { on := 3, ground := Ground.phase }, { on := 4, ground := Ground.phase }, { on := 5, ground := Ground.phase }], guard := none }) rfl (fun K hK => ?_) AllReadyH.nil
            refine step_store_row rfl 41 _ _ rfl gb10 (lvC B) (by simp [Act.eval, Act.put]) (by simp [Act.eval, Act.put]) 41 #[.int .i64 0, .int .i64 0, .int .i64 0, .int .i64 0, .int .i64 0, .int .i64 0, .int .i64 0, .int .i64 0, .int .i64 0, .int .i64 0, .int .i64 0, .int .i64 0, .int .i64 0, .int .i64 0, .int .i64 0, .int .i64 0, .bool false, .int .i64 0, .string ⟨#[]⟩] HB7.out.1 hszB (lvC_size B).symm (lvC_all B) ?_
            have KF11 : Below y5.heap.size y5 (wB8.setRow gb10 (lvC B)) := below_row hHeld HB7.out.2 _
            have HF12 := Lib.hid (Cel.row (t := 41) HB7.out.1 (lvC B))
            clear HB7
            generalize wB8.setRow gb10 (lvC B) = w9 at *
            refine hK.out _ _ KF11 (fun hHeldN => ?_)
            clear hK K hHeld
            have hHeld := hHeldN
            clear hHeldN
            try simp only [Act.put, List.setIfInBounds_toArray, List.set_cons_zero, List.set_cons_succ]
            refine wpAnyH_done (by kernel_rfl) ?_ _
            have hHeld2 := hHeld
            clear hHeld
            exact REST6 _ _ ⟨hHeld2, HF12.out⟩
          refine AllReadyH.cons (o := { dst := some 7, op := Op.alloc 41, type := 0, pos := "exact.go:4374", after := #[], guard := none }) rfl (fun K hK => ?_) AllReadyH.nil
          go_simp
          have KB15 := Below.then_ hHeld (below_new wA3 (.cells #[.int .i64 0, .int .i64 0, .int .i64 0, .int .i64 0, .int .i64 0, .int .i64 0, .int .i64 0, .int .i64 0, .int .i64 0, .int .i64 0, .int .i64 0, .int .i64 0, .int .i64 0, .int .i64 0, .int .i64 0, .int .i64 0, .bool false, .int .i64 0, .string ⟨#[]⟩] 41))
          have HB13 := Lib.hid (And.intro (Cel.new wA3 41 #[.int .i64 0, .int .i64 0, .int .i64 0, .int .i64 0, .int .i64 0, .int .i64 0, .int .i64 0, .int .i64 0, .int .i64 0, .int .i64 0, .int .i64 0, .int .i64 0, .int .i64 0, .int .i64 0, .int .i64 0, .int .i64 0, .bool false, .int .i64 0, .string ⟨#[]⟩]) hHeld.size)
          generalize wA3.heap.size = gb16 at *
          generalize wA3.alloc (.cells #[.int .i64 0, .int .i64 0, .int .i64 0, .int .i64 0, .int .i64 0, .int .i64 0, .int .i64 0, .int .i64 0, .int .i64 0, .int .i64 0, .int .i64 0, .int .i64 0, .int .i64 0, .int .i64 0, .int .i64 0, .int .i64 0, .bool false, .int .i64 0, .string ⟨#[]⟩] 41) = wB14 at *
          refine hK.out _ _ KB15 (fun hHeldN => ?_)
          clear hK K hHeld
          have hHeld := hHeldN
          clear hHeldN
          try simp only [Act.put, List.setIfInBounds_toArray, List.set_cons_zero, List.set_cons_succ]
          refine wpAnyH_ready (rs := [4]) (by kernel_rfl) (by simp) ?_
          refine AllReadyH.cons (o := { dst := some 22, op := Op.call { callee := Callee.value (Operand.func 21), args := #[Operand.tmp 19, Operand.tmp 21], argTypes := #[26, 41] }, type := 41, pos := "exact.go:4374", after := #[{ on := 1, ground := Ground.data }, { on := 3, ground := Ground.data }, { on := 3, ground := Ground.chain }], guard := none }) rfl (fun K hK => ?_) AllReadyH.nil
          go_simp
          with_reducible refine (cI _).mono ?_
          rintro e wA17 ⟨rfl, bA⟩
          have KA18 := Below.then_ hHeld bA
          have HB19 := Lib.hid (And.intro (Cel.kept (t := 41) HB13.out.1 bA) HB13.out.2)
          clear HB13
          clear bA
          refine hK.out _ _ KA18 (fun hHeldN => ?_)
          clear hK K hHeld
          have hHeld := hHeldN
          clear hHeldN
          try simp only [Act.put, List.setIfInBounds_toArray, List.set_cons_zero, List.set_cons_succ]
          refine wpAnyH_ready (rs := [6]) (by kernel_rfl) (by simp) ?_
          refine AllReadyH.cons (o := { dst := none, op := Op.store 41 (Operand.tmp 7) (Operand.tmp 22), type := 0, pos := "exact.go:4374", after := #[{ on := 5, ground := Ground.data }, { on := 4, ground := Ground.data }, { on := 4, ground := Ground.chain }, { on := 0, ground := Ground.phase }, { on := 1, ground := Ground.phase }, { on := 2, ground := Ground.phase }, { on := 3, ground := Ground.phase }, { on := 4, ground := Ground.phase }, { on := 5, ground := Ground.phase }], guard := none }) rfl (fun K hK => ?_) AllReadyH.nil
          refine step_store_row rfl 41 _ _ rfl gb16 (lvC B) (by simp [Act.eval, Act.put]) (by simp [Act.eval, Act.put]) 41 #[.int .i64 0, .int .i64 0, .int .i64 0, .int .i64 0, .int .i64 0, .int .i64 0, .int .i64 0, .int .i64 0, .int .i64 0, .int .i64 0, .int .i64 0, .int .i64 0, .int .i64 0, .int .i64 0, .int .i64 0, .int .i64 0, .bool false, .int .i64 0, .string ⟨#[]⟩] HB19.out.1 hszB (lvC_size B).symm (lvC_all B) ?_
          have KF20 : Below y5.heap.size y5 (wA17.setRow gb16 (lvC B)) := below_row hHeld HB19.out.2 _
          have HF21 := Lib.hid (Cel.row (t := 41) HB19.out.1 (lvC B))
          clear HB19
          generalize wA17.setRow gb16 (lvC B) = w9 at *
          refine hK.out _ _ KF20 (fun hHeldN => ?_)
          clear hK K hHeld
          have hHeld := hHeldN
          clear hHeldN
          try simp only [Act.put, List.setIfInBounds_toArray, List.set_cons_zero, List.set_cons_succ]
          refine wpAnyH_done (by kernel_rfl) ?_ _
          have hHeld2 := hHeld
          clear hHeld
          exact REST6 _ _ ⟨hHeld2, HF21.out⟩
        refine AllReadyH.cons (o := { dst := some 7, op := Op.alloc 41, type := 0, pos := "exact.go:4374", after := #[], guard := none }) rfl (fun K hK => ?_) AllReadyH.nil
        go_simp
        have KB24 := Below.then_ hHeld (below_new wA1 (.cells #[.int .i64 0, .int .i64 0, .int .i64 0, .int .i64 0, .int .i64 0, .int .i64 0, .int .i64 0, .int .i64 0, .int .i64 0, .int .i64 0, .int .i64 0, .int .i64 0, .int .i64 0, .int .i64 0, .int .i64 0, .int .i64 0, .bool false, .int .i64 0, .string ⟨#[]⟩] 41))
        have HB22 := Lib.hid (And.intro (Cel.new wA1 41 #[.int .i64 0, .int .i64 0, .int .i64 0, .int .i64 0, .int .i64 0, .int .i64 0, .int .i64 0, .int .i64 0, .int .i64 0, .int .i64 0, .int .i64 0, .int .i64 0, .int .i64 0, .int .i64 0, .int .i64 0, .int .i64 0, .bool false, .int .i64 0, .string ⟨#[]⟩]) hHeld.size)
        generalize wA1.heap.size = gb25 at *
        generalize wA1.alloc (.cells #[.int .i64 0, .int .i64 0, .int .i64 0, .int .i64 0, .int .i64 0, .int .i64 0, .int .i64 0, .int .i64 0, .int .i64 0, .int .i64 0, .int .i64 0, .int .i64 0, .int .i64 0, .int .i64 0, .int .i64 0, .int .i64 0, .bool false, .int .i64 0, .string ⟨#[]⟩] 41) = wB23 at *
        refine hK.out _ _ KB24 (fun hHeldN => ?_)
        clear hK K hHeld
        have hHeld := hHeldN
        clear hHeldN
        try simp only [Act.put, List.setIfInBounds_toArray, List.set_cons_zero, List.set_cons_succ]
        refine wpAnyH_ready (rs := [3]) (by kernel_rfl) (by simp) ?_
        refine AllReadyH.cons (o := { dst := some 21, op := Op.call { callee := Callee.value (Operand.func 35), args := #[Operand.tmp 20], argTypes := #[61] }, type := 41, pos := "exact.go:4374", after := #[{ on := 2, ground := Ground.data }, { on := 1, ground := Ground.chain }], guard := none }) rfl (fun K hK => ?_) AllReadyH.nil
        go_simp
        with_reducible refine (cL _).mono ?_
        rintro e wA26 ⟨rfl, bA⟩
        have KA27 := Below.then_ hHeld bA
        have HB28 := Lib.hid (And.intro (Cel.kept (t := 41) HB22.out.1 bA) HB22.out.2)
        clear HB22
        clear bA
        refine hK.out _ _ KA27 (fun hHeldN => ?_)
        clear hK K hHeld
        have hHeld := hHeldN
        clear hHeldN
        try simp only [Act.put, List.setIfInBounds_toArray, List.set_cons_zero, List.set_cons_succ]
        refine wpAnyH_ready (rs := [4]) (by kernel_rfl) (by simp) ?_
        refine AllReadyH.cons (o := { dst := some 22, op := Op.call { callee := Callee.value (Operand.func 21), args := #[Operand.tmp 19, Operand.tmp 21], argTypes := #[26, 41] }, type := 41, pos := "exact.go:4374", after := #[{ on := 1, ground := Ground.data }, { on := 3, ground := Ground.data }, { on := 3, ground := Ground.chain }], guard := none }) rfl (fun K hK => ?_) AllReadyH.nil
        go_simp
        with_reducible refine (cI _).mono ?_
        rintro e wA29 ⟨rfl, bA⟩
        have KA30 := Below.then_ hHeld bA
        have HB31 := Lib.hid (And.intro (Cel.kept (t := 41) HB28.out.1 bA) HB28.out.2)
        clear HB28
        clear bA
        refine hK.out _ _ KA30 (fun hHeldN => ?_)
        clear hK K hHeld
        have hHeld := hHeldN
        clear hHeldN
        try simp only [Act.put, List.setIfInBounds_toArray, List.set_cons_zero, List.set_cons_succ]
        refine wpAnyH_ready (rs := [6]) (by kernel_rfl) (by simp) ?_
        refine AllReadyH.cons (o := { dst := none, op := Op.store 41 (Operand.tmp 7) (Operand.tmp 22), type := 0, pos := "exact.go:4374", after := #[{ on := 5, ground := Ground.data }, { on := 4, ground := Ground.data }, { on := 4, ground := Ground.chain }, { on := 0, ground := Ground.phase }, { on := 1, ground := Ground.phase }, { on := 2, ground := Ground.phase }, { on := 3, ground := Ground.phase }, { on := 4, ground := Ground.phase }, { on := 5, ground := Ground.phase }], guard := none }) rfl (fun K hK => ?_) AllReadyH.nil
        refine step_store_row rfl 41 _ _ rfl gb25 (lvC B) (by simp [Act.eval, Act.put]) (by simp [Act.eval, Act.put]) 41 #[.int .i64 0, .int .i64 0, .int .i64 0, .int .i64 0, .int .i64 0, .int .i64 0, .int .i64 0, .int .i64 0, .int .i64 0, .int .i64 0, .int .i64 0, .int .i64 0, .int .i64 0, .int .i64 0, .int .i64 0, .int .i64 0, .bool false, .int .i64 0, .string ⟨#[]⟩] HB31.out.1 hszB (lvC_size B).symm (lvC_all B) ?_
        have KF32 : Below y5.heap.size y5 (wA29.setRow gb25 (lvC B)) := below_row hHeld HB31.out.2 _
        have HF33 := Lib.hid (Cel.row (t := 41) HB31.out.1 (lvC B))
        clear HB31
        generalize wA29.setRow gb25 (lvC B) = w9 at *
        refine hK.out _ _ KF32 (fun hHeldN => ?_)
        clear hK K hHeld
        have hHeld := hHeldN
        clear hHeldN
        try simp only [Act.put, List.setIfInBounds_toArray, List.set_cons_zero, List.set_cons_succ]
        refine wpAnyH_done (by kernel_rfl) ?_ _
        have hHeld2 := hHeld
        clear hHeld
        exact REST6 _ _ ⟨hHeld2, HF33.out⟩
      refine AllReadyH.cons (o := { dst := some 7, op := Op.alloc 41, type := 0, pos := "exact.go:4374", after := #[], guard := none }) rfl (fun K hK => ?_) AllReadyH.nil
      go_simp
      have KB36 := Below.then_ hHeld (below_new wd6 (.cells #[.int .i64 0, .int .i64 0, .int .i64 0, .int .i64 0, .int .i64 0, .int .i64 0, .int .i64 0, .int .i64 0, .int .i64 0, .int .i64 0, .int .i64 0, .int .i64 0, .int .i64 0, .int .i64 0, .int .i64 0, .int .i64 0, .bool false, .int .i64 0, .string ⟨#[]⟩] 41))
      have HB34 := Lib.hid (And.intro (Cel.new wd6 41 #[.int .i64 0, .int .i64 0, .int .i64 0, .int .i64 0, .int .i64 0, .int .i64 0, .int .i64 0, .int .i64 0, .int .i64 0, .int .i64 0, .int .i64 0, .int .i64 0, .int .i64 0, .int .i64 0, .int .i64 0, .int .i64 0, .bool false, .int .i64 0, .string ⟨#[]⟩]) hHeld.size)
      generalize wd6.heap.size = gb37 at *
      generalize wd6.alloc (.cells #[.int .i64 0, .int .i64 0, .int .i64 0, .int .i64 0, .int .i64 0, .int .i64 0, .int .i64 0, .int .i64 0, .int .i64 0, .int .i64 0, .int .i64 0, .int .i64 0, .int .i64 0, .int .i64 0, .int .i64 0, .int .i64 0, .bool false, .int .i64 0, .string ⟨#[]⟩] 41) = wB35 at *
      refine hK.out _ _ KB36 (fun hHeldN => ?_)
      clear hK K hHeld
      have hHeld := hHeldN
      clear hHeldN
      try simp only [Act.put, List.setIfInBounds_toArray, List.set_cons_zero, List.set_cons_succ]
      refine wpAnyH_ready (rs := [1]) (by kernel_rfl) (by simp) ?_
      refine AllReadyH.cons (o := { dst := some 19, op := Op.call { callee := Callee.value (Operand.func 40), args := #[Operand.tmp 18], argTypes := #[53] }, type := 26, pos := "exact.go:4374", after := #[{ on := 0, ground := Ground.data }], guard := none }) rfl (fun K hK => ?_) AllReadyH.nil
      go_simp
      with_reducible refine (cR _).mono ?_
      rintro e wA38 ⟨rfl, bA⟩
      have KA39 := Below.then_ hHeld bA
      have HB40 := Lib.hid (And.intro (Cel.kept (t := 41) HB34.out.1 bA) HB34.out.2)
      clear HB34
      clear bA
      refine hK.out _ _ KA39 (fun hHeldN => ?_)
      clear hK K hHeld
      have hHeld := hHeldN
      clear hHeldN
      try simp only [Act.put, List.setIfInBounds_toArray, List.set_cons_zero, List.set_cons_succ]
      refine wpAnyH_ready (rs := [3]) (by kernel_rfl) (by simp) ?_
      refine AllReadyH.cons (o := { dst := some 21, op := Op.call { callee := Callee.value (Operand.func 35), args := #[Operand.tmp 20], argTypes := #[61] }, type := 41, pos := "exact.go:4374", after := #[{ on := 2, ground := Ground.data }, { on := 1, ground := Ground.chain }], guard := none }) rfl (fun K hK => ?_) AllReadyH.nil
      go_simp
      with_reducible refine (cL _).mono ?_
      rintro e wA41 ⟨rfl, bA⟩
      have KA42 := Below.then_ hHeld bA
      have HB43 := Lib.hid (And.intro (Cel.kept (t := 41) HB40.out.1 bA) HB40.out.2)
      clear HB40
      clear bA
      refine hK.out _ _ KA42 (fun hHeldN => ?_)
      clear hK K hHeld
      have hHeld := hHeldN
      clear hHeldN
      try simp only [Act.put, List.setIfInBounds_toArray, List.set_cons_zero, List.set_cons_succ]
      refine wpAnyH_ready (rs := [4]) (by kernel_rfl) (by simp) ?_
      refine AllReadyH.cons (o := { dst := some 22, op := Op.call { callee := Callee.value (Operand.func 21), args := #[Operand.tmp 19, Operand.tmp 21], argTypes := #[26, 41] }, type := 41, pos := "exact.go:4374", after := #[{ on := 1, ground := Ground.data }, { on := 3, ground := Ground.data }, { on := 3, ground := Ground.chain }], guard := none }) rfl (fun K hK => ?_) AllReadyH.nil
      go_simp
      with_reducible refine (cI _).mono ?_
      rintro e wA44 ⟨rfl, bA⟩
      have KA45 := Below.then_ hHeld bA
      have HB46 := Lib.hid (And.intro (Cel.kept (t := 41) HB43.out.1 bA) HB43.out.2)
      clear HB43
      clear bA
      refine hK.out _ _ KA45 (fun hHeldN => ?_)
      clear hK K hHeld
      have hHeld := hHeldN
      clear hHeldN
      try simp only [Act.put, List.setIfInBounds_toArray, List.set_cons_zero, List.set_cons_succ]
      refine wpAnyH_ready (rs := [6]) (by kernel_rfl) (by simp) ?_
      refine AllReadyH.cons (o := { dst := none, op := Op.store 41 (Operand.tmp 7) (Operand.tmp 22), type := 0, pos := "exact.go:4374", after := #[{ on := 5, ground := Ground.data }, { on := 4, ground := Ground.data }, { on := 4, ground := Ground.chain }, { on := 0, ground := Ground.phase }, { on := 1, ground := Ground.phase }, { on := 2, ground := Ground.phase }, { on := 3, ground := Ground.phase }, { on := 4, ground := Ground.phase }, { on := 5, ground := Ground.phase }], guard := none }) rfl (fun K hK => ?_) AllReadyH.nil
      refine step_store_row rfl 41 _ _ rfl gb37 (lvC B) (by simp [Act.eval, Act.put]) (by simp [Act.eval, Act.put]) 41 #[.int .i64 0, .int .i64 0, .int .i64 0, .int .i64 0, .int .i64 0, .int .i64 0, .int .i64 0, .int .i64 0, .int .i64 0, .int .i64 0, .int .i64 0, .int .i64 0, .int .i64 0, .int .i64 0, .int .i64 0, .int .i64 0, .bool false, .int .i64 0, .string ⟨#[]⟩] HB46.out.1 hszB (lvC_size B).symm (lvC_all B) ?_
      have KF47 : Below y5.heap.size y5 (wA44.setRow gb37 (lvC B)) := below_row hHeld HB46.out.2 _
      have HF48 := Lib.hid (Cel.row (t := 41) HB46.out.1 (lvC B))
      clear HB46
      generalize wA44.setRow gb37 (lvC B) = w9 at *
      refine hK.out _ _ KF47 (fun hHeldN => ?_)
      clear hK K hHeld
      have hHeld := hHeldN
      clear hHeldN
      try simp only [Act.put, List.setIfInBounds_toArray, List.set_cons_zero, List.set_cons_succ]
      refine wpAnyH_done (by kernel_rfl) ?_ _
      have hHeld2 := hHeld
      clear hHeld
      exact REST6 _ _ ⟨hHeld2, HF48.out⟩
    refine wp_region_held_drew (S := fun W => Below W0.heap.size W0 W) (by kernel_rfl) hS (fun hHeld => ?_)
    clear hS
    generalize w1.drew = wd5 at *
    refine take_yes (i := 0) (oi := { dst := some 13, op := Op.load 53 (Operand.tmp 2), type := 53, pos := "exact.go:4373", after := #[], guard := none }) (v := .agg #[.int .i64 r.own, .int .i64 r.far, .int .i64 r.port]) rfl (by kernel_rfl) (by kernel_rfl) (by kernel_rfl) (fun _ _ _ h => h) (by rfl) (fun w hSw => by (try dsimp only at hSw); obtain ⟨r0, r1, r2⟩ := cel3r (HD.out _ hSw).2.1; go_simp) (by assumption) ?_
    try simp only [Act.put, List.setIfInBounds_toArray, List.set_cons_zero, List.set_cons_succ]
    refine take_yes (i := 2) (oi := { dst := some 15, op := Op.load 61 (Operand.tmp 3), type := 61, pos := "exact.go:4373", after := #[], guard := none }) (v := .agg (lvC m)) rfl (by kernel_rfl) (by kernel_rfl) (by kernel_rfl) (fun _ _ _ h => h) (by rfl) (fun w hSw => yes_load_row 61 _ rfl _ (by first | rfl | simp [Act.eval, Act.put]) _ (run_loadVar_row _ _ 61 61 _ (0, 0) _ (HD.out _ hSw).2.2 Try.underlying61 rfl hszL)) (by assumption) ?_
    try simp only [Act.put, List.setIfInBounds_toArray, List.set_cons_zero, List.set_cons_succ]
    refine wpAnyH_ready (rs := [1, 5]) (by kernel_rfl) (by simp) ?_
    refine AllReadyH.cons (o := { dst := some 14, op := Op.call { callee := Callee.value (Operand.func 40), args := #[Operand.tmp 13], argTypes := #[53] }, type := 26, pos := "exact.go:4373", after := #[{ on := 0, ground := Ground.data }], guard := none }) rfl (fun K hK => ?_) ?_
    · go_simp
      with_reducible refine (cR _).mono ?_
      rintro e wA49 ⟨rfl, bA⟩
      have KA50 := Below.then_ hHeld bA
      clear bA
      refine hK.out _ _ KA50 (fun hHeldN => ?_)
      clear hK K hHeld
      have hHeld := hHeldN
      clear hHeldN
      try simp only [Act.put, List.setIfInBounds_toArray, List.set_cons_zero, List.set_cons_succ]
      refine wpAnyH_ready (rs := [3, 5]) (by kernel_rfl) (by simp) ?_
      refine AllReadyH.cons (o := { dst := some 16, op := Op.call { callee := Callee.value (Operand.func 35), args := #[Operand.tmp 15], argTypes := #[61] }, type := 41, pos := "exact.go:4373", after := #[{ on := 2, ground := Ground.data }, { on := 1, ground := Ground.chain }], guard := none }) rfl (fun K hK => ?_) ?_
      · go_simp
        with_reducible refine (cL _).mono ?_
        rintro e wA51 ⟨rfl, bA⟩
        have KA52 := Below.then_ hHeld bA
        clear bA
        refine hK.out _ _ KA52 (fun hHeldN => ?_)
        clear hK K hHeld
        have hHeld := hHeldN
        clear hHeldN
        try simp only [Act.put, List.setIfInBounds_toArray, List.set_cons_zero, List.set_cons_succ]
        refine wpAnyH_ready (rs := [4, 5]) (by kernel_rfl) (by simp) ?_
        refine AllReadyH.cons (o := { dst := some 17, op := Op.call { callee := Callee.value (Operand.func 39), args := #[Operand.tmp 14, Operand.tmp 16], argTypes := #[26, 41] }, type := 41, pos := "exact.go:4373", after := #[{ on := 1, ground := Ground.data }, { on := 3, ground := Ground.data }, { on := 3, ground := Ground.chain }], guard := none }) rfl (fun K hK => ?_) ?_
        · go_simp
          with_reducible refine (cS _).mono ?_
          rintro e wA53 ⟨rfl, bA⟩
          have KA54 := Below.then_ hHeld bA
          clear bA
          refine hK.out _ _ KA54 (fun hHeldN => ?_)
          clear hK K hHeld
          have hHeld := hHeldN
          clear hHeldN
          try simp only [Act.put, List.setIfInBounds_toArray, List.set_cons_zero, List.set_cons_succ]
          refine wpAnyH_ready (rs := [5]) (by kernel_rfl) (by simp) ?_
          refine AllReadyH.cons (o := { dst := some 6, op := Op.alloc 41, type := 0, pos := "exact.go:4373", after := #[], guard := none }) rfl (fun K hK => ?_) AllReadyH.nil
          go_simp
          have KB57 := Below.then_ hHeld (below_new wA53 (.cells #[.int .i64 0, .int .i64 0, .int .i64 0, .int .i64 0, .int .i64 0, .int .i64 0, .int .i64 0, .int .i64 0, .int .i64 0, .int .i64 0, .int .i64 0, .int .i64 0, .int .i64 0, .int .i64 0, .int .i64 0, .int .i64 0, .bool false, .int .i64 0, .string ⟨#[]⟩] 41))
          have HB55 := Lib.hid (And.intro (Cel.new wA53 41 #[.int .i64 0, .int .i64 0, .int .i64 0, .int .i64 0, .int .i64 0, .int .i64 0, .int .i64 0, .int .i64 0, .int .i64 0, .int .i64 0, .int .i64 0, .int .i64 0, .int .i64 0, .int .i64 0, .int .i64 0, .int .i64 0, .bool false, .int .i64 0, .string ⟨#[]⟩]) hHeld.size)
          generalize wA53.heap.size = gb58 at *
          generalize wA53.alloc (.cells #[.int .i64 0, .int .i64 0, .int .i64 0, .int .i64 0, .int .i64 0, .int .i64 0, .int .i64 0, .int .i64 0, .int .i64 0, .int .i64 0, .int .i64 0, .int .i64 0, .int .i64 0, .int .i64 0, .int .i64 0, .int .i64 0, .bool false, .int .i64 0, .string ⟨#[]⟩] 41) = wB56 at *
          refine hK.out _ _ KB57 (fun hHeldN => ?_)
          clear hK K hHeld
          have hHeld := hHeldN
          clear hHeldN
          try simp only [Act.put, List.setIfInBounds_toArray, List.set_cons_zero, List.set_cons_succ]
          refine wpAnyH_ready (rs := [6]) (by kernel_rfl) (by simp) ?_
          refine AllReadyH.cons (o := { dst := none, op := Op.store 41 (Operand.tmp 6) (Operand.tmp 17), type := 0, pos := "exact.go:4373", after := #[{ on := 5, ground := Ground.data }, { on := 4, ground := Ground.data }, { on := 4, ground := Ground.chain }, { on := 0, ground := Ground.phase }, { on := 1, ground := Ground.phase }, { on := 2, ground := Ground.phase }, { on := 3, ground := Ground.phase }, { on := 4, ground := Ground.phase }, { on := 5, ground := Ground.phase }], guard := none }) rfl (fun K hK => ?_) AllReadyH.nil
          refine step_store_row rfl 41 _ _ rfl gb58 (lvC B) (by simp [Act.eval, Act.put]) (by simp [Act.eval, Act.put]) 41 #[.int .i64 0, .int .i64 0, .int .i64 0, .int .i64 0, .int .i64 0, .int .i64 0, .int .i64 0, .int .i64 0, .int .i64 0, .int .i64 0, .int .i64 0, .int .i64 0, .int .i64 0, .int .i64 0, .int .i64 0, .int .i64 0, .bool false, .int .i64 0, .string ⟨#[]⟩] HB55.out.1 hszB (lvC_size B).symm (lvC_all B) ?_
          have KF59 : Below W0.heap.size W0 (wB56.setRow gb58 (lvC B)) := below_row hHeld HB55.out.2 _
          have HF60 := Lib.hid (Cel.row (t := 41) HB55.out.1 (lvC B))
          clear HB55
          generalize wB56.setRow gb58 (lvC B) = w9 at *
          refine hK.out _ _ KF59 (fun hHeldN => ?_)
          clear hK K hHeld
          have hHeld := hHeldN
          clear hHeldN
          try simp only [Act.put, List.setIfInBounds_toArray, List.set_cons_zero, List.set_cons_succ]
          refine wpAnyH_done (by kernel_rfl) ?_ _
          have hHeld2 := hHeld
          clear hHeld
          exact REST5 _ _ ⟨hHeld2, HF60.out⟩
        refine AllReadyH.cons (o := { dst := some 6, op := Op.alloc 41, type := 0, pos := "exact.go:4373", after := #[], guard := none }) rfl (fun K hK => ?_) AllReadyH.nil
        go_simp
        have KB63 := Below.then_ hHeld (below_new wA51 (.cells #[.int .i64 0, .int .i64 0, .int .i64 0, .int .i64 0, .int .i64 0, .int .i64 0, .int .i64 0, .int .i64 0, .int .i64 0, .int .i64 0, .int .i64 0, .int .i64 0, .int .i64 0, .int .i64 0, .int .i64 0, .int .i64 0, .bool false, .int .i64 0, .string ⟨#[]⟩] 41))
        have HB61 := Lib.hid (And.intro (Cel.new wA51 41 #[.int .i64 0, .int .i64 0, .int .i64 0, .int .i64 0, .int .i64 0, .int .i64 0, .int .i64 0, .int .i64 0, .int .i64 0, .int .i64 0, .int .i64 0, .int .i64 0, .int .i64 0, .int .i64 0, .int .i64 0, .int .i64 0, .bool false, .int .i64 0, .string ⟨#[]⟩]) hHeld.size)
        generalize wA51.heap.size = gb64 at *
        generalize wA51.alloc (.cells #[.int .i64 0, .int .i64 0, .int .i64 0, .int .i64 0, .int .i64 0, .int .i64 0, .int .i64 0, .int .i64 0, .int .i64 0, .int .i64 0, .int .i64 0, .int .i64 0, .int .i64 0, .int .i64 0, .int .i64 0, .int .i64 0, .bool false, .int .i64 0, .string ⟨#[]⟩] 41) = wB62 at *
        refine hK.out _ _ KB63 (fun hHeldN => ?_)
        clear hK K hHeld
        have hHeld := hHeldN
        clear hHeldN
        try simp only [Act.put, List.setIfInBounds_toArray, List.set_cons_zero, List.set_cons_succ]
        refine wpAnyH_ready (rs := [4]) (by kernel_rfl) (by simp) ?_
        refine AllReadyH.cons (o := { dst := some 17, op := Op.call { callee := Callee.value (Operand.func 39), args := #[Operand.tmp 14, Operand.tmp 16], argTypes := #[26, 41] }, type := 41, pos := "exact.go:4373", after := #[{ on := 1, ground := Ground.data }, { on := 3, ground := Ground.data }, { on := 3, ground := Ground.chain }], guard := none }) rfl (fun K hK => ?_) AllReadyH.nil
        go_simp
        with_reducible refine (cS _).mono ?_
        rintro e wA65 ⟨rfl, bA⟩
        have KA66 := Below.then_ hHeld bA
        have HB67 := Lib.hid (And.intro (Cel.kept (t := 41) HB61.out.1 bA) HB61.out.2)
        clear HB61
        clear bA
        refine hK.out _ _ KA66 (fun hHeldN => ?_)
        clear hK K hHeld
        have hHeld := hHeldN
        clear hHeldN
        try simp only [Act.put, List.setIfInBounds_toArray, List.set_cons_zero, List.set_cons_succ]
        refine wpAnyH_ready (rs := [6]) (by kernel_rfl) (by simp) ?_
        refine AllReadyH.cons (o := { dst := none, op := Op.store 41 (Operand.tmp 6) (Operand.tmp 17), type := 0, pos := "exact.go:4373", after := #[{ on := 5, ground := Ground.data }, { on := 4, ground := Ground.data }, { on := 4, ground := Ground.chain }, { on := 0, ground := Ground.phase }, { on := 1, ground := Ground.phase }, { on := 2, ground := Ground.phase }, { on := 3, ground := Ground.phase }, { on := 4, ground := Ground.phase }, { on := 5, ground := Ground.phase }], guard := none }) rfl (fun K hK => ?_) AllReadyH.nil
        refine step_store_row rfl 41 _ _ rfl gb64 (lvC B) (by simp [Act.eval, Act.put]) (by simp [Act.eval, Act.put]) 41 #[.int .i64 0, .int .i64 0, .int .i64 0, .int .i64 0, .int .i64 0, .int .i64 0, .int .i64 0, .int .i64 0, .int .i64 0, .int .i64 0, .int .i64 0, .int .i64 0, .int .i64 0, .int .i64 0, .int .i64 0, .int .i64 0, .bool false, .int .i64 0, .string ⟨#[]⟩] HB67.out.1 hszB (lvC_size B).symm (lvC_all B) ?_
        have KF68 : Below W0.heap.size W0 (wA65.setRow gb64 (lvC B)) := below_row hHeld HB67.out.2 _
        have HF69 := Lib.hid (Cel.row (t := 41) HB67.out.1 (lvC B))
        clear HB67
        generalize wA65.setRow gb64 (lvC B) = w9 at *
        refine hK.out _ _ KF68 (fun hHeldN => ?_)
        clear hK K hHeld
        have hHeld := hHeldN
        clear hHeldN
        try simp only [Act.put, List.setIfInBounds_toArray, List.set_cons_zero, List.set_cons_succ]
        refine wpAnyH_done (by kernel_rfl) ?_ _
        have hHeld2 := hHeld
        clear hHeld
        exact REST5 _ _ ⟨hHeld2, HF69.out⟩
      refine AllReadyH.cons (o := { dst := some 6, op := Op.alloc 41, type := 0, pos := "exact.go:4373", after := #[], guard := none }) rfl (fun K hK => ?_) AllReadyH.nil
      go_simp
      have KB72 := Below.then_ hHeld (below_new wA49 (.cells #[.int .i64 0, .int .i64 0, .int .i64 0, .int .i64 0, .int .i64 0, .int .i64 0, .int .i64 0, .int .i64 0, .int .i64 0, .int .i64 0, .int .i64 0, .int .i64 0, .int .i64 0, .int .i64 0, .int .i64 0, .int .i64 0, .bool false, .int .i64 0, .string ⟨#[]⟩] 41))
      have HB70 := Lib.hid (And.intro (Cel.new wA49 41 #[.int .i64 0, .int .i64 0, .int .i64 0, .int .i64 0, .int .i64 0, .int .i64 0, .int .i64 0, .int .i64 0, .int .i64 0, .int .i64 0, .int .i64 0, .int .i64 0, .int .i64 0, .int .i64 0, .int .i64 0, .int .i64 0, .bool false, .int .i64 0, .string ⟨#[]⟩]) hHeld.size)
      generalize wA49.heap.size = gb73 at *
      generalize wA49.alloc (.cells #[.int .i64 0, .int .i64 0, .int .i64 0, .int .i64 0, .int .i64 0, .int .i64 0, .int .i64 0, .int .i64 0, .int .i64 0, .int .i64 0, .int .i64 0, .int .i64 0, .int .i64 0, .int .i64 0, .int .i64 0, .int .i64 0, .bool false, .int .i64 0, .string ⟨#[]⟩] 41) = wB71 at *
      refine hK.out _ _ KB72 (fun hHeldN => ?_)
      clear hK K hHeld
      have hHeld := hHeldN
      clear hHeldN
      try simp only [Act.put, List.setIfInBounds_toArray, List.set_cons_zero, List.set_cons_succ]
      refine wpAnyH_ready (rs := [3]) (by kernel_rfl) (by simp) ?_
      refine AllReadyH.cons (o := { dst := some 16, op := Op.call { callee := Callee.value (Operand.func 35), args := #[Operand.tmp 15], argTypes := #[61] }, type := 41, pos := "exact.go:4373", after := #[{ on := 2, ground := Ground.data }, { on := 1, ground := Ground.chain }], guard := none }) rfl (fun K hK => ?_) AllReadyH.nil
      go_simp
      with_reducible refine (cL _).mono ?_
      rintro e wA74 ⟨rfl, bA⟩
      have KA75 := Below.then_ hHeld bA
      have HB76 := Lib.hid (And.intro (Cel.kept (t := 41) HB70.out.1 bA) HB70.out.2)
      clear HB70
      clear bA
      refine hK.out _ _ KA75 (fun hHeldN => ?_)
      clear hK K hHeld
      have hHeld := hHeldN
      clear hHeldN
      try simp only [Act.put, List.setIfInBounds_toArray, List.set_cons_zero, List.set_cons_succ]
      refine wpAnyH_ready (rs := [4]) (by kernel_rfl) (by simp) ?_
      refine AllReadyH.cons (o := { dst := some 17, op := Op.call { callee := Callee.value (Operand.func 39), args := #[Operand.tmp 14, Operand.tmp 16], argTypes := #[26, 41] }, type := 41, pos := "exact.go:4373", after := #[{ on := 1, ground := Ground.data }, { on := 3, ground := Ground.data }, { on := 3, ground := Ground.chain }], guard := none }) rfl (fun K hK => ?_) AllReadyH.nil
      go_simp
      with_reducible refine (cS _).mono ?_
      rintro e wA77 ⟨rfl, bA⟩
      have KA78 := Below.then_ hHeld bA
      have HB79 := Lib.hid (And.intro (Cel.kept (t := 41) HB76.out.1 bA) HB76.out.2)
      clear HB76
      clear bA
      refine hK.out _ _ KA78 (fun hHeldN => ?_)
      clear hK K hHeld
      have hHeld := hHeldN
      clear hHeldN
      try simp only [Act.put, List.setIfInBounds_toArray, List.set_cons_zero, List.set_cons_succ]
      refine wpAnyH_ready (rs := [6]) (by kernel_rfl) (by simp) ?_
      refine AllReadyH.cons (o := { dst := none, op := Op.store 41 (Operand.tmp 6) (Operand.tmp 17), type := 0, pos := "exact.go:4373", after := #[{ on := 5, ground := Ground.data }, { on := 4, ground := Ground.data }, { on := 4, ground := Ground.chain }, { on := 0, ground := Ground.phase }, { on := 1, ground := Ground.phase }, { on := 2, ground := Ground.phase }, { on := 3, ground := Ground.phase }, { on := 4, ground := Ground.phase }, { on := 5, ground := Ground.phase }], guard := none }) rfl (fun K hK => ?_) AllReadyH.nil
      refine step_store_row rfl 41 _ _ rfl gb73 (lvC B) (by simp [Act.eval, Act.put]) (by simp [Act.eval, Act.put]) 41 #[.int .i64 0, .int .i64 0, .int .i64 0, .int .i64 0, .int .i64 0, .int .i64 0, .int .i64 0, .int .i64 0, .int .i64 0, .int .i64 0, .int .i64 0, .int .i64 0, .int .i64 0, .int .i64 0, .int .i64 0, .int .i64 0, .bool false, .int .i64 0, .string ⟨#[]⟩] HB79.out.1 hszB (lvC_size B).symm (lvC_all B) ?_
      have KF80 : Below W0.heap.size W0 (wA77.setRow gb73 (lvC B)) := below_row hHeld HB79.out.2 _
      have HF81 := Lib.hid (Cel.row (t := 41) HB79.out.1 (lvC B))
      clear HB79
      generalize wA77.setRow gb73 (lvC B) = w9 at *
      refine hK.out _ _ KF80 (fun hHeldN => ?_)
      clear hK K hHeld
      have hHeld := hHeldN
      clear hHeldN
      try simp only [Act.put, List.setIfInBounds_toArray, List.set_cons_zero, List.set_cons_succ]
      refine wpAnyH_done (by kernel_rfl) ?_ _
      have hHeld2 := hHeld
      clear hHeld
      exact REST5 _ _ ⟨hHeld2, HF81.out⟩
    refine AllReadyH.cons (o := { dst := some 6, op := Op.alloc 41, type := 0, pos := "exact.go:4373", after := #[], guard := none }) rfl (fun K hK => ?_) AllReadyH.nil
    go_simp
    have KB84 := Below.then_ hHeld (below_new wd5 (.cells #[.int .i64 0, .int .i64 0, .int .i64 0, .int .i64 0, .int .i64 0, .int .i64 0, .int .i64 0, .int .i64 0, .int .i64 0, .int .i64 0, .int .i64 0, .int .i64 0, .int .i64 0, .int .i64 0, .int .i64 0, .int .i64 0, .bool false, .int .i64 0, .string ⟨#[]⟩] 41))
    have HB82 := Lib.hid (And.intro (Cel.new wd5 41 #[.int .i64 0, .int .i64 0, .int .i64 0, .int .i64 0, .int .i64 0, .int .i64 0, .int .i64 0, .int .i64 0, .int .i64 0, .int .i64 0, .int .i64 0, .int .i64 0, .int .i64 0, .int .i64 0, .int .i64 0, .int .i64 0, .bool false, .int .i64 0, .string ⟨#[]⟩]) hHeld.size)
    generalize wd5.heap.size = gb85 at *
    generalize wd5.alloc (.cells #[.int .i64 0, .int .i64 0, .int .i64 0, .int .i64 0, .int .i64 0, .int .i64 0, .int .i64 0, .int .i64 0, .int .i64 0, .int .i64 0, .int .i64 0, .int .i64 0, .int .i64 0, .int .i64 0, .int .i64 0, .int .i64 0, .bool false, .int .i64 0, .string ⟨#[]⟩] 41) = wB83 at *
    refine hK.out _ _ KB84 (fun hHeldN => ?_)
    clear hK K hHeld
    have hHeld := hHeldN
    clear hHeldN
    try simp only [Act.put, List.setIfInBounds_toArray, List.set_cons_zero, List.set_cons_succ]
    refine wpAnyH_ready (rs := [1]) (by kernel_rfl) (by simp) ?_
    refine AllReadyH.cons (o := { dst := some 14, op := Op.call { callee := Callee.value (Operand.func 40), args := #[Operand.tmp 13], argTypes := #[53] }, type := 26, pos := "exact.go:4373", after := #[{ on := 0, ground := Ground.data }], guard := none }) rfl (fun K hK => ?_) AllReadyH.nil
    go_simp
    with_reducible refine (cR _).mono ?_
    rintro e wA86 ⟨rfl, bA⟩
    have KA87 := Below.then_ hHeld bA
    have HB88 := Lib.hid (And.intro (Cel.kept (t := 41) HB82.out.1 bA) HB82.out.2)
    clear HB82
    clear bA
    refine hK.out _ _ KA87 (fun hHeldN => ?_)
    clear hK K hHeld
    have hHeld := hHeldN
    clear hHeldN
    try simp only [Act.put, List.setIfInBounds_toArray, List.set_cons_zero, List.set_cons_succ]
    refine wpAnyH_ready (rs := [3]) (by kernel_rfl) (by simp) ?_
    refine AllReadyH.cons (o := { dst := some 16, op := Op.call { callee := Callee.value (Operand.func 35), args := #[Operand.tmp 15], argTypes := #[61] }, type := 41, pos := "exact.go:4373", after := #[{ on := 2, ground := Ground.data }, { on := 1, ground := Ground.chain }], guard := none }) rfl (fun K hK => ?_) AllReadyH.nil
    go_simp
    with_reducible refine (cL _).mono ?_
    rintro e wA89 ⟨rfl, bA⟩
    have KA90 := Below.then_ hHeld bA
    have HB91 := Lib.hid (And.intro (Cel.kept (t := 41) HB88.out.1 bA) HB88.out.2)
    clear HB88
    clear bA
    refine hK.out _ _ KA90 (fun hHeldN => ?_)
    clear hK K hHeld
    have hHeld := hHeldN
    clear hHeldN
    try simp only [Act.put, List.setIfInBounds_toArray, List.set_cons_zero, List.set_cons_succ]
    refine wpAnyH_ready (rs := [4]) (by kernel_rfl) (by simp) ?_
    refine AllReadyH.cons (o := { dst := some 17, op := Op.call { callee := Callee.value (Operand.func 39), args := #[Operand.tmp 14, Operand.tmp 16], argTypes := #[26, 41] }, type := 41, pos := "exact.go:4373", after := #[{ on := 1, ground := Ground.data }, { on := 3, ground := Ground.data }, { on := 3, ground := Ground.chain }], guard := none }) rfl (fun K hK => ?_) AllReadyH.nil
    go_simp
    with_reducible refine (cS _).mono ?_
    rintro e wA92 ⟨rfl, bA⟩
    have KA93 := Below.then_ hHeld bA
    have HB94 := Lib.hid (And.intro (Cel.kept (t := 41) HB91.out.1 bA) HB91.out.2)
    clear HB91
    clear bA
    refine hK.out _ _ KA93 (fun hHeldN => ?_)
    clear hK K hHeld
    have hHeld := hHeldN
    clear hHeldN
    try simp only [Act.put, List.setIfInBounds_toArray, List.set_cons_zero, List.set_cons_succ]
    refine wpAnyH_ready (rs := [6]) (by kernel_rfl) (by simp) ?_
    refine AllReadyH.cons (o := { dst := none, op := Op.store 41 (Operand.tmp 6) (Operand.tmp 17), type := 0, pos := "exact.go:4373", after := #[{ on := 5, ground := Ground.data }, { on := 4, ground := Ground.data }, { on := 4, ground := Ground.chain }, { on := 0, ground := Ground.phase }, { on := 1, ground := Ground.phase }, { on := 2, ground := Ground.phase }, { on := 3, ground := Ground.phase }, { on := 4, ground := Ground.phase }, { on := 5, ground := Ground.phase }], guard := none }) rfl (fun K hK => ?_) AllReadyH.nil
    refine step_store_row rfl 41 _ _ rfl gb85 (lvC B) (by simp [Act.eval, Act.put]) (by simp [Act.eval, Act.put]) 41 #[.int .i64 0, .int .i64 0, .int .i64 0, .int .i64 0, .int .i64 0, .int .i64 0, .int .i64 0, .int .i64 0, .int .i64 0, .int .i64 0, .int .i64 0, .int .i64 0, .int .i64 0, .int .i64 0, .int .i64 0, .int .i64 0, .bool false, .int .i64 0, .string ⟨#[]⟩] HB94.out.1 hszB (lvC_size B).symm (lvC_all B) ?_
    have KF95 : Below W0.heap.size W0 (wA92.setRow gb85 (lvC B)) := below_row hHeld HB94.out.2 _
    have HF96 := Lib.hid (Cel.row (t := 41) HB94.out.1 (lvC B))
    clear HB94
    generalize wA92.setRow gb85 (lvC B) = w9 at *
    refine hK.out _ _ KF95 (fun hHeldN => ?_)
    clear hK K hHeld
    have hHeld := hHeldN
    clear hHeldN
    try simp only [Act.put, List.setIfInBounds_toArray, List.set_cons_zero, List.set_cons_succ]
    refine wpAnyH_done (by kernel_rfl) ?_ _
    have hHeld2 := hHeld
    clear hHeld
    exact REST5 _ _ ⟨hHeld2, HF96.out⟩
end Go.Proofs.Ytoeflkmhofkiaaa
