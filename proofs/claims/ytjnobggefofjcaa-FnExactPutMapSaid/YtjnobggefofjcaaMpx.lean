import Derived.Test.YtjnobggefofjcaaMpw
import Derived.BigQuiet
namespace Go.Proofs.Ytjnobggefofjcaa
open Go.RowKit

theorem wp_append_maps {o : Oper} {a : Act} {W : World} {K : Act → World → Prop} {Q : Exit → Act → World → Prop} (s y : Operand) (t tx : TypeId)
    (ho : o.op = .call { callee := .builtin .append, args := #[s, y], argTypes := #[t, tx] }) (ht : Try.prog.underlying t = some (.slice 26)) (htx : Try.prog.underlying tx = some (.slice 26))
    (B : Nat) (v x : Value) (xs ys : List Mp) (hs : a.eval s = v) (hy : a.eval y = x) (hv : OwnM W B W.heap.size v xs) (hB : B ≤ W.heap.size) (hx : RdM W x ys) (hl : xs.length + ys.length ≤ 1099511627776)
    (h : ∀ v' W', OwnM W' B W'.heap.size v' (xs ++ ys) → W.grownBy W' v.ownBlock → (v'.ownBlock = v.ownBlock ∨ v'.ownBlock = some W.heap.size) → K (a.put o.dst v') W') :
    Oper.wp Try.prog o a W K Q := by
  obtain ⟨v', w', hr, h2, h3, h5⟩ := run_append_maps t tx o.type ht htx W B v x xs ys hv hB hx hl
  unfold Oper.wp execOp
  simp only [ho, resolve, invoke, builtin, Sem.run_bind, Sem.run_pure, Result.andThen_ok, List.map_toArray, List.map_cons, List.map_nil, hs, hy, hr]
  exact h v' w' h2 h3 h5

theorem put3_keep {w1 W W' : World} {h : Nat} {x y z : Value} (a : W.cell? ⟨h, 0, none⟩ = some x ∧ W.cell? ⟨h, 1, none⟩ = some y ∧ W.cell? ⟨h, 2, none⟩ = some z ∧ Below w1.heap.size w1 W) (hb : Below W.heap.size W W') :
    W'.cell? ⟨h, 0, none⟩ = some x ∧ W'.cell? ⟨h, 1, none⟩ = some y ∧ W'.cell? ⟨h, 2, none⟩ = some z ∧ Below w1.heap.size w1 W' :=
  ⟨keepc a.1 hb, keepc a.2.1 hb, keepc a.2.2.1 hb, Below.then_ a.2.2.2 hb⟩

theorem put3_grown {w1 W W' : World} {h : Nat} {x y z : Value} {row : Option Nat} (a : W.cell? ⟨h, 0, none⟩ = some x ∧ W.cell? ⟨h, 1, none⟩ = some y ∧ W.cell? ⟨h, 2, none⟩ = some z ∧ Below w1.heap.size w1 W) (hg : W.grownBy W' row) (hh : h < w1.heap.size) (hr : ∀ k, row = some k → w1.heap.size ≤ k) :
    W'.cell? ⟨h, 0, none⟩ = some x ∧ W'.cell? ⟨h, 1, none⟩ = some y ∧ W'.cell? ⟨h, 2, none⟩ = some z ∧ Below w1.heap.size w1 W' := by
  have hB' : Below w1.heap.size w1 W' := a.2.2.2.grown hg a.2.2.2.size hr
  have k : ∀ (o : Nat) (u : Value), W.cell? ⟨h, o, none⟩ = some u → W'.cell? ⟨h, o, none⟩ = some u := fun o u hu => by
    rw [hB'.cell (p := ⟨h, o, none⟩) hh, ← a.2.2.2.cell (p := ⟨h, o, none⟩) hh]
    exact hu
  exact ⟨k _ _ a.1, k _ _ a.2.1, k _ _ a.2.2.1, hB'⟩

theorem own_from (W : World) (B : Nat) (h : B ≤ W.heap.size) : OwnM (W.alloc (.cells #[] 26)) B (W.alloc (.cells #[] 26)).heap.size (.slice (some ⟨W.heap.size, 0, none⟩) 0 0) [] :=
  (own_empty W).mono h (Nat.le_refl _)

theorem rd_cel {W : World} {b : Nat} {m : Mp} (h : Cel W b 26 #[.int .i64 m.sub, .int .i64 m.seq, .int .i64 m.len]) : RdM W (.slice (some ⟨b, 0, none⟩) 1 1) [m] :=
  (OwnM.of_cel (B := 0) (C := b + 1) (ms := [m]) h (Nat.zero_le _) (Nat.lt_succ_self _) (by simp [maxLen])).rd

theorem put_parts (ms : List Mp) (m : Mp) (k : Nat) (hk : k ≤ ms.length) (hP : placeGo m.sub ms = k) : ∃ T T1, T = ms.take k ∧ T ++ [m] = T1 ∧ T.length = k ∧ T1.length = k + 1 ∧ longer ms m = T1 ++ ms.drop k := by
  refine ⟨_, _, rfl, rfl, by rw [List.length_take]; omega, by simp; omega, ?_⟩
  unfold longer
  rw [hP]
  simp

set_option maxRecDepth 100000 in
set_option maxHeartbeats 8000000 in
set_option linter.unusedSimpArgs false in
theorem spec_putMap (g : Nat) (ms : List Mp) (m : Mp) (B C : Nat) (w : World) (hv : OwnM w B C (.slice (some ⟨g, 0, none⟩) ms.length ms.length) ms) (hC : C ≤ w.heap.size) (hn : ms.length ≤ 1048576) :
    Calls Try.prog 21 #[.slice (some ⟨g, 0, none⟩) ms.length ms.length, .agg m.cells] w fun e w' => ∃ v', e = .returned (.tuple #[v', .bool (putMap ms m).2]) ∧ OwnM w' w.heap.size w'.heap.size v' (putMap ms m).1 ∧ Below w.heap.size w w' := by
  have hbx := below_box w m
  obtain ⟨b0, b1, b2⟩ := cel3 (Cel.new w 26 #[.int .i64 m.sub, .int .i64 m.seq, .int .i64 m.len])
  have hbe := below_new (w.alloc (.cells #[.int .i64 m.sub, .int .i64 m.seq, .int .i64 m.len] 26)) (.cells #[] 26)
  have hO1 : OwnM ((w.alloc (.cells #[.int .i64 m.sub, .int .i64 m.seq, .int .i64 m.len] 26)).alloc (.cells #[] 26)) (w.heap.size + 1) ((w.alloc (.cells #[.int .i64 m.sub, .int .i64 m.seq, .int .i64 m.len] 26)).alloc (.cells #[] 26)).heap.size (.slice (some ⟨w.heap.size + 1, 0, none⟩) 0 0) [] := by
    have := own_empty (w.alloc (.cells #[.int .i64 m.sub, .int .i64 m.seq, .int .i64 m.len] 26))
    rw [show (w.alloc (.cells #[.int .i64 m.sub, .int .i64 m.seq, .int .i64 m.len] 26)).heap.size = w.heap.size + 1 by simp] at this
    exact this
  have hB1 := Below.then_ hbx hbe
  have hR1 := hv.rd.below hB1
  have c0 := keepc b0 hbe
  have c1 := keepc b1 hbe
  have c2 := keepc b2 hbe
  have HA := Lib.hid (And.intro hO1 (And.intro hB1 (And.intro hR1 (And.intro c0 (And.intro c1 c2)))))
  clear hbx b0 b1 b2 hbe hO1 hB1 hR1 c0 c1 c2
  by_cases h41 : 41 ≤ ms.length
  · have hp : putMap ms m = (ms, false) := by
      unfold putMap
      rw [if_neg (fun h => by have := (mapsOk_fine _ h).1; rw [longer_length] at this; omega)]
    generalize putMap ms m = r at *
    subst hp
    have q : (41 : Int) ≤ (ms.length : Int) := by omega
    clear h41
    unfold Mp.cells
    go_enter Try.func21, Try.ntmps21
    go_wp2_with (at_builtin; refine wpList_append_maps rfl _ _ 24 24 rfl uM uM (w.heap.size + 1) (.slice (some ⟨w.heap.size + 1, 0, none⟩) 0 0) _ [] ms (by simp [Act.eval, Act.put]) (by simp [Act.eval, Act.put]) HA.out.1 (by simp) HA.out.2.2.1 (by simp; omega) ?_; intro v' w1 hown hgrow _)
    rw [List.nil_append] at hown
    obtain ⟨sa, sc, rfl, -⟩ := hown.form
    have hBb : Below (w.heap.size + 1) ((w.alloc (.cells #[.int .i64 m.sub, .int .i64 m.seq, .int .i64 m.len] 26)).alloc (.cells #[] 26)) w1 := (Below.refl _ _).grown hgrow (by simp) (fun k hk => by simp [Value.ownBlock] at hk; omega)
    have HN := Lib.hid (And.intro hown (HA.out.2.1.trans (hBb.mono (Nat.le_succ _))))
    clear hown hgrow hBb
    go_wp2_with (fail)
    go_ret2
    exact ⟨_, rfl, HN.out.1.mono (Nat.le_succ _) (Nat.le_refl _), HN.out.2⟩
  · have hn2 : ms.length ≤ 40 := by omega
    have q41 : ¬ (41 : Int) ≤ (ms.length : Int) := by omega
    have cO := fun W u h => spec_mapsOk u (longer ms m) W h (by rw [longer_length]; omega)
    generalize hp : putMap ms m = r at *
    generalize hL : longer ms m = L at *
    generalize hP : placeGo m.sub ms = P at *
    have HP := Lib.hid (And.intro hp (And.intro hL hP))
    have HV := Lib.hid (And.intro hv hC)
    clear h41 hp hL hP hv hC
    unfold Mp.cells
    go_enter Try.func21, Try.ntmps21
    go_upto_region 2 with (at_builtin; refine wpList_append_maps rfl _ _ 24 24 rfl uM uM (w.heap.size + 1) (.slice (some ⟨w.heap.size + 1, 0, none⟩) 0 0) _ [] ms (by simp [Act.eval, Act.put]) (by simp [Act.eval, Act.put]) HA.out.1 (by simp) HA.out.2.2.1 (by simp; omega) ?_; intro v' w1 hown hgrow _)
    rw [List.nil_append] at hown
    obtain ⟨sa, sc, rfl, -⟩ := hown.form
    have hBb : Below (w.heap.size + 1) ((w.alloc (.cells #[.int .i64 m.sub, .int .i64 m.seq, .int .i64 m.len] 26)).alloc (.cells #[] 26)) w1 := (Below.refl _ _).grown hgrow (by simp) (fun k hk => by simp [Value.ownBlock] at hk; omega)
    have hlt1 : w.heap.size < w1.heap.size := by have := hBb.size; simp at this; omega
    have hBw : Below w.heap.size w w1 := HA.out.2.1.trans (hBb.mono (Nat.le_succ _))
    have c0 : w1.cell? ⟨w.heap.size, 0, none⟩ = some (.int .i64 m.sub) := by rw [hBb.cell (p := ⟨w.heap.size, 0, none⟩) (Nat.lt_succ_self _)]; exact HA.out.2.2.2.1
    have c1 : w1.cell? ⟨w.heap.size, 1, none⟩ = some (.int .i64 m.seq) := by rw [hBb.cell (p := ⟨w.heap.size, 1, none⟩) (Nat.lt_succ_self _)]; exact HA.out.2.2.2.2.1
    have c2 : w1.cell? ⟨w.heap.size, 2, none⟩ = some (.int .i64 m.len) := by rw [hBb.cell (p := ⟨w.heap.size, 2, none⟩) (Nat.lt_succ_self _)]; exact HA.out.2.2.2.2.2
    have HS := Lib.hid (And.intro (hown.mono (Nat.le_succ _) (Nat.le_refl _)) (And.intro hBw (And.intro hlt1 (And.intro c0 (And.intro c1 c2)))))
    have HVX := Lib.hid (fun (X : World) (hX : Below w1.heap.size w1 X) => HV.out.1.keep (Below.then_ HS.out.2.1 hX) HV.out.2)
    clear hown hgrow hBb hlt1 hBw c0 c1 c2 HA
    go_wp2_with (fail)
    go_loopw [7] (fun i wr => ∃ k : Nat, k ≤ ms.length ∧ i = .int .i64 k ∧ placeGo m.sub (ms.drop k) + k = P ∧ Below w1.heap.size w1 wr) (fun i _ => ms.length - (intOf i).toNat)
    case atStart => exact ⟨0, by omega, rfl, by rw [List.drop_zero]; exact HP.out.2.2, Below.refl _ _⟩
    case round =>
      obtain ⟨k, hk, rfl, hr, hB⟩ := hrel
      have c0 : wr.cell? ⟨w.heap.size, 0, none⟩ = some (.int .i64 m.sub) := by rw [hB.cell (p := ⟨w.heap.size, 0, none⟩) HS.out.2.2.1]; exact HS.out.2.2.2.1
      by_cases hlt : k < ms.length
      · have d1 : decide ((k : Int) < (ms.length : Int)) = true := decide_eq_true (by omega)
        have q : (k : Int) < (ms.length : Int) := by omega
        have q2 : (0 : Int) ≤ (k : Int) := by omega
        obtain ⟨k0, k1, k2, -, -, -⟩ := (HVX.out wr hB).at k hlt
        rw [List.drop_eq_getElem_cons hlt] at hr
        generalize ms[k] = o at *
        unfold placeGo at hr
        by_cases ho : o.sub < m.sub
        · rw [if_pos ho] at hr
          have HR := Lib.hid (And.intro hr hB)
          have d2 : decide (o.sub < m.sub) = true := decide_eq_true ho
          clear hr hB
          go_wp2_with (fail)
          go_quiet (fail)
          go_wp2_with (fail)
          go_roundw
          case rel => exact ⟨k + 1, by omega, by go_num, by have := HR.out.1; omega, below_drewN HR.out.2⟩
          case measure => simp [intOf]; omega
        · rw [if_neg ho] at hr
          obtain rfl : k = P := by omega
          obtain ⟨T, T1, hT, hT1, hTl, hT1l, hL⟩ := put_parts ms m k hk HP.out.2.2
          rw [HP.out.2.1] at hL
          have HL := Lib.hid hL
          have HX := Lib.hid (And.intro (fun X h => by have := own_part (c := ms.length) (HVX.out X h) 0 k (by omega); rw [List.drop_zero, ← hT] at this; simpa using this : ∀ X, Below w1.heap.size w1 X → RdM X (.slice (some ⟨g, 0, none⟩) k ms.length) T) (fun X h => by have := own_part (c := ms.length - k) (HVX.out X h) k (ms.length - k) (by omega); rw [List.take_of_length_le (by simp)] at this; exact this : ∀ X, Below w1.heap.size w1 X → RdM X (.slice (some ⟨g, k * 3, none⟩) (ms.length - k) (ms.length - k)) (ms.drop k)))
          clear hT hL
          have HB := Lib.hid hB
          have d2 : decide (o.sub < m.sub) = false := decide_eq_false ho
          clear hr hB
          go_wp2_with (fail)
          go_quiet (fail)
          go_upto_region 7 with (fail)
          have HI := Lib.hid (put3_keep (W := w1) (W' := (wr.drewN nq).drew) (w1 := w1) ⟨HS.out.2.2.2.1, HS.out.2.2.2.2.1, HS.out.2.2.2.2.2, Below.refl _ _⟩ (below_drewN HB.out).drew)
          refine wp_region_held_drew (S := fun W => W.cell? ⟨w.heap.size, 0, none⟩ = some (.int .i64 m.sub) ∧ W.cell? ⟨w.heap.size, 1, none⟩ = some (.int .i64 m.seq) ∧ W.cell? ⟨w.heap.size, 2, none⟩ = some (.int .i64 m.len) ∧ Below w1.heap.size w1 W) (by kernel_rfl) HI.out (fun hHeld => ?_)
          refine take_yes (i := 1) (oi := { dst := some 33, op := Op.move (Operand.tmp 0), type := 24, pos := "l08_maps.go:27", after := #[], guard := none }) (v := .slice (some ⟨g, 0, none⟩) ms.length ms.length) rfl (by kernel_rfl) (by kernel_rfl) (by kernel_rfl) (fun _ _ _ h => h) (by rfl) (fun w hSw => by (try dsimp only at hSw); go_simp) (by assumption) ?_
          try simp only [Act.put, List.setIfInBounds_toArray, List.set_cons_zero, List.set_cons_succ]
          refine take_yes (i := 2) (oi := { dst := some 34, op := Op.move (Operand.tmp 7), type := 3, pos := "l08_maps.go:27", after := #[], guard := none }) (v := .int .i64 k) rfl (by kernel_rfl) (by kernel_rfl) (by kernel_rfl) (fun _ _ _ h => h) (by rfl) (fun w hSw => by (try dsimp only at hSw); go_simp) (by assumption) ?_
          try simp only [Act.put, List.setIfInBounds_toArray, List.set_cons_zero, List.set_cons_succ]
          refine take_yes (i := 3) (oi := { dst := some 35, op := Op.slice 24 (Operand.tmp 33) none (some (Operand.tmp 34)) none, type := 24, pos := "l08_maps.go:27", after := #[{ on := 1, ground := Ground.data }, { on := 2, ground := Ground.data }], guard := none }) (v := .slice (some ⟨g, 0, none⟩) k ms.length) rfl (by kernel_rfl) (by kernel_rfl) (by kernel_rfl) (fun _ _ _ h => h) (by rfl) (fun w hSw => by (try dsimp only at hSw); go_simp) (by assumption) ?_
          try simp only [Act.put, List.setIfInBounds_toArray, List.set_cons_zero, List.set_cons_succ]
          refine take_yes (i := 5) (oi := { dst := some 37, op := Op.load 26 (Operand.tmp 3), type := 26, pos := "l08_maps.go:27", after := #[], guard := none }) (v := .agg #[.int .i64 m.sub, .int .i64 m.seq, .int .i64 m.len]) rfl (by kernel_rfl) (by kernel_rfl) (by kernel_rfl) (fun _ _ _ h => h) (by rfl) (fun w hSw => by (try dsimp only at hSw); go_simp) (by assumption) ?_
          try simp only [Act.put, List.setIfInBounds_toArray, List.set_cons_zero, List.set_cons_succ]
          generalize hw0 : (wr.drewN nq).drew = w0 at *
          clear hw0
          refine wpAnyH_ready (rs := [0, 6]) (by kernel_rfl) (by simp) ?_
          refine AllReadyH.cons (o := { dst := some 32, op := Op.buildSlice 24 0 #[], type := 24, pos := "l08_maps.go:27", after := #[], guard := none }) rfl (fun K hK => ?_) ?_
          · go_simp
            have oe := own_from w0 w1.heap.size (by have := hHeld.2.2.2.size; simpa using this)
            have be := below_new w0 (.cells #[] 26)
            refine hK.out _ _ (put3_keep (by assumption) be) (fun hHeld => ?_)
            clear hK K
            try simp only [Act.put, List.setIfInBounds_toArray, List.set_cons_zero, List.set_cons_succ]
            refine wpAnyH_ready (rs := [4, 6]) (by kernel_rfl) (by simp) ?_
            refine AllReadyH.cons (o := { dst := some 36, op := Op.call { callee := Callee.builtin Builtin.append, args := #[Operand.tmp 32, Operand.tmp 35], argTypes := #[24, 24] }, type := 24, pos := "l08_maps.go:27", after := #[{ on := 0, ground := Ground.data }, { on := 3, ground := Ground.data }], guard := none }) rfl (fun K hK => ?_) ?_
            · have oy := oe
              refine wp_append_maps (.tmp 32) (.tmp 35) 24 24 rfl uM uM w1.heap.size _ _ [] T (by simp [Act.eval, Act.put] <;> first | rfl | omega) (by simp [Act.eval, Act.put] <;> first | rfl | omega) oy (by have := hHeld.2.2.2.size; simpa using this) (HX.out.1 _ hHeld.2.2.2) (by simp; omega) ?_
              intro t wt ot gt _
              rw [List.nil_append] at ot
              obtain ⟨ta, tc, rfl, -⟩ := ot.form
              refine hK.out _ _ (put3_grown (by assumption) gt HS.out.2.2.1 (fun k hk => (OwnM.block oy k hk).1)) (fun hHeld => ?_)
              clear hK K oy
              try simp only [Act.put, List.setIfInBounds_toArray, List.set_cons_zero, List.set_cons_succ]
              refine wpAnyH_ready (rs := [6]) (by kernel_rfl) (by simp) ?_
              refine AllReadyH.cons (o := { dst := some 38, op := Op.buildSlice 24 1 #[(0, Operand.tmp 37)], type := 24, pos := "l08_maps.go:27", after := #[{ on := 5, ground := Ground.data }], guard := none }) rfl (fun K hK => ?_) AllReadyH.nil
              go_simp
              have ro := rd_one wt m
              have cm := Cel.new wt 26 #[.int .i64 m.sub, .int .i64 m.seq, .int .i64 m.len]
              have bo := below_new wt (.cells #[.int .i64 m.sub, .int .i64 m.seq, .int .i64 m.len] 26)
              refine hK.out _ _ (put3_keep (by assumption) bo) (fun hHeld => ?_)
              clear hK K
              try simp only [Act.put, List.setIfInBounds_toArray, List.set_cons_zero, List.set_cons_succ]
              refine wpAnyH_ready (rs := [7]) (by kernel_rfl) (by simp) ?_
              refine AllReadyH.cons (o := { dst := some 39, op := Op.call { callee := Callee.builtin Builtin.append, args := #[Operand.tmp 36, Operand.tmp 38], argTypes := #[24, 24] }, type := 24, pos := "l08_maps.go:27", after := #[{ on := 4, ground := Ground.data }, { on := 6, ground := Ground.data }, { on := 4, ground := Ground.chain }], guard := none }) rfl (fun K hK => ?_) AllReadyH.nil
              have oy := own_alloc ot (.cells #[.int .i64 m.sub, .int .i64 m.seq, .int .i64 m.len] 26)
              refine wp_append_maps (.tmp 36) (.tmp 38) 24 24 rfl uM uM w1.heap.size _ _ T [m] (by simp [Act.eval, Act.put] <;> first | rfl | omega) (by simp [Act.eval, Act.put] <;> first | rfl | omega) oy (by have := hHeld.2.2.2.size; simpa using this) (ro) (by simp; omega) ?_
              intro z wz oz gz _
              rw [hT1] at oz
              obtain ⟨za, zc, rfl, -⟩ := oz.form
              refine hK.out _ _ (put3_grown (by assumption) gz HS.out.2.2.1 (fun k hk => (OwnM.block oy k hk).1)) (fun hHeld => ?_)
              clear hK K oy
              try simp only [Act.put, List.setIfInBounds_toArray, List.set_cons_zero, List.set_cons_succ]
              have HZ := Lib.hid (And.intro oz hHeld.2.2.2)
              refine take_yes (i := 8) (oi := { dst := some 8, op := Op.assign (Operand.tmp 39), type := 24, pos := "l08_maps.go:27", after := #[{ on := 7, ground := Ground.data }, { on := 7, ground := Ground.chain }, { on := 0, ground := Ground.phase }, { on := 1, ground := Ground.phase }, { on := 2, ground := Ground.phase }, { on := 3, ground := Ground.phase }, { on := 4, ground := Ground.phase }, { on := 5, ground := Ground.phase }, { on := 6, ground := Ground.phase }, { on := 7, ground := Ground.phase }], guard := none }) (v := .slice za T1.length zc) rfl (by kernel_rfl) (by kernel_rfl) (by kernel_rfl) (fun _ _ _ h => h) (by rfl) (fun w hSw => by (try dsimp only at hSw); go_simp) (by assumption) ?_
              try simp only [Act.put, List.setIfInBounds_toArray, List.set_cons_zero, List.set_cons_succ]
              refine wpAnyH_done (by kernel_rfl) ?_ _
              have HD := Lib.hid (HX.out.2 wz HZ.out.2)
              go_upto_region 9 with (at_builtin; refine wpList_append_maps rfl _ _ 24 24 rfl uM uM w1.heap.size (.slice za T1.length zc) (.slice (some ⟨g, k * 3, none⟩) (ms.length - k) (ms.length - k)) T1 (ms.drop k) (by first | (simp [Act.eval, Act.put]; done) | (simp [Act.eval, Act.put]; omega)) (by first | (simp [Act.eval, Act.put]; done) | (simp [Act.eval, Act.put]; omega)) HZ.out.1 HZ.out.2.size HD.out (by simp; omega) ?_; intro l wl ol gl _)
              rw [← HL.out] at ol
              obtain ⟨la, lc, rfl, -⟩ := ol.form
              have hrl := ol.rd
              have hbl : Below w1.heap.size w1 wl := HZ.out.2.grown gl HZ.out.2.size (fun k hk => (HZ.out.1.block k hk).1)
              have HN := Lib.hid (And.intro (ol.mono (Nat.le_of_lt HS.out.2.2.1) (Nat.le_refl _)) hbl)
              clear ol gl hbl
              by_cases hok : mapsOk L = true
              · rw [hok] at cO
                have HF : Hid (r = (L, true)) := Lib.hid (by rw [← HP.out.1]; unfold putMap; rw [HP.out.2.1, if_pos hok])
                clear hok
                go_wp2_with (fail)
                with_reducible refine (cO _ _ hrl).mono ?_
                rintro e w10 ⟨rfl, hb10⟩
                have HE := Lib.hid (And.intro ((HN.out.1.keep hb10 (Nat.le_refl _)).mono (Nat.le_refl _) hb10.size) (HS.out.2.1.trans ((Below.then_ HN.out.2 hb10).mono (Nat.le_of_lt HS.out.2.2.1))))
                clear hb10 hrl cO
                go_wp2_with (fail)
                go_ret2
                rw [HF.out]
                exact ⟨_, rfl, HE.out.1, HE.out.2⟩
              · rw [show mapsOk L = false by simpa using hok] at cO
                have HF : Hid (r = (ms, false)) := Lib.hid (by rw [← HP.out.1]; unfold putMap; rw [HP.out.2.1, if_neg hok])
                clear hok
                go_wp2_with (fail)
                with_reducible refine (cO _ _ hrl).mono ?_
                rintro e w10 ⟨rfl, hb10⟩
                have hB10 := Below.then_ HN.out.2 hb10
                have HE := Lib.hid (And.intro ((HS.out.1.keep hB10 (Nat.le_refl _)).mono (Nat.le_refl _) hB10.size) (HS.out.2.1.trans (hB10.mono (Nat.le_of_lt HS.out.2.2.1))))
                clear hB10 hb10 hrl cO
                go_wp2_with (fail)
                go_ret2
                rw [HF.out]
                first | exact ⟨_, rfl, HE.out.1, HE.out.2⟩ | (have e := HE.out.1; rw [HK.out] at e; exact ⟨_, rfl, e, HE.out.2⟩)
            · refine AllReadyH.cons (o := { dst := some 38, op := Op.buildSlice 24 1 #[(0, Operand.tmp 37)], type := 24, pos := "l08_maps.go:27", after := #[{ on := 5, ground := Ground.data }], guard := none }) rfl (fun K hK => ?_) AllReadyH.nil
              go_simp
              have ro := rd_one (w0.alloc (.cells #[] 26)) m
              have cm := Cel.new (w0.alloc (.cells #[] 26)) 26 #[.int .i64 m.sub, .int .i64 m.seq, .int .i64 m.len]
              have bo := below_new (w0.alloc (.cells #[] 26)) (.cells #[.int .i64 m.sub, .int .i64 m.seq, .int .i64 m.len] 26)
              refine hK.out _ _ (put3_keep (by assumption) bo) (fun hHeld => ?_)
              clear hK K
              try simp only [Act.put, List.setIfInBounds_toArray, List.set_cons_zero, List.set_cons_succ]
              refine wpAnyH_ready (rs := [4]) (by kernel_rfl) (by simp) ?_
              refine AllReadyH.cons (o := { dst := some 36, op := Op.call { callee := Callee.builtin Builtin.append, args := #[Operand.tmp 32, Operand.tmp 35], argTypes := #[24, 24] }, type := 24, pos := "l08_maps.go:27", after := #[{ on := 0, ground := Ground.data }, { on := 3, ground := Ground.data }], guard := none }) rfl (fun K hK => ?_) AllReadyH.nil
              have oy := own_alloc oe (.cells #[.int .i64 m.sub, .int .i64 m.seq, .int .i64 m.len] 26)
              refine wp_append_maps (.tmp 32) (.tmp 35) 24 24 rfl uM uM w1.heap.size _ _ [] T (by simp [Act.eval, Act.put] <;> first | rfl | omega) (by simp [Act.eval, Act.put] <;> first | rfl | omega) oy (by have := hHeld.2.2.2.size; simpa using this) (HX.out.1 _ hHeld.2.2.2) (by simp; omega) ?_
              intro t wt ot gt _
              rw [List.nil_append] at ot
              obtain ⟨ta, tc, rfl, -⟩ := ot.form
              refine hK.out _ _ (put3_grown (by assumption) gt HS.out.2.2.1 (fun k hk => (OwnM.block oy k hk).1)) (fun hHeld => ?_)
              clear hK K oy
              try simp only [Act.put, List.setIfInBounds_toArray, List.set_cons_zero, List.set_cons_succ]
              refine wpAnyH_ready (rs := [7]) (by kernel_rfl) (by simp) ?_
              refine AllReadyH.cons (o := { dst := some 39, op := Op.call { callee := Callee.builtin Builtin.append, args := #[Operand.tmp 36, Operand.tmp 38], argTypes := #[24, 24] }, type := 24, pos := "l08_maps.go:27", after := #[{ on := 4, ground := Ground.data }, { on := 6, ground := Ground.data }, { on := 4, ground := Ground.chain }], guard := none }) rfl (fun K hK => ?_) AllReadyH.nil
              have oy := ot
              refine wp_append_maps (.tmp 36) (.tmp 38) 24 24 rfl uM uM w1.heap.size _ _ T [m] (by simp [Act.eval, Act.put] <;> first | rfl | omega) (by simp [Act.eval, Act.put] <;> first | rfl | omega) oy (by have := hHeld.2.2.2.size; simpa using this) (rd_cel (cm.grown gt (fun e => by simp [Value.ownBlock] at e))) (by simp; omega) ?_
              intro z wz oz gz _
              rw [hT1] at oz
              obtain ⟨za, zc, rfl, -⟩ := oz.form
              refine hK.out _ _ (put3_grown (by assumption) gz HS.out.2.2.1 (fun k hk => (OwnM.block oy k hk).1)) (fun hHeld => ?_)
              clear hK K oy
              try simp only [Act.put, List.setIfInBounds_toArray, List.set_cons_zero, List.set_cons_succ]
              have HZ := Lib.hid (And.intro oz hHeld.2.2.2)
              refine take_yes (i := 8) (oi := { dst := some 8, op := Op.assign (Operand.tmp 39), type := 24, pos := "l08_maps.go:27", after := #[{ on := 7, ground := Ground.data }, { on := 7, ground := Ground.chain }, { on := 0, ground := Ground.phase }, { on := 1, ground := Ground.phase }, { on := 2, ground := Ground.phase }, { on := 3, ground := Ground.phase }, { on := 4, ground := Ground.phase }, { on := 5, ground := Ground.phase }, { on := 6, ground := Ground.phase }, { on := 7, ground := Ground.phase }], guard := none }) (v := .slice za T1.length zc) rfl (by kernel_rfl) (by kernel_rfl) (by kernel_rfl) (fun _ _ _ h => h) (by rfl) (fun w hSw => by (try dsimp only at hSw); go_simp) (by assumption) ?_
              try simp only [Act.put, List.setIfInBounds_toArray, List.set_cons_zero, List.set_cons_succ]
              refine wpAnyH_done (by kernel_rfl) ?_ _
              have HD := Lib.hid (HX.out.2 wz HZ.out.2)
              go_upto_region 9 with (at_builtin; refine wpList_append_maps rfl _ _ 24 24 rfl uM uM w1.heap.size (.slice za T1.length zc) (.slice (some ⟨g, k * 3, none⟩) (ms.length - k) (ms.length - k)) T1 (ms.drop k) (by first | (simp [Act.eval, Act.put]; done) | (simp [Act.eval, Act.put]; omega)) (by first | (simp [Act.eval, Act.put]; done) | (simp [Act.eval, Act.put]; omega)) HZ.out.1 HZ.out.2.size HD.out (by simp; omega) ?_; intro l wl ol gl _)
              rw [← HL.out] at ol
              obtain ⟨la, lc, rfl, -⟩ := ol.form
              have hrl := ol.rd
              have hbl : Below w1.heap.size w1 wl := HZ.out.2.grown gl HZ.out.2.size (fun k hk => (HZ.out.1.block k hk).1)
              have HN := Lib.hid (And.intro (ol.mono (Nat.le_of_lt HS.out.2.2.1) (Nat.le_refl _)) hbl)
              clear ol gl hbl
              by_cases hok : mapsOk L = true
              · rw [hok] at cO
                have HF : Hid (r = (L, true)) := Lib.hid (by rw [← HP.out.1]; unfold putMap; rw [HP.out.2.1, if_pos hok])
                clear hok
                go_wp2_with (fail)
                with_reducible refine (cO _ _ hrl).mono ?_
                rintro e w10 ⟨rfl, hb10⟩
                have HE := Lib.hid (And.intro ((HN.out.1.keep hb10 (Nat.le_refl _)).mono (Nat.le_refl _) hb10.size) (HS.out.2.1.trans ((Below.then_ HN.out.2 hb10).mono (Nat.le_of_lt HS.out.2.2.1))))
                clear hb10 hrl cO
                go_wp2_with (fail)
                go_ret2
                rw [HF.out]
                exact ⟨_, rfl, HE.out.1, HE.out.2⟩
              · rw [show mapsOk L = false by simpa using hok] at cO
                have HF : Hid (r = (ms, false)) := Lib.hid (by rw [← HP.out.1]; unfold putMap; rw [HP.out.2.1, if_neg hok])
                clear hok
                go_wp2_with (fail)
                with_reducible refine (cO _ _ hrl).mono ?_
                rintro e w10 ⟨rfl, hb10⟩
                have hB10 := Below.then_ HN.out.2 hb10
                have HE := Lib.hid (And.intro ((HS.out.1.keep hB10 (Nat.le_refl _)).mono (Nat.le_refl _) hB10.size) (HS.out.2.1.trans (hB10.mono (Nat.le_of_lt HS.out.2.2.1))))
                clear hB10 hb10 hrl cO
                go_wp2_with (fail)
                go_ret2
                rw [HF.out]
                first | exact ⟨_, rfl, HE.out.1, HE.out.2⟩ | (have e := HE.out.1; rw [HK.out] at e; exact ⟨_, rfl, e, HE.out.2⟩)
          · refine AllReadyH.cons (o := { dst := some 38, op := Op.buildSlice 24 1 #[(0, Operand.tmp 37)], type := 24, pos := "l08_maps.go:27", after := #[{ on := 5, ground := Ground.data }], guard := none }) rfl (fun K hK => ?_) AllReadyH.nil
            go_simp
            have ro := rd_one w0 m
            have cm := Cel.new w0 26 #[.int .i64 m.sub, .int .i64 m.seq, .int .i64 m.len]
            have bo := below_new w0 (.cells #[.int .i64 m.sub, .int .i64 m.seq, .int .i64 m.len] 26)
            refine hK.out _ _ (put3_keep (by assumption) bo) (fun hHeld => ?_)
            clear hK K
            try simp only [Act.put, List.setIfInBounds_toArray, List.set_cons_zero, List.set_cons_succ]
            refine wpAnyH_ready (rs := [0]) (by kernel_rfl) (by simp) ?_
            refine AllReadyH.cons (o := { dst := some 32, op := Op.buildSlice 24 0 #[], type := 24, pos := "l08_maps.go:27", after := #[], guard := none }) rfl (fun K hK => ?_) AllReadyH.nil
            go_simp
            have oe := own_from (w0.alloc (.cells #[.int .i64 m.sub, .int .i64 m.seq, .int .i64 m.len] 26)) w1.heap.size (by have := hHeld.2.2.2.size; simpa using this)
            have be := below_new (w0.alloc (.cells #[.int .i64 m.sub, .int .i64 m.seq, .int .i64 m.len] 26)) (.cells #[] 26)
            refine hK.out _ _ (put3_keep (by assumption) be) (fun hHeld => ?_)
            clear hK K
            try simp only [Act.put, List.setIfInBounds_toArray, List.set_cons_zero, List.set_cons_succ]
            refine wpAnyH_ready (rs := [4]) (by kernel_rfl) (by simp) ?_
            refine AllReadyH.cons (o := { dst := some 36, op := Op.call { callee := Callee.builtin Builtin.append, args := #[Operand.tmp 32, Operand.tmp 35], argTypes := #[24, 24] }, type := 24, pos := "l08_maps.go:27", after := #[{ on := 0, ground := Ground.data }, { on := 3, ground := Ground.data }], guard := none }) rfl (fun K hK => ?_) AllReadyH.nil
            have oy := oe
            refine wp_append_maps (.tmp 32) (.tmp 35) 24 24 rfl uM uM w1.heap.size _ _ [] T (by simp [Act.eval, Act.put] <;> first | rfl | omega) (by simp [Act.eval, Act.put] <;> first | rfl | omega) oy (by have := hHeld.2.2.2.size; simpa using this) (HX.out.1 _ hHeld.2.2.2) (by simp; omega) ?_
            intro t wt ot gt _
            rw [List.nil_append] at ot
            obtain ⟨ta, tc, rfl, -⟩ := ot.form
            refine hK.out _ _ (put3_grown (by assumption) gt HS.out.2.2.1 (fun k hk => (OwnM.block oy k hk).1)) (fun hHeld => ?_)
            clear hK K oy
            try simp only [Act.put, List.setIfInBounds_toArray, List.set_cons_zero, List.set_cons_succ]
            refine wpAnyH_ready (rs := [7]) (by kernel_rfl) (by simp) ?_
            refine AllReadyH.cons (o := { dst := some 39, op := Op.call { callee := Callee.builtin Builtin.append, args := #[Operand.tmp 36, Operand.tmp 38], argTypes := #[24, 24] }, type := 24, pos := "l08_maps.go:27", after := #[{ on := 4, ground := Ground.data }, { on := 6, ground := Ground.data }, { on := 4, ground := Ground.chain }], guard := none }) rfl (fun K hK => ?_) AllReadyH.nil
            have oy := ot
            refine wp_append_maps (.tmp 36) (.tmp 38) 24 24 rfl uM uM w1.heap.size _ _ T [m] (by simp [Act.eval, Act.put] <;> first | rfl | omega) (by simp [Act.eval, Act.put] <;> first | rfl | omega) oy (by have := hHeld.2.2.2.size; simpa using this) (rd_cel ((cm.alloc _).grown gt (fun e => by simp [Value.ownBlock] at e))) (by simp; omega) ?_
            intro z wz oz gz _
            rw [hT1] at oz
            obtain ⟨za, zc, rfl, -⟩ := oz.form
            refine hK.out _ _ (put3_grown (by assumption) gz HS.out.2.2.1 (fun k hk => (OwnM.block oy k hk).1)) (fun hHeld => ?_)
            clear hK K oy
            try simp only [Act.put, List.setIfInBounds_toArray, List.set_cons_zero, List.set_cons_succ]
            have HZ := Lib.hid (And.intro oz hHeld.2.2.2)
            refine take_yes (i := 8) (oi := { dst := some 8, op := Op.assign (Operand.tmp 39), type := 24, pos := "l08_maps.go:27", after := #[{ on := 7, ground := Ground.data }, { on := 7, ground := Ground.chain }, { on := 0, ground := Ground.phase }, { on := 1, ground := Ground.phase }, { on := 2, ground := Ground.phase }, { on := 3, ground := Ground.phase }, { on := 4, ground := Ground.phase }, { on := 5, ground := Ground.phase }, { on := 6, ground := Ground.phase }, { on := 7, ground := Ground.phase }], guard := none }) (v := .slice za T1.length zc) rfl (by kernel_rfl) (by kernel_rfl) (by kernel_rfl) (fun _ _ _ h => h) (by rfl) (fun w hSw => by (try dsimp only at hSw); go_simp) (by assumption) ?_
            try simp only [Act.put, List.setIfInBounds_toArray, List.set_cons_zero, List.set_cons_succ]
            refine wpAnyH_done (by kernel_rfl) ?_ _
            have HD := Lib.hid (HX.out.2 wz HZ.out.2)
            go_upto_region 9 with (at_builtin; refine wpList_append_maps rfl _ _ 24 24 rfl uM uM w1.heap.size (.slice za T1.length zc) (.slice (some ⟨g, k * 3, none⟩) (ms.length - k) (ms.length - k)) T1 (ms.drop k) (by first | (simp [Act.eval, Act.put]; done) | (simp [Act.eval, Act.put]; omega)) (by first | (simp [Act.eval, Act.put]; done) | (simp [Act.eval, Act.put]; omega)) HZ.out.1 HZ.out.2.size HD.out (by simp; omega) ?_; intro l wl ol gl _)
            rw [← HL.out] at ol
            obtain ⟨la, lc, rfl, -⟩ := ol.form
            have hrl := ol.rd
            have hbl : Below w1.heap.size w1 wl := HZ.out.2.grown gl HZ.out.2.size (fun k hk => (HZ.out.1.block k hk).1)
            have HN := Lib.hid (And.intro (ol.mono (Nat.le_of_lt HS.out.2.2.1) (Nat.le_refl _)) hbl)
            clear ol gl hbl
            by_cases hok : mapsOk L = true
            · rw [hok] at cO
              have HF : Hid (r = (L, true)) := Lib.hid (by rw [← HP.out.1]; unfold putMap; rw [HP.out.2.1, if_pos hok])
              clear hok
              go_wp2_with (fail)
              with_reducible refine (cO _ _ hrl).mono ?_
              rintro e w10 ⟨rfl, hb10⟩
              have HE := Lib.hid (And.intro ((HN.out.1.keep hb10 (Nat.le_refl _)).mono (Nat.le_refl _) hb10.size) (HS.out.2.1.trans ((Below.then_ HN.out.2 hb10).mono (Nat.le_of_lt HS.out.2.2.1))))
              clear hb10 hrl cO
              go_wp2_with (fail)
              go_ret2
              rw [HF.out]
              exact ⟨_, rfl, HE.out.1, HE.out.2⟩
            · rw [show mapsOk L = false by simpa using hok] at cO
              have HF : Hid (r = (ms, false)) := Lib.hid (by rw [← HP.out.1]; unfold putMap; rw [HP.out.2.1, if_neg hok])
              clear hok
              go_wp2_with (fail)
              with_reducible refine (cO _ _ hrl).mono ?_
              rintro e w10 ⟨rfl, hb10⟩
              have hB10 := Below.then_ HN.out.2 hb10
              have HE := Lib.hid (And.intro ((HS.out.1.keep hB10 (Nat.le_refl _)).mono (Nat.le_refl _) hB10.size) (HS.out.2.1.trans (hB10.mono (Nat.le_of_lt HS.out.2.2.1))))
              clear hB10 hb10 hrl cO
              go_wp2_with (fail)
              go_ret2
              rw [HF.out]
              first | exact ⟨_, rfl, HE.out.1, HE.out.2⟩ | (have e := HE.out.1; rw [HK.out] at e; exact ⟨_, rfl, e, HE.out.2⟩)
      · have HK := Lib.hid (show ms.length = k by omega)
        have d1 : decide ((k : Int) < (ms.length : Int)) = false := decide_eq_false (by omega)
        rw [List.drop_eq_nil_of_le (by omega)] at hr
        unfold placeGo at hr
        obtain rfl : k = P := by omega
        obtain ⟨T, T1, hT, hT1, hTl, hT1l, hL⟩ := put_parts ms m k hk HP.out.2.2
        rw [HP.out.2.1] at hL
        have HL := Lib.hid hL
        have HX := Lib.hid (And.intro (fun X h => by have := own_part (c := ms.length) (HVX.out X h) 0 k (by omega); rw [List.drop_zero, ← hT] at this; simpa using this : ∀ X, Below w1.heap.size w1 X → RdM X (.slice (some ⟨g, 0, none⟩) k ms.length) T) (fun X h => by have := own_part (c := ms.length - k) (HVX.out X h) 0 (ms.length - k) (by omega); rw [show (ms.drop 0).take (ms.length - k) = ms.drop k by rw [HK.out, Nat.sub_self, List.take_zero, List.drop_eq_nil_of_le (by omega)]] at this; simpa using this : ∀ X, Below w1.heap.size w1 X → RdM X (.slice (some ⟨g, 0, none⟩) (ms.length - k) (ms.length - k)) (ms.drop k)))
        clear hT hL
        have HB := Lib.hid hB
        clear hr hB
        go_wp2_with (fail)
        go_quiet (fail)
        clear hlt d1
        go_upto_region 7 with (fail)
        have HI := Lib.hid (put3_keep (W := w1) (W' := (wr.drewN nq).drew) (w1 := w1) ⟨HS.out.2.2.2.1, HS.out.2.2.2.2.1, HS.out.2.2.2.2.2, Below.refl _ _⟩ (below_drewN HB.out).drew)
        refine wp_region_held_drew (S := fun W => W.cell? ⟨w.heap.size, 0, none⟩ = some (.int .i64 m.sub) ∧ W.cell? ⟨w.heap.size, 1, none⟩ = some (.int .i64 m.seq) ∧ W.cell? ⟨w.heap.size, 2, none⟩ = some (.int .i64 m.len) ∧ Below w1.heap.size w1 W) (by kernel_rfl) HI.out (fun hHeld => ?_)
        refine take_yes (i := 1) (oi := { dst := some 33, op := Op.move (Operand.tmp 0), type := 24, pos := "l08_maps.go:27", after := #[], guard := none }) (v := .slice (some ⟨g, 0, none⟩) ms.length ms.length) rfl (by kernel_rfl) (by kernel_rfl) (by kernel_rfl) (fun _ _ _ h => h) (by rfl) (fun w hSw => by (try dsimp only at hSw); go_simp) (by assumption) ?_
        try simp only [Act.put, List.setIfInBounds_toArray, List.set_cons_zero, List.set_cons_succ]
        refine take_yes (i := 2) (oi := { dst := some 34, op := Op.move (Operand.tmp 7), type := 3, pos := "l08_maps.go:27", after := #[], guard := none }) (v := .int .i64 k) rfl (by kernel_rfl) (by kernel_rfl) (by kernel_rfl) (fun _ _ _ h => h) (by rfl) (fun w hSw => by (try dsimp only at hSw); go_simp) (by assumption) ?_
        try simp only [Act.put, List.setIfInBounds_toArray, List.set_cons_zero, List.set_cons_succ]
        refine take_yes (i := 3) (oi := { dst := some 35, op := Op.slice 24 (Operand.tmp 33) none (some (Operand.tmp 34)) none, type := 24, pos := "l08_maps.go:27", after := #[{ on := 1, ground := Ground.data }, { on := 2, ground := Ground.data }], guard := none }) (v := .slice (some ⟨g, 0, none⟩) k ms.length) rfl (by kernel_rfl) (by kernel_rfl) (by kernel_rfl) (fun _ _ _ h => h) (by rfl) (fun w hSw => by (try dsimp only at hSw); go_simp) (by assumption) ?_
        try simp only [Act.put, List.setIfInBounds_toArray, List.set_cons_zero, List.set_cons_succ]
        refine take_yes (i := 5) (oi := { dst := some 37, op := Op.load 26 (Operand.tmp 3), type := 26, pos := "l08_maps.go:27", after := #[], guard := none }) (v := .agg #[.int .i64 m.sub, .int .i64 m.seq, .int .i64 m.len]) rfl (by kernel_rfl) (by kernel_rfl) (by kernel_rfl) (fun _ _ _ h => h) (by rfl) (fun w hSw => by (try dsimp only at hSw); go_simp) (by assumption) ?_
        try simp only [Act.put, List.setIfInBounds_toArray, List.set_cons_zero, List.set_cons_succ]
        generalize hw0 : (wr.drewN nq).drew = w0 at *
        clear hw0
        refine wpAnyH_ready (rs := [0, 6]) (by kernel_rfl) (by simp) ?_
        refine AllReadyH.cons (o := { dst := some 32, op := Op.buildSlice 24 0 #[], type := 24, pos := "l08_maps.go:27", after := #[], guard := none }) rfl (fun K hK => ?_) ?_
        · go_simp
          have oe := own_from w0 w1.heap.size (by have := hHeld.2.2.2.size; simpa using this)
          have be := below_new w0 (.cells #[] 26)
          refine hK.out _ _ (put3_keep (by assumption) be) (fun hHeld => ?_)
          clear hK K
          try simp only [Act.put, List.setIfInBounds_toArray, List.set_cons_zero, List.set_cons_succ]
          refine wpAnyH_ready (rs := [4, 6]) (by kernel_rfl) (by simp) ?_
          refine AllReadyH.cons (o := { dst := some 36, op := Op.call { callee := Callee.builtin Builtin.append, args := #[Operand.tmp 32, Operand.tmp 35], argTypes := #[24, 24] }, type := 24, pos := "l08_maps.go:27", after := #[{ on := 0, ground := Ground.data }, { on := 3, ground := Ground.data }], guard := none }) rfl (fun K hK => ?_) ?_
          · have oy := oe
            refine wp_append_maps (.tmp 32) (.tmp 35) 24 24 rfl uM uM w1.heap.size _ _ [] T (by simp [Act.eval, Act.put] <;> first | rfl | omega) (by simp [Act.eval, Act.put] <;> first | rfl | omega) oy (by have := hHeld.2.2.2.size; simpa using this) (HX.out.1 _ hHeld.2.2.2) (by simp; omega) ?_
            intro t wt ot gt _
            rw [List.nil_append] at ot
            obtain ⟨ta, tc, rfl, -⟩ := ot.form
            refine hK.out _ _ (put3_grown (by assumption) gt HS.out.2.2.1 (fun k hk => (OwnM.block oy k hk).1)) (fun hHeld => ?_)
            clear hK K oy
            try simp only [Act.put, List.setIfInBounds_toArray, List.set_cons_zero, List.set_cons_succ]
            refine wpAnyH_ready (rs := [6]) (by kernel_rfl) (by simp) ?_
            refine AllReadyH.cons (o := { dst := some 38, op := Op.buildSlice 24 1 #[(0, Operand.tmp 37)], type := 24, pos := "l08_maps.go:27", after := #[{ on := 5, ground := Ground.data }], guard := none }) rfl (fun K hK => ?_) AllReadyH.nil
            go_simp
            have ro := rd_one wt m
            have cm := Cel.new wt 26 #[.int .i64 m.sub, .int .i64 m.seq, .int .i64 m.len]
            have bo := below_new wt (.cells #[.int .i64 m.sub, .int .i64 m.seq, .int .i64 m.len] 26)
            refine hK.out _ _ (put3_keep (by assumption) bo) (fun hHeld => ?_)
            clear hK K
            try simp only [Act.put, List.setIfInBounds_toArray, List.set_cons_zero, List.set_cons_succ]
            refine wpAnyH_ready (rs := [7]) (by kernel_rfl) (by simp) ?_
            refine AllReadyH.cons (o := { dst := some 39, op := Op.call { callee := Callee.builtin Builtin.append, args := #[Operand.tmp 36, Operand.tmp 38], argTypes := #[24, 24] }, type := 24, pos := "l08_maps.go:27", after := #[{ on := 4, ground := Ground.data }, { on := 6, ground := Ground.data }, { on := 4, ground := Ground.chain }], guard := none }) rfl (fun K hK => ?_) AllReadyH.nil
            have oy := own_alloc ot (.cells #[.int .i64 m.sub, .int .i64 m.seq, .int .i64 m.len] 26)
            refine wp_append_maps (.tmp 36) (.tmp 38) 24 24 rfl uM uM w1.heap.size _ _ T [m] (by simp [Act.eval, Act.put] <;> first | rfl | omega) (by simp [Act.eval, Act.put] <;> first | rfl | omega) oy (by have := hHeld.2.2.2.size; simpa using this) (ro) (by simp; omega) ?_
            intro z wz oz gz _
            rw [hT1] at oz
            obtain ⟨za, zc, rfl, -⟩ := oz.form
            refine hK.out _ _ (put3_grown (by assumption) gz HS.out.2.2.1 (fun k hk => (OwnM.block oy k hk).1)) (fun hHeld => ?_)
            clear hK K oy
            try simp only [Act.put, List.setIfInBounds_toArray, List.set_cons_zero, List.set_cons_succ]
            have HZ := Lib.hid (And.intro oz hHeld.2.2.2)
            refine take_yes (i := 8) (oi := { dst := some 8, op := Op.assign (Operand.tmp 39), type := 24, pos := "l08_maps.go:27", after := #[{ on := 7, ground := Ground.data }, { on := 7, ground := Ground.chain }, { on := 0, ground := Ground.phase }, { on := 1, ground := Ground.phase }, { on := 2, ground := Ground.phase }, { on := 3, ground := Ground.phase }, { on := 4, ground := Ground.phase }, { on := 5, ground := Ground.phase }, { on := 6, ground := Ground.phase }, { on := 7, ground := Ground.phase }], guard := none }) (v := .slice za T1.length zc) rfl (by kernel_rfl) (by kernel_rfl) (by kernel_rfl) (fun _ _ _ h => h) (by rfl) (fun w hSw => by (try dsimp only at hSw); go_simp) (by assumption) ?_
            try simp only [Act.put, List.setIfInBounds_toArray, List.set_cons_zero, List.set_cons_succ]
            refine wpAnyH_done (by kernel_rfl) ?_ _
            have HD := Lib.hid (HX.out.2 wz HZ.out.2)
            go_upto_region 9 with (at_builtin; refine wpList_append_maps rfl _ _ 24 24 rfl uM uM w1.heap.size (.slice za T1.length zc) (.slice (some ⟨g, 0, none⟩) (ms.length - k) (ms.length - k)) T1 (ms.drop k) (by first | (simp [Act.eval, Act.put]; done) | (simp [Act.eval, Act.put]; omega)) (by first | (simp [Act.eval, Act.put, HK.out]; done) | (simp [Act.eval, Act.put, HK.out]; omega)) HZ.out.1 HZ.out.2.size HD.out (by simp; omega) ?_; intro l wl ol gl _)
            rw [← HL.out] at ol
            obtain ⟨la, lc, rfl, -⟩ := ol.form
            have hrl := ol.rd
            have hbl : Below w1.heap.size w1 wl := HZ.out.2.grown gl HZ.out.2.size (fun k hk => (HZ.out.1.block k hk).1)
            have HN := Lib.hid (And.intro (ol.mono (Nat.le_of_lt HS.out.2.2.1) (Nat.le_refl _)) hbl)
            clear ol gl hbl
            by_cases hok : mapsOk L = true
            · rw [hok] at cO
              have HF : Hid (r = (L, true)) := Lib.hid (by rw [← HP.out.1]; unfold putMap; rw [HP.out.2.1, if_pos hok])
              clear hok
              go_wp2_with (fail)
              with_reducible refine (cO _ _ hrl).mono ?_
              rintro e w10 ⟨rfl, hb10⟩
              have HE := Lib.hid (And.intro ((HN.out.1.keep hb10 (Nat.le_refl _)).mono (Nat.le_refl _) hb10.size) (HS.out.2.1.trans ((Below.then_ HN.out.2 hb10).mono (Nat.le_of_lt HS.out.2.2.1))))
              clear hb10 hrl cO
              go_wp2_with (fail)
              go_ret2
              rw [HF.out]
              exact ⟨_, rfl, HE.out.1, HE.out.2⟩
            · rw [show mapsOk L = false by simpa using hok] at cO
              have HF : Hid (r = (ms, false)) := Lib.hid (by rw [← HP.out.1]; unfold putMap; rw [HP.out.2.1, if_neg hok])
              clear hok
              go_wp2_with (fail)
              with_reducible refine (cO _ _ hrl).mono ?_
              rintro e w10 ⟨rfl, hb10⟩
              have hB10 := Below.then_ HN.out.2 hb10
              have HE := Lib.hid (And.intro ((HS.out.1.keep hB10 (Nat.le_refl _)).mono (Nat.le_refl _) hB10.size) (HS.out.2.1.trans (hB10.mono (Nat.le_of_lt HS.out.2.2.1))))
              clear hB10 hb10 hrl cO
              go_wp2_with (fail)
              go_ret2
              rw [HF.out]
              first | exact ⟨_, rfl, HE.out.1, HE.out.2⟩ | (have e := HE.out.1; rw [HK.out] at e; exact ⟨_, rfl, e, HE.out.2⟩)
          · refine AllReadyH.cons (o := { dst := some 38, op := Op.buildSlice 24 1 #[(0, Operand.tmp 37)], type := 24, pos := "l08_maps.go:27", after := #[{ on := 5, ground := Ground.data }], guard := none }) rfl (fun K hK => ?_) AllReadyH.nil
            go_simp
            have ro := rd_one (w0.alloc (.cells #[] 26)) m
            have cm := Cel.new (w0.alloc (.cells #[] 26)) 26 #[.int .i64 m.sub, .int .i64 m.seq, .int .i64 m.len]
            have bo := below_new (w0.alloc (.cells #[] 26)) (.cells #[.int .i64 m.sub, .int .i64 m.seq, .int .i64 m.len] 26)
            refine hK.out _ _ (put3_keep (by assumption) bo) (fun hHeld => ?_)
            clear hK K
            try simp only [Act.put, List.setIfInBounds_toArray, List.set_cons_zero, List.set_cons_succ]
            refine wpAnyH_ready (rs := [4]) (by kernel_rfl) (by simp) ?_
            refine AllReadyH.cons (o := { dst := some 36, op := Op.call { callee := Callee.builtin Builtin.append, args := #[Operand.tmp 32, Operand.tmp 35], argTypes := #[24, 24] }, type := 24, pos := "l08_maps.go:27", after := #[{ on := 0, ground := Ground.data }, { on := 3, ground := Ground.data }], guard := none }) rfl (fun K hK => ?_) AllReadyH.nil
            have oy := own_alloc oe (.cells #[.int .i64 m.sub, .int .i64 m.seq, .int .i64 m.len] 26)
            refine wp_append_maps (.tmp 32) (.tmp 35) 24 24 rfl uM uM w1.heap.size _ _ [] T (by simp [Act.eval, Act.put] <;> first | rfl | omega) (by simp [Act.eval, Act.put] <;> first | rfl | omega) oy (by have := hHeld.2.2.2.size; simpa using this) (HX.out.1 _ hHeld.2.2.2) (by simp; omega) ?_
            intro t wt ot gt _
            rw [List.nil_append] at ot
            obtain ⟨ta, tc, rfl, -⟩ := ot.form
            refine hK.out _ _ (put3_grown (by assumption) gt HS.out.2.2.1 (fun k hk => (OwnM.block oy k hk).1)) (fun hHeld => ?_)
            clear hK K oy
            try simp only [Act.put, List.setIfInBounds_toArray, List.set_cons_zero, List.set_cons_succ]
            refine wpAnyH_ready (rs := [7]) (by kernel_rfl) (by simp) ?_
            refine AllReadyH.cons (o := { dst := some 39, op := Op.call { callee := Callee.builtin Builtin.append, args := #[Operand.tmp 36, Operand.tmp 38], argTypes := #[24, 24] }, type := 24, pos := "l08_maps.go:27", after := #[{ on := 4, ground := Ground.data }, { on := 6, ground := Ground.data }, { on := 4, ground := Ground.chain }], guard := none }) rfl (fun K hK => ?_) AllReadyH.nil
            have oy := ot
            refine wp_append_maps (.tmp 36) (.tmp 38) 24 24 rfl uM uM w1.heap.size _ _ T [m] (by simp [Act.eval, Act.put] <;> first | rfl | omega) (by simp [Act.eval, Act.put] <;> first | rfl | omega) oy (by have := hHeld.2.2.2.size; simpa using this) (rd_cel (cm.grown gt (fun e => by simp [Value.ownBlock] at e))) (by simp; omega) ?_
            intro z wz oz gz _
            rw [hT1] at oz
            obtain ⟨za, zc, rfl, -⟩ := oz.form
            refine hK.out _ _ (put3_grown (by assumption) gz HS.out.2.2.1 (fun k hk => (OwnM.block oy k hk).1)) (fun hHeld => ?_)
            clear hK K oy
            try simp only [Act.put, List.setIfInBounds_toArray, List.set_cons_zero, List.set_cons_succ]
            have HZ := Lib.hid (And.intro oz hHeld.2.2.2)
            refine take_yes (i := 8) (oi := { dst := some 8, op := Op.assign (Operand.tmp 39), type := 24, pos := "l08_maps.go:27", after := #[{ on := 7, ground := Ground.data }, { on := 7, ground := Ground.chain }, { on := 0, ground := Ground.phase }, { on := 1, ground := Ground.phase }, { on := 2, ground := Ground.phase }, { on := 3, ground := Ground.phase }, { on := 4, ground := Ground.phase }, { on := 5, ground := Ground.phase }, { on := 6, ground := Ground.phase }, { on := 7, ground := Ground.phase }], guard := none }) (v := .slice za T1.length zc) rfl (by kernel_rfl) (by kernel_rfl) (by kernel_rfl) (fun _ _ _ h => h) (by rfl) (fun w hSw => by (try dsimp only at hSw); go_simp) (by assumption) ?_
            try simp only [Act.put, List.setIfInBounds_toArray, List.set_cons_zero, List.set_cons_succ]
            refine wpAnyH_done (by kernel_rfl) ?_ _
            have HD := Lib.hid (HX.out.2 wz HZ.out.2)
            go_upto_region 9 with (at_builtin; refine wpList_append_maps rfl _ _ 24 24 rfl uM uM w1.heap.size (.slice za T1.length zc) (.slice (some ⟨g, 0, none⟩) (ms.length - k) (ms.length - k)) T1 (ms.drop k) (by first | (simp [Act.eval, Act.put]; done) | (simp [Act.eval, Act.put]; omega)) (by first | (simp [Act.eval, Act.put, HK.out]; done) | (simp [Act.eval, Act.put, HK.out]; omega)) HZ.out.1 HZ.out.2.size HD.out (by simp; omega) ?_; intro l wl ol gl _)
            rw [← HL.out] at ol
            obtain ⟨la, lc, rfl, -⟩ := ol.form
            have hrl := ol.rd
            have hbl : Below w1.heap.size w1 wl := HZ.out.2.grown gl HZ.out.2.size (fun k hk => (HZ.out.1.block k hk).1)
            have HN := Lib.hid (And.intro (ol.mono (Nat.le_of_lt HS.out.2.2.1) (Nat.le_refl _)) hbl)
            clear ol gl hbl
            by_cases hok : mapsOk L = true
            · rw [hok] at cO
              have HF : Hid (r = (L, true)) := Lib.hid (by rw [← HP.out.1]; unfold putMap; rw [HP.out.2.1, if_pos hok])
              clear hok
              go_wp2_with (fail)
              with_reducible refine (cO _ _ hrl).mono ?_
              rintro e w10 ⟨rfl, hb10⟩
              have HE := Lib.hid (And.intro ((HN.out.1.keep hb10 (Nat.le_refl _)).mono (Nat.le_refl _) hb10.size) (HS.out.2.1.trans ((Below.then_ HN.out.2 hb10).mono (Nat.le_of_lt HS.out.2.2.1))))
              clear hb10 hrl cO
              go_wp2_with (fail)
              go_ret2
              rw [HF.out]
              exact ⟨_, rfl, HE.out.1, HE.out.2⟩
            · rw [show mapsOk L = false by simpa using hok] at cO
              have HF : Hid (r = (ms, false)) := Lib.hid (by rw [← HP.out.1]; unfold putMap; rw [HP.out.2.1, if_neg hok])
              clear hok
              go_wp2_with (fail)
              with_reducible refine (cO _ _ hrl).mono ?_
              rintro e w10 ⟨rfl, hb10⟩
              have hB10 := Below.then_ HN.out.2 hb10
              have HE := Lib.hid (And.intro ((HS.out.1.keep hB10 (Nat.le_refl _)).mono (Nat.le_refl _) hB10.size) (HS.out.2.1.trans (hB10.mono (Nat.le_of_lt HS.out.2.2.1))))
              clear hB10 hb10 hrl cO
              go_wp2_with (fail)
              go_ret2
              rw [HF.out]
              first | exact ⟨_, rfl, HE.out.1, HE.out.2⟩ | (have e := HE.out.1; rw [HK.out] at e; exact ⟨_, rfl, e, HE.out.2⟩)
        · refine AllReadyH.cons (o := { dst := some 38, op := Op.buildSlice 24 1 #[(0, Operand.tmp 37)], type := 24, pos := "l08_maps.go:27", after := #[{ on := 5, ground := Ground.data }], guard := none }) rfl (fun K hK => ?_) AllReadyH.nil
          go_simp
          have ro := rd_one w0 m
          have cm := Cel.new w0 26 #[.int .i64 m.sub, .int .i64 m.seq, .int .i64 m.len]
          have bo := below_new w0 (.cells #[.int .i64 m.sub, .int .i64 m.seq, .int .i64 m.len] 26)
          refine hK.out _ _ (put3_keep (by assumption) bo) (fun hHeld => ?_)
          clear hK K
          try simp only [Act.put, List.setIfInBounds_toArray, List.set_cons_zero, List.set_cons_succ]
          refine wpAnyH_ready (rs := [0]) (by kernel_rfl) (by simp) ?_
          refine AllReadyH.cons (o := { dst := some 32, op := Op.buildSlice 24 0 #[], type := 24, pos := "l08_maps.go:27", after := #[], guard := none }) rfl (fun K hK => ?_) AllReadyH.nil
          go_simp
          have oe := own_from (w0.alloc (.cells #[.int .i64 m.sub, .int .i64 m.seq, .int .i64 m.len] 26)) w1.heap.size (by have := hHeld.2.2.2.size; simpa using this)
          have be := below_new (w0.alloc (.cells #[.int .i64 m.sub, .int .i64 m.seq, .int .i64 m.len] 26)) (.cells #[] 26)
          refine hK.out _ _ (put3_keep (by assumption) be) (fun hHeld => ?_)
          clear hK K
          try simp only [Act.put, List.setIfInBounds_toArray, List.set_cons_zero, List.set_cons_succ]
          refine wpAnyH_ready (rs := [4]) (by kernel_rfl) (by simp) ?_
          refine AllReadyH.cons (o := { dst := some 36, op := Op.call { callee := Callee.builtin Builtin.append, args := #[Operand.tmp 32, Operand.tmp 35], argTypes := #[24, 24] }, type := 24, pos := "l08_maps.go:27", after := #[{ on := 0, ground := Ground.data }, { on := 3, ground := Ground.data }], guard := none }) rfl (fun K hK => ?_) AllReadyH.nil
          have oy := oe
          refine wp_append_maps (.tmp 32) (.tmp 35) 24 24 rfl uM uM w1.heap.size _ _ [] T (by simp [Act.eval, Act.put] <;> first | rfl | omega) (by simp [Act.eval, Act.put] <;> first | rfl | omega) oy (by have := hHeld.2.2.2.size; simpa using this) (HX.out.1 _ hHeld.2.2.2) (by simp; omega) ?_
          intro t wt ot gt _
          rw [List.nil_append] at ot
          obtain ⟨ta, tc, rfl, -⟩ := ot.form
          refine hK.out _ _ (put3_grown (by assumption) gt HS.out.2.2.1 (fun k hk => (OwnM.block oy k hk).1)) (fun hHeld => ?_)
          clear hK K oy
          try simp only [Act.put, List.setIfInBounds_toArray, List.set_cons_zero, List.set_cons_succ]
          refine wpAnyH_ready (rs := [7]) (by kernel_rfl) (by simp) ?_
          refine AllReadyH.cons (o := { dst := some 39, op := Op.call { callee := Callee.builtin Builtin.append, args := #[Operand.tmp 36, Operand.tmp 38], argTypes := #[24, 24] }, type := 24, pos := "l08_maps.go:27", after := #[{ on := 4, ground := Ground.data }, { on := 6, ground := Ground.data }, { on := 4, ground := Ground.chain }], guard := none }) rfl (fun K hK => ?_) AllReadyH.nil
          have oy := ot
          refine wp_append_maps (.tmp 36) (.tmp 38) 24 24 rfl uM uM w1.heap.size _ _ T [m] (by simp [Act.eval, Act.put] <;> first | rfl | omega) (by simp [Act.eval, Act.put] <;> first | rfl | omega) oy (by have := hHeld.2.2.2.size; simpa using this) (rd_cel ((cm.alloc _).grown gt (fun e => by simp [Value.ownBlock] at e))) (by simp; omega) ?_
          intro z wz oz gz _
          rw [hT1] at oz
          obtain ⟨za, zc, rfl, -⟩ := oz.form
          refine hK.out _ _ (put3_grown (by assumption) gz HS.out.2.2.1 (fun k hk => (OwnM.block oy k hk).1)) (fun hHeld => ?_)
          clear hK K oy
          try simp only [Act.put, List.setIfInBounds_toArray, List.set_cons_zero, List.set_cons_succ]
          have HZ := Lib.hid (And.intro oz hHeld.2.2.2)
          refine take_yes (i := 8) (oi := { dst := some 8, op := Op.assign (Operand.tmp 39), type := 24, pos := "l08_maps.go:27", after := #[{ on := 7, ground := Ground.data }, { on := 7, ground := Ground.chain }, { on := 0, ground := Ground.phase }, { on := 1, ground := Ground.phase }, { on := 2, ground := Ground.phase }, { on := 3, ground := Ground.phase }, { on := 4, ground := Ground.phase }, { on := 5, ground := Ground.phase }, { on := 6, ground := Ground.phase }, { on := 7, ground := Ground.phase }], guard := none }) (v := .slice za T1.length zc) rfl (by kernel_rfl) (by kernel_rfl) (by kernel_rfl) (fun _ _ _ h => h) (by rfl) (fun w hSw => by (try dsimp only at hSw); go_simp) (by assumption) ?_
          try simp only [Act.put, List.setIfInBounds_toArray, List.set_cons_zero, List.set_cons_succ]
          refine wpAnyH_done (by kernel_rfl) ?_ _
          have HD := Lib.hid (HX.out.2 wz HZ.out.2)
          go_upto_region 9 with (at_builtin; refine wpList_append_maps rfl _ _ 24 24 rfl uM uM w1.heap.size (.slice za T1.length zc) (.slice (some ⟨g, 0, none⟩) (ms.length - k) (ms.length - k)) T1 (ms.drop k) (by first | (simp [Act.eval, Act.put]; done) | (simp [Act.eval, Act.put]; omega)) (by first | (simp [Act.eval, Act.put, HK.out]; done) | (simp [Act.eval, Act.put, HK.out]; omega)) HZ.out.1 HZ.out.2.size HD.out (by simp; omega) ?_; intro l wl ol gl _)
          rw [← HL.out] at ol
          obtain ⟨la, lc, rfl, -⟩ := ol.form
          have hrl := ol.rd
          have hbl : Below w1.heap.size w1 wl := HZ.out.2.grown gl HZ.out.2.size (fun k hk => (HZ.out.1.block k hk).1)
          have HN := Lib.hid (And.intro (ol.mono (Nat.le_of_lt HS.out.2.2.1) (Nat.le_refl _)) hbl)
          clear ol gl hbl
          by_cases hok : mapsOk L = true
          · rw [hok] at cO
            have HF : Hid (r = (L, true)) := Lib.hid (by rw [← HP.out.1]; unfold putMap; rw [HP.out.2.1, if_pos hok])
            clear hok
            go_wp2_with (fail)
            with_reducible refine (cO _ _ hrl).mono ?_
            rintro e w10 ⟨rfl, hb10⟩
            have HE := Lib.hid (And.intro ((HN.out.1.keep hb10 (Nat.le_refl _)).mono (Nat.le_refl _) hb10.size) (HS.out.2.1.trans ((Below.then_ HN.out.2 hb10).mono (Nat.le_of_lt HS.out.2.2.1))))
            clear hb10 hrl cO
            go_wp2_with (fail)
            go_ret2
            rw [HF.out]
            exact ⟨_, rfl, HE.out.1, HE.out.2⟩
          · rw [show mapsOk L = false by simpa using hok] at cO
            have HF : Hid (r = (ms, false)) := Lib.hid (by rw [← HP.out.1]; unfold putMap; rw [HP.out.2.1, if_neg hok])
            clear hok
            go_wp2_with (fail)
            with_reducible refine (cO _ _ hrl).mono ?_
            rintro e w10 ⟨rfl, hb10⟩
            have hB10 := Below.then_ HN.out.2 hb10
            have HE := Lib.hid (And.intro ((HS.out.1.keep hB10 (Nat.le_refl _)).mono (Nat.le_refl _) hB10.size) (HS.out.2.1.trans (hB10.mono (Nat.le_of_lt HS.out.2.2.1))))
            clear hB10 hb10 hrl cO
            go_wp2_with (fail)
            go_ret2
            rw [HF.out]
            first | exact ⟨_, rfl, HE.out.1, HE.out.2⟩ | (have e := HE.out.1; rw [HK.out] at e; exact ⟨_, rfl, e, HE.out.2⟩)
end Go.Proofs.Ytjnobggefofjcaa
