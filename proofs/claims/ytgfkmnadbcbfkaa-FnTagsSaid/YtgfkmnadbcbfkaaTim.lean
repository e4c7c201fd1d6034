import Derived.Test.YtgfkmnadbcbfkaaTse
import Derived.Test.YtgfkmnadbcbfkaaTkn
namespace Go.Proofs.Ytgfkmnadbcbfkaa
open Go.RowKit Go.Maps

/-- s[:h] of a slice that is read. -/
theorem RdE.cut_to {α : Type} {K : EK α} {tS : TypeId} (hS : Try.prog.underlying tS = some (.slice K.t)) (a : Option Addr) (c : Nat) (xs : List α) (hh : Nat) (hn : hh ≤ xs.length) (hc : xs.length ≤ c) :
    ∃ a', (∀ W', (Instr.slice tS (.slice a xs.length c) none (some (.int .i64 (hh : Int))) none).run Try.prog W' = .ok (.slice a' hh c) W') ∧ ∀ W', RdE K W' (.slice a xs.length c) xs → RdE K W' (.slice a' hh c) (xs.take hh) := by
  obtain ⟨i0, hq, -, hz1, -⟩ := einfo K
  refine ⟨if c = 0 then a else a.map (·.add (0 * K.n)), fun W' => ?_, fun W' h' => ?_⟩
  · have h2 : (0 : Int) ≤ (hh : Int) ∧ (hh : Int) ≤ (c : Int) := by omega
    have h3 : hh ≤ c := by omega
    simp [Instr.slice, run_underlying hS, Instr.sliceBounds, Instr.sliceBound, asIntOf, h2, h3, sizeOf, typeInfo, hq]
  · by_cases h0 : hh = 0
    · subst h0
      rw [List.take_zero]
      exact RdE.nil _ _ _
    · obtain ⟨a2, c2, he, h⟩ := id h'
      injection he with e1 e2 e3
      subst e1
      obtain ⟨b, off, rfl, hr⟩ := h (by omega)
      rw [if_neg (by omega)]
      have := RdE.part (c' := c) h' 0 hh (by omega)
      rw [List.drop_zero] at this
      simpa [Addr.add] using this
theorem take_min {α : Type} (xs : List α) (m n : Nat) (hm : min xs.length n = m) : xs.take m = xs.take n := by
  subst hm
  by_cases h : xs.length ≤ n
  · rw [Nat.min_eq_left h, List.take_length, List.take_of_length_le h]
  · rw [Nat.min_eq_right (by omega)]

set_option linter.unusedSimpArgs false in
set_option maxRecDepth 100000 in
set_option maxHeartbeats 4000000 in
theorem impl_canMake (ku tu : Value) (ks : List Int) (ts : List Tv) (t : Tv) (w : World) (h : KnR w ku tu ks ts) (hkn : ks.length ≤ 9223372036854775807) (htn : ts.length ≤ 9223372036854775807) (hkw : KnW ks ts) (htw : TvW t) :
    Calls Try.prog 17 #[.agg #[ku, tu], .agg #[.int .i64 t.kind, .int .i64 t.one, .int .i64 t.two, .int .i64 t.a, .int .i64 t.b]] w fun e w' => e = .returned (.bool (canMk ks ts t)) ∧ Below w.heap.size w w' := by
  obtain ⟨ka, kc, rfl⟩ := h.k.form
  obtain ⟨ta, tc, rfl⟩ := h.t.form
  have hz := h.z _ _ _ rfl
  obtain ⟨m, hm⟩ : ∃ m, min ts.length 300 = m := ⟨_, rfl⟩
  have hm3 : (if (300 : Int) < (ts.length : Int) then (300 : Int) else (ts.length : Int)) = (m : Int) := by split <;> omega
  have hml : (ts.take m).length = m := by rw [List.length_take]; omega
  obtain ⟨a', hcut, hcutR⟩ := RdE.cut_to (K := tvK) uTv ta tc ts m (by omega) hz
  have hA0 := (Cel.new w 27 #[.slice ka ks.length kc, .slice ta ts.length tc]).alloc (.cells #[.int .i64 t.kind, .int .i64 t.one, .int .i64 t.two, .int .i64 t.a, .int .i64 t.b] 29)
  have hZ0 := Cel.new (w.alloc (.cells #[.slice ka ks.length kc, .slice ta ts.length tc] 27)) 29 #[.int .i64 t.kind, .int .i64 t.one, .int .i64 t.two, .int .i64 t.a, .int .i64 t.b]
  have hB0 : Below w.heap.size w ((w.alloc (.cells #[.slice ka ks.length kc, .slice ta ts.length tc] 27)).alloc (.cells #[.int .i64 t.kind, .int .i64 t.one, .int .i64 t.two, .int .i64 t.a, .int .i64 t.b] 29)) := ((Below.refl _ _).alloc (Nat.le_refl _) _).alloc (by simp) _
  simp only [World.size_alloc] at hZ0
  obtain ⟨W0, hW0⟩ : ∃ W0, ((w.alloc (.cells #[.slice ka ks.length kc, .slice ta ts.length tc] 27)).alloc (.cells #[.int .i64 t.kind, .int .i64 t.one, .int .i64 t.two, .int .i64 t.a, .int .i64 t.b] 29)) = W0 := ⟨_, rfl⟩
  rw [hW0] at hA0 hZ0 hB0
  obtain ⟨h1, hh1⟩ : ∃ h1, w.heap.size + 1 = h1 := ⟨_, rfl⟩
  rw [hh1] at hZ0
  have HD := Lib.hid (show ∀ W, Below W0.heap.size W0 W → (Below w.heap.size w W ∧ KnR W (.slice ka ks.length kc) (.slice ta ts.length tc) ks ts ∧ (W.cell? ⟨w.heap.size, 0, none⟩ = some (.slice ka ks.length kc) ∧ W.cell? ⟨w.heap.size, 1, none⟩ = some (.slice ta ts.length tc)) ∧ (W.cell? ⟨h1, 0, none⟩ = some (.int .i64 t.kind) ∧ W.cell? ⟨h1, 1, none⟩ = some (.int .i64 t.one) ∧ W.cell? ⟨h1, 2, none⟩ = some (.int .i64 t.two) ∧ W.cell? ⟨h1, 3, none⟩ = some (.int .i64 t.a) ∧ W.cell? ⟨h1, 4, none⟩ = some (.int .i64 t.b))) from fun W hW => ⟨Below.then_ hB0 hW, h.below (Below.then_ hB0 hW), cel2k (hA0.kept hW), cel5tv (hZ0.kept hW)⟩)
  have HW := Lib.hid (And.intro hW0 hh1)
  have cI := fun W h => impl_setI (.slice ka ks.length kc) ks W h hkn hkw.1
  have cT := fun W h => impl_setT (.slice a' m tc) (ts.take m) W h (by omega) (fun x hx => hkw.2 x (List.mem_of_mem_take hx))
  rw [hml] at cT
  have L1 := fun W b (h : SetAt intS W b ks.length (fun z => decide (z ∈ ks))) => (show (Instr.lookup 55 (.map (some b)) (.int .i64 t.one) false).run Try.prog W = .ok (.bool (decide (t.one ∈ ks))) W from h.look t.one htw.2.1)
  have L2 := fun W b (h : SetAt intS W b ks.length (fun z => decide (z ∈ ks))) => (show (Instr.lookup 55 (.map (some b)) (.int .i64 t.two) false).run Try.prog W = .ok (.bool (decide (t.two ∈ ks))) W from h.look t.two htw.2.2.1)
  have L3 := fun W b (h : SetAt tagS W b (m + 1) (fun z => decide (z = Tv.zero) || decide (z ∈ ts.take m))) => (show (Instr.lookup 58 (.map (some b)) (.agg #[.int .i64 t.kind, .int .i64 t.one, .int .i64 t.two, .int .i64 t.a, .int .i64 t.b]) false).run Try.prog W = .ok (.bool (decide (t = Tv.zero) || decide (t ∈ ts.take m))) W from h.look t htw)
  have hr : canMk ks ts t = (decide (t.one ∈ ks) && decide (t.two ∈ ks) || (decide (t = Tv.zero) || decide (t ∈ ts.take m))) := by
    rw [take_min ts m 300 hm]
    unfold canMk
    cases decide (t = Tv.zero) <;> cases decide (t.one ∈ ks) <;> cases decide (t.two ∈ ks) <;> cases decide (t ∈ ts.take 300) <;> rfl
  rw [hr]
  generalize decide (t.one ∈ ks) = o1 at *
  generalize decide (t.two ∈ ks) = o2 at *
  generalize (decide (t = Tv.zero) || decide (t ∈ ts.take m)) = o3 at *
  have hm1 : m < maxLen := by unfold maxLen; omega
  have HL := Lib.hid (And.intro L1 (And.intro L2 (And.intro L3 (And.intro hcutR hm1))))
  clear hA0 hZ0 hB0 hW0 hh1 h hr L1 L2 L3 hcutR hm1 hm hml hz hkw htw
  have hS : Below W0.heap.size W0 W0.drew := (Below.refl _ _).drew
  go_enter Try.func17, Try.ntmps17
  go_upto_region 1 with (fail)
  rw [HW.out.1, HW.out.2]
  clear HW
  refine wp_region_held_drew (S := fun W => Below W0.heap.size W0 W) (by kernel_rfl) hS (fun hHeld => ?_)
  clear hS
  generalize W0.drew = wd at *
  refine take_yes (i := 0) (oi := { dst := some 7, op := Op.fieldAddr 27 (Operand.tmp 2) 0, type := 0, pos := "l15_tags.go:39", after := #[], guard := none }) (v := .pointer (some ⟨w.heap.size, 0, none⟩)) rfl (by kernel_rfl) (by kernel_rfl) (by kernel_rfl) (fun _ _ _ h => h) (by rfl) (fun w hSw => by (try dsimp only at hSw); go_simp) (by assumption) ?_
  try simp only [Act.put, List.setIfInBounds_toArray, List.set_cons_zero, List.set_cons_succ]
  refine take_yes (i := 1) (oi := { dst := some 8, op := Op.load 24 (Operand.tmp 7), type := 24, pos := "l15_tags.go:39", after := #[{ on := 0, ground := Ground.data }], guard := none }) (v := .slice ka ks.length kc) rfl (by kernel_rfl) (by kernel_rfl) (by kernel_rfl) (fun _ _ _ h => h) (by rfl) (fun w hSw => by (try dsimp only at hSw); obtain ⟨-, -, ⟨c0, c1⟩, -⟩ := HD.out _ hSw; go_simp) (by assumption) ?_
  try simp only [Act.put, List.setIfInBounds_toArray, List.set_cons_zero, List.set_cons_succ]
  refine take_yes (i := 3) (oi := { dst := some 10, op := Op.fieldAddr 27 (Operand.tmp 2) 1, type := 0, pos := "l15_tags.go:39", after := #[], guard := none }) (v := .pointer (some ⟨w.heap.size, 1, none⟩)) rfl (by kernel_rfl) (by kernel_rfl) (by kernel_rfl) (fun _ _ _ h => h) (by rfl) (fun w hSw => by (try dsimp only at hSw); go_simp) (by assumption) ?_
  try simp only [Act.put, List.setIfInBounds_toArray, List.set_cons_zero, List.set_cons_succ]
  refine take_yes (i := 4) (oi := { dst := some 11, op := Op.load 25 (Operand.tmp 10), type := 25, pos := "l15_tags.go:39", after := #[{ on := 3, ground := Ground.data }], guard := none }) (v := .slice ta ts.length tc) rfl (by kernel_rfl) (by kernel_rfl) (by kernel_rfl) (fun _ _ _ h => h) (by rfl) (fun w hSw => by (try dsimp only at hSw); obtain ⟨-, -, ⟨c0, c1⟩, -⟩ := HD.out _ hSw; go_simp) (by assumption) ?_
  try simp only [Act.put, List.setIfInBounds_toArray, List.set_cons_zero, List.set_cons_succ]
  refine take_yes (i := 5) (oi := { dst := some 12, op := Op.fieldAddr 27 (Operand.tmp 2) 1, type := 0, pos := "l15_tags.go:39", after := #[], guard := none }) (v := .pointer (some ⟨w.heap.size, 1, none⟩)) rfl (by kernel_rfl) (by kernel_rfl) (by kernel_rfl) (fun _ _ _ h => h) (by rfl) (fun w hSw => by (try dsimp only at hSw); go_simp) (by assumption) ?_
  try simp only [Act.put, List.setIfInBounds_toArray, List.set_cons_zero, List.set_cons_succ]
  refine take_yes (i := 6) (oi := { dst := some 13, op := Op.load 25 (Operand.tmp 12), type := 25, pos := "l15_tags.go:39", after := #[{ on := 5, ground := Ground.data }], guard := none }) (v := .slice ta ts.length tc) rfl (by kernel_rfl) (by kernel_rfl) (by kernel_rfl) (fun _ _ _ h => h) (by rfl) (fun w hSw => by (try dsimp only at hSw); obtain ⟨-, -, ⟨c0, c1⟩, -⟩ := HD.out _ hSw; go_simp) (by assumption) ?_
  try simp only [Act.put, List.setIfInBounds_toArray, List.set_cons_zero, List.set_cons_succ]
  refine take_yes (i := 7) (oi := { dst := some 14, op := Op.call { callee := Callee.builtin Builtin.len, args := #[Operand.tmp 13], argTypes := #[25] }, type := 3, pos := "l15_tags.go:39", after := #[{ on := 6, ground := Ground.data }], guard := none }) (v := .int .i64 (ts.length : Int)) rfl (by kernel_rfl) (by kernel_rfl) (by kernel_rfl) (fun _ _ _ h => h) (by rfl) (fun w hSw => by (try dsimp only at hSw); go_simp) (by assumption) ?_
  try simp only [Act.put, List.setIfInBounds_toArray, List.set_cons_zero, List.set_cons_succ]
  refine take_yes (i := 8) (oi := { dst := some 15, op := Op.call { callee := Callee.builtin Builtin.min, args := #[Operand.tmp 14, Operand.const (Value.int IntKind.i64 300)], argTypes := #[3, 3] }, type := 3, pos := "l15_tags.go:39", after := #[{ on := 7, ground := Ground.data }], guard := none }) (v := .int .i64 (m : Int)) rfl (by kernel_rfl) (by kernel_rfl) (by kernel_rfl) (fun _ _ _ h => h) (by rfl) (fun w hSw => by (try dsimp only at hSw); go_simp) (by assumption) ?_
  try simp only [Act.put, List.setIfInBounds_toArray, List.set_cons_zero, List.set_cons_succ]
  refine take_yes (i := 9) (oi := { dst := some 16, op := Op.slice 25 (Operand.tmp 11) none (some (Operand.tmp 15)) none, type := 25, pos := "l15_tags.go:39", after := #[{ on := 4, ground := Ground.data }, { on := 8, ground := Ground.data }], guard := none }) (v := .slice a' m tc) rfl (by kernel_rfl) (by kernel_rfl) (by kernel_rfl) (fun _ _ _ h => h) (by rfl) (fun w hSw => by (try dsimp only at hSw); go_simp) (by assumption) ?_
  try simp only [Act.put, List.setIfInBounds_toArray, List.set_cons_zero, List.set_cons_succ]
  refine wpAnyH_ready (rs := [2]) (by kernel_rfl) (by simp) ?_
  refine AllReadyH.cons (o := { dst := some 9, op := Op.call { callee := Callee.value (Operand.func 36), args := #[Operand.tmp 8], argTypes := #[24] }, type := 55, pos := "l15_tags.go:39", after := #[{ on := 1, ground := Ground.data }], guard := none }) rfl (fun K hK => ?_) AllReadyH.nil
  go_simp
  with_reducible refine (cI _ (HD.out _ hHeld).2.1.k).mono ?_
  rintro e wA ⟨bi, rfl, mI, lI, bA⟩
  have KA := Below.then_ hHeld bA
  have HI := Lib.hid mI
  clear mI lI bA
  refine hK.out _ _ KA (fun hHeldN => ?_)
  clear hK K hHeld
  have hHeld := hHeldN
  clear hHeldN
  try simp only [Act.put, List.setIfInBounds_toArray, List.set_cons_zero, List.set_cons_succ]
  refine wpAnyH_ready (rs := [10]) (by kernel_rfl) (by simp) ?_
  refine AllReadyH.cons (o := { dst := some 17, op := Op.call { callee := Callee.value (Operand.func 37), args := #[Operand.tmp 16], argTypes := #[25] }, type := 58, pos := "l15_tags.go:39", after := #[{ on := 9, ground := Ground.data }, { on := 2, ground := Ground.chain }], guard := none }) rfl (fun K hK => ?_) AllReadyH.nil
  go_simp
  with_reducible refine (cT _ (HL.out.2.2.2.1 _ (HD.out _ hHeld).2.1.t)).mono ?_
  rintro e wB ⟨bt, rfl, mT, lT, bB⟩
  have KB := Below.then_ hHeld bB
  have HI2 := Lib.hid (HI.out.kept bB)
  have HN := Lib.hid (show bi ≠ bt from fun e => by have := HI.out.lt; omega)
  clear HI
  have HT := Lib.hid (And.intro mT (Nat.le_trans hHeld.size lT))
  clear mT lT bB
  refine hK.out _ _ KB (fun hHeldN => ?_)
  clear hK K hHeld
  have hHeld := hHeldN
  clear hHeldN
  try simp only [Act.put, List.setIfInBounds_toArray, List.set_cons_zero, List.set_cons_succ]
  refine take_yes (i := 11) (oi := { dst := some 5, op := Op.assign (Operand.tmp 9), type := 55, pos := "l15_tags.go:39", after := #[{ on := 2, ground := Ground.data }, { on := 10, ground := Ground.chain }, { on := 0, ground := Ground.phase }, { on := 1, ground := Ground.phase }, { on := 2, ground := Ground.phase }, { on := 3, ground := Ground.textOnly Departure.lateStores }, { on := 4, ground := Ground.textOnly Departure.lateStores }, { on := 5, ground := Ground.textOnly Departure.lateStores }, { on := 6, ground := Ground.textOnly Departure.lateStores }, { on := 7, ground := Ground.textOnly Departure.lateStoresUnsure }, { on := 8, ground := Ground.textOnly Departure.lateStoresUnsure }, { on := 9, ground := Ground.textOnly Departure.lateStoresUnsure }, { on := 10, ground := Ground.textOnly Departure.lateStoresUnsure }], guard := none }) (v := .map (some bi)) rfl (by kernel_rfl) (by kernel_rfl) (by kernel_rfl) (fun _ _ _ h => h) (by rfl) (fun w hSw => by (try dsimp only at hSw); go_simp) (by assumption) ?_
  try simp only [Act.put, List.setIfInBounds_toArray, List.set_cons_zero, List.set_cons_succ]
  refine take_yes (i := 12) (oi := { dst := some 6, op := Op.assign (Operand.tmp 17), type := 58, pos := "l15_tags.go:39", after := #[{ on := 10, ground := Ground.data }, { on := 11, ground := Ground.chain }, { on := 0, ground := Ground.phase }, { on := 1, ground := Ground.phase }, { on := 2, ground := Ground.phase }, { on := 3, ground := Ground.phase }, { on := 4, ground := Ground.phase }, { on := 5, ground := Ground.phase }, { on := 6, ground := Ground.phase }, { on := 7, ground := Ground.phase }, { on := 8, ground := Ground.phase }, { on := 9, ground := Ground.phase }, { on := 10, ground := Ground.phase }, { on := 11, ground := Ground.phase }], guard := none }) (v := .map (some bt)) rfl (by kernel_rfl) (by kernel_rfl) (by kernel_rfl) (fun _ _ _ h => h) (by rfl) (fun w hSw => by (try dsimp only at hSw); go_simp) (by assumption) ?_
  try simp only [Act.put, List.setIfInBounds_toArray, List.set_cons_zero, List.set_cons_succ]
  refine wpAnyH_done (by kernel_rfl) ?_ _
  have hHeld2 := hHeld
  clear hHeld
  have HB := Lib.hid hHeld2
  clear hHeld2 KA KB
  go_upto_region 3 with (at_mapUpdate; refine wpList_setPut (K := tagS) rfl _ _ _ rfl Tv.zero rfl rfl rfl HT.out.1 tvW_zero HL.out.2.2.2.2 ?_; intro w6 hm6 hg6 hz6; have H6 := Lib.hid (And.intro (Below.trans HB.out (below_turned (Below.refl W0.heap.size wB) hg6 HB.out.size HT.out.2)) (And.intro (HI2.out.keepAt (hg6.block bi HI2.out.lt (fun e => HN.out (by injection e)))) hm6)); clear hm6 hg6 hz6)
  clear HB HI2 HT HN
  obtain ⟨-, -, -, ⟨t0, t1, t2, t3, t4⟩⟩ := HD.out _ H6.out.1
  have l1 := HL.out.1 _ _ H6.out.2.1
  have l2 := HL.out.2.1 _ _ H6.out.2.1
  have l3 := HL.out.2.2.1 _ _ H6.out.2.2
  have HE := Lib.hid (HD.out _ H6.out.1).1
  clear HL HD H6
  cases o1 with
  | true =>
    cases o2 with
    | true =>
      go_wp2_with (fail)
      go_ret
      exact ⟨rfl, HE.out⟩
    | false =>
      go_wp2_with (fail)
      go_ret
      exact ⟨rfl, HE.out⟩
  | false =>
    go_wp2_with (fail)
    go_ret
    exact ⟨rfl, HE.out⟩
end Go.Proofs.Ytgfkmnadbcbfkaa
