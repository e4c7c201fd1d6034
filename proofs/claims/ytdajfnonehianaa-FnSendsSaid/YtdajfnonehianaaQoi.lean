import Derived.Test.YtdajfnonehianaaQol
import Derived.Test.YtdajfnonehianaaTyn
import Derived.Lib.MinMax
namespace Go.Proofs.Ytdajfnonehianaa
open Go.RowKit

set_option maxRecDepth 100000 in
set_option maxHeartbeats 4000000 in
theorem limited_out (o : Ot) (w : World) (hs : o.text.size ≤ 281474976710656) :
    Calls Try.prog 58 #[.agg #[.string o.text, .int .i64 o.base, .int .i64 o.sent, .int .i64 o.room]] w fun e w' => e = .returned (.agg #[.string o.lim.text, .int .i64 o.lim.base, .int .i64 o.lim.sent, .int .i64 o.lim.room]) ∧ Below w.heap.size w w' := by
  obtain ⟨t, b, s, r⟩ := o
  unfold Ot.lim
  simp only at hs ⊢
  have c1 := fun W => impl_brought r 1 200 W
  obtain ⟨r1, hr1⟩ : ∃ r1, max 1 (min r 200) = r1 := ⟨_, rfl⟩
  rw [hr1] at c1 ⊢
  have c2 := fun W => impl_first t r1 W (by omega) (by omega)
  have hz1 := firstOf_size t r1 (by omega)
  obtain ⟨t1, ht1⟩ : ∃ t1, firstOf t r1 = t1 := ⟨_, rfl⟩
  rw [ht1] at c2 hz1 ⊢
  have c3 := fun W => impl_brought b 0 1000000000 W
  obtain ⟨b1, hb1⟩ : ∃ b1, max 0 (min b 1000000000) = b1 := ⟨_, rfl⟩
  rw [hb1] at c3 ⊢
  have cE := fun W => out_end ⟨t1, b1, s, r1⟩ W
  simp only at cE
  have e1 : IntKind.i64.wrap (b1 + (t1.size : Int)) = b1 + (t1.size : Int) := IntWalk.i64_in _ (by omega)
  rw [e1] at cE
  have cB := fun W => impl_brought s b1 (b1 + (t1.size : Int)) W
  generalize b1 + (t1.size : Int) = en at cE cB ⊢
  generalize max b1 (min s en) = s1 at cB ⊢
  have HX := Lib.hid (Bx.new w (.string t) (.int .i64 b) (.int .i64 s) (.int .i64 r))
  clear hs hr1 ht1 hz1 hb1 e1
  go_enter Try.func58, Try.ntmps58
  go_upto_region 1 with (fail)
  generalize (w.alloc _).alloc _ = w0 at *
  obtain ⟨a0, a1, a2, a3⟩ := HX.out.all
  go_wp2_with (fail)
  with_reducible refine (c1 _).mono ?_
  rintro e w1 ⟨rfl, rfl⟩
  obtain ⟨f0, -⟩ := HX.out.fr 3
  have h2 := HX.out.set 3 (.int .i64 r1)
  simp only [if_true, if_false, Nat.reduceEqDiff] at h2
  have H2 := Lib.hid h2
  clear HX h2 c1
  go_upto_region 2 with (fail)
  clear f0 a0 a1 a2 a3
  generalize w0.setCell ⟨w.heap.size, 3, none⟩ (.int .i64 r1) = w2 at *
  obtain ⟨a0, a1, a2, a3⟩ := H2.out.all
  go_wp2_with (fail)
  with_reducible refine (c2 _).mono ?_
  rintro e w1 ⟨rfl, rfl⟩
  obtain ⟨f0, -⟩ := H2.out.fr 0
  have h3 := H2.out.set 0 (.string t1)
  simp only [if_true, if_false, Nat.reduceEqDiff] at h3
  have H3 := Lib.hid h3
  clear H2 h3 c2
  go_upto_region 3 with (fail)
  clear f0 a0 a1 a2 a3
  generalize w2.setCell ⟨w.heap.size, 0, none⟩ (.string t1) = w3 at *
  obtain ⟨a0, a1, a2, a3⟩ := H3.out.all
  go_wp2_with (fail)
  with_reducible refine (c3 _).mono ?_
  rintro e w1 ⟨rfl, rfl⟩
  obtain ⟨f0, -⟩ := H3.out.fr 1
  have h4 := H3.out.set 1 (.int .i64 b1)
  simp only [if_true, if_false, Nat.reduceEqDiff] at h4
  have H4 := Lib.hid h4
  clear H3 h4 c3
  go_upto_region 4 with (fail)
  clear f0 a0 a1 a2 a3
  generalize w3.setCell ⟨w.heap.size, 1, none⟩ (.int .i64 b1) = w4 at *
  have k4 := Lib.hid H4.out.drew
  clear H4
  obtain ⟨a0, a1, a2, a3⟩ := k4.out.all
  have e0 : w4.drew.cell? ⟨w.heap.size, 0, none⟩ = some (.string t1) ∧ w4.drew.cell? ⟨w.heap.size, 1, none⟩ = some (.int .i64 b1) ∧ w4.drew.cell? ⟨w.heap.size, 3, none⟩ = some (.int .i64 r1) := ⟨a0, a1, a3⟩
  refine wp_region_held_drew (S := fun W => W.cell? ⟨w.heap.size, 0, none⟩ = some (.string t1) ∧ W.cell? ⟨w.heap.size, 1, none⟩ = some (.int .i64 b1) ∧ W.cell? ⟨w.heap.size, 3, none⟩ = some (.int .i64 r1)) (by kernel_rfl) e0 (fun hHeld => ?_)
  refine take_yes (i := 0) (oi := { dst := some 17, op := Op.fieldAddr 33 (Operand.tmp 1) 2, type := 0, pos := "l10_sends.go:70", after := #[], guard := none }) (v := .pointer (some ⟨w.heap.size, 2, none⟩)) rfl (by kernel_rfl) (by kernel_rfl) (by kernel_rfl) (fun _ _ _ h => h) (by rfl) (fun w hSw => by (try dsimp only at hSw); go_simp) (by assumption) ?_
  try simp only [Act.put, List.setIfInBounds_toArray, List.set_cons_zero, List.set_cons_succ]
  refine take_yes (i := 2) (oi := { dst := some 19, op := Op.fieldAddr 33 (Operand.tmp 1) 1, type := 0, pos := "l10_sends.go:70", after := #[], guard := none }) (v := .pointer (some ⟨w.heap.size, 1, none⟩)) rfl (by kernel_rfl) (by kernel_rfl) (by kernel_rfl) (fun _ _ _ h => h) (by rfl) (fun w hSw => by (try dsimp only at hSw); go_simp) (by assumption) ?_
  try simp only [Act.put, List.setIfInBounds_toArray, List.set_cons_zero, List.set_cons_succ]
  refine take_yes (i := 3) (oi := { dst := some 20, op := Op.load 3 (Operand.tmp 19), type := 3, pos := "l10_sends.go:70", after := #[{ on := 2, ground := Ground.data }], guard := none }) (v := .int .i64 b1) rfl (by kernel_rfl) (by kernel_rfl) (by kernel_rfl) (fun _ _ _ h => h) (by rfl) (fun w hSw => by (try dsimp only at hSw); go_simp) (by assumption) ?_
  try simp only [Act.put, List.setIfInBounds_toArray, List.set_cons_zero, List.set_cons_succ]
  refine wpAnyH_ready (rs := [1, 4]) (by kernel_rfl) (by simp) ?_
  refine AllReadyH.cons (o := { dst := some 18, op := Op.load 3 (Operand.tmp 17), type := 3, pos := "l10_sends.go:70", after := #[{ on := 0, ground := Ground.data }], guard := none }) rfl (fun K hK => ?_) ?_
  · go_simp
    refine hK.out _ _ hHeld (fun hHeldN => ?_)
    clear hK K hHeld
    have hHeld := hHeldN
    clear hHeldN
    try simp only [Act.put, List.setIfInBounds_toArray, List.set_cons_zero, List.set_cons_succ]
    refine wpAnyH_ready (rs := [4]) (by kernel_rfl) (by simp) ?_
    refine AllReadyH.cons (o := { dst := some 21, op := Op.load 33 (Operand.tmp 1), type := 33, pos := "l10_sends.go:70", after := #[], guard := none }) rfl (fun K hK => ?_) AllReadyH.nil
    go_simp
    refine hK.out _ _ hHeld (fun hHeldN => ?_)
    clear hK K hHeld
    have hHeld := hHeldN
    clear hHeldN
    try simp only [Act.put, List.setIfInBounds_toArray, List.set_cons_zero, List.set_cons_succ]
    refine wpAnyH_ready (rs := [5]) (by kernel_rfl) (by simp) ?_
    refine AllReadyH.cons (o := { dst := some 22, op := Op.call { callee := Callee.value (Operand.func 54), args := #[Operand.tmp 21], argTypes := #[33] }, type := 3, pos := "l10_sends.go:70", after := #[{ on := 4, ground := Ground.data }], guard := none }) rfl (fun K hK => ?_) AllReadyH.nil
    go_simp
    with_reducible refine (cE _).mono ?_
    rintro e wA ⟨rfl, hbA⟩
    have k5 := Lib.hid (k4.out.kept hbA)
    clear a0 a1 a2 a3
    obtain ⟨a0, a1, a2, a3⟩ := k5.out.all
    have e5 : wA.cell? ⟨w.heap.size, 0, none⟩ = some (.string t1) ∧ wA.cell? ⟨w.heap.size, 1, none⟩ = some (.int .i64 b1) ∧ wA.cell? ⟨w.heap.size, 3, none⟩ = some (.int .i64 r1) := ⟨a0, a1, a3⟩
    clear hbA cE
    refine hK.out _ _ e5 (fun hHeldN => ?_)
    clear hK K hHeld
    have hHeld := hHeldN
    clear hHeldN
    try simp only [Act.put, List.setIfInBounds_toArray, List.set_cons_zero, List.set_cons_succ]
    refine wpAnyH_ready (rs := [6]) (by kernel_rfl) (by simp) ?_
    refine AllReadyH.cons (o := { dst := some 23, op := Op.call { callee := Callee.value (Operand.func 42), args := #[Operand.tmp 18, Operand.tmp 20, Operand.tmp 22], argTypes := #[3, 3, 3] }, type := 3, pos := "l10_sends.go:70", after := #[{ on := 1, ground := Ground.data }, { on := 3, ground := Ground.data }, { on := 5, ground := Ground.data }, { on := 5, ground := Ground.chain }], guard := none }) rfl (fun K hK => ?_) AllReadyH.nil
    go_simp
    with_reducible refine (cB _).mono ?_
    rintro e wB ⟨rfl, rfl⟩
    refine hK.out _ _ e5 (fun hHeldN => ?_)
    clear hK K hHeld
    have hHeld := hHeldN
    clear hHeldN
    try simp only [Act.put, List.setIfInBounds_toArray, List.set_cons_zero, List.set_cons_succ]
    refine take_yes (i := 7) (oi := { dst := some 24, op := Op.fieldAddr 33 (Operand.tmp 1) 2, type := 0, pos := "l10_sends.go:70", after := #[{ on := 0, ground := Ground.phase }, { on := 1, ground := Ground.phase }, { on := 2, ground := Ground.phase }, { on := 3, ground := Ground.phase }, { on := 4, ground := Ground.phase }, { on := 5, ground := Ground.phase }, { on := 6, ground := Ground.phase }], guard := none }) (v := .pointer (some ⟨w.heap.size, 2, none⟩)) rfl (by kernel_rfl) (by kernel_rfl) (by kernel_rfl) (fun _ _ _ h => h) (by rfl) (fun w hSw => by (try dsimp only at hSw); go_simp) (by assumption) ?_
    try simp only [Act.put, List.setIfInBounds_toArray, List.set_cons_zero, List.set_cons_succ]
    refine wpAnyH_ready (rs := [8]) (by kernel_rfl) (by simp) ?_
    refine AllReadyH.cons (o := { dst := none, op := Op.store 3 (Operand.tmp 24) (Operand.tmp 23), type := 0, pos := "l10_sends.go:70", after := #[{ on := 7, ground := Ground.data }, { on := 6, ground := Ground.data }, { on := 6, ground := Ground.chain }, { on := 0, ground := Ground.phase }, { on := 1, ground := Ground.phase }, { on := 2, ground := Ground.phase }, { on := 3, ground := Ground.phase }, { on := 4, ground := Ground.phase }, { on := 5, ground := Ground.phase }, { on := 6, ground := Ground.phase }], guard := none }) rfl (fun K hK => ?_) AllReadyH.nil
    have f2 := (k5.out.fr 2).1
    go_simp
    have k6 := k5.out.set 2 (.int .i64 s1)
    simp only [if_true, if_false, Nat.reduceEqDiff] at k6
    have K6 := Lib.hid k6
    obtain ⟨c0, c1, c2, c3⟩ := k6.all
    clear k6
    refine hK.out _ _ ⟨c0, c1, c3⟩ (fun hHeldN => ?_)
    clear hK K hHeld
    have hHeld := hHeldN
    clear hHeldN
    try simp only [Act.put, List.setIfInBounds_toArray, List.set_cons_zero, List.set_cons_succ]
    refine wpAnyH_done (by kernel_rfl) ?_ _
    clear hHeld
    clear a0 a1 a2 a3 f2 c0 c1 c2 c3 k5 e5
    generalize wA.setCell ⟨w.heap.size, 2, none⟩ (.int .i64 s1) = w6 at *
    obtain ⟨a0, a1, a2, a3⟩ := K6.out.all
    obtain ⟨r0, r1x, r2, r3, b0, b1x, b2, b3⟩ := K6.out.rs
    have f0 := (K6.out.fr 0).2
    have f1 := (K6.out.fr 1).2
    have f2 := (K6.out.fr 2).2
    have f3 := (K6.out.fr 3).2
    have H3 := Lib.hid (K6.out.give (.string t1) (.int .i64 b1) (.int .i64 s1) (.int .i64 r1))
    clear K6 e0 k4
    go_wp2_with (fail)
    exact bodyPost_ret (out_result H3.out.1 rfl _ rfl) rfl ⟨rfl, H3.out.2⟩
  refine AllReadyH.cons (o := { dst := some 21, op := Op.load 33 (Operand.tmp 1), type := 33, pos := "l10_sends.go:70", after := #[], guard := none }) rfl (fun K hK => ?_) AllReadyH.nil
  go_simp
  refine hK.out _ _ hHeld (fun hHeldN => ?_)
  clear hK K hHeld
  have hHeld := hHeldN
  clear hHeldN
  try simp only [Act.put, List.setIfInBounds_toArray, List.set_cons_zero, List.set_cons_succ]
  refine wpAnyH_ready (rs := [1, 5]) (by kernel_rfl) (by simp) ?_
  refine AllReadyH.cons (o := { dst := some 18, op := Op.load 3 (Operand.tmp 17), type := 3, pos := "l10_sends.go:70", after := #[{ on := 0, ground := Ground.data }], guard := none }) rfl (fun K hK => ?_) ?_
  · go_simp
    refine hK.out _ _ hHeld (fun hHeldN => ?_)
    clear hK K hHeld
    have hHeld := hHeldN
    clear hHeldN
    try simp only [Act.put, List.setIfInBounds_toArray, List.set_cons_zero, List.set_cons_succ]
    refine wpAnyH_ready (rs := [5]) (by kernel_rfl) (by simp) ?_
    refine AllReadyH.cons (o := { dst := some 22, op := Op.call { callee := Callee.value (Operand.func 54), args := #[Operand.tmp 21], argTypes := #[33] }, type := 3, pos := "l10_sends.go:70", after := #[{ on := 4, ground := Ground.data }], guard := none }) rfl (fun K hK => ?_) AllReadyH.nil
    go_simp
    with_reducible refine (cE _).mono ?_
    rintro e wA ⟨rfl, hbA⟩
    have k5 := Lib.hid (k4.out.kept hbA)
    clear a0 a1 a2 a3
    obtain ⟨a0, a1, a2, a3⟩ := k5.out.all
    have e5 : wA.cell? ⟨w.heap.size, 0, none⟩ = some (.string t1) ∧ wA.cell? ⟨w.heap.size, 1, none⟩ = some (.int .i64 b1) ∧ wA.cell? ⟨w.heap.size, 3, none⟩ = some (.int .i64 r1) := ⟨a0, a1, a3⟩
    clear hbA cE
    refine hK.out _ _ e5 (fun hHeldN => ?_)
    clear hK K hHeld
    have hHeld := hHeldN
    clear hHeldN
    try simp only [Act.put, List.setIfInBounds_toArray, List.set_cons_zero, List.set_cons_succ]
    refine wpAnyH_ready (rs := [6]) (by kernel_rfl) (by simp) ?_
    refine AllReadyH.cons (o := { dst := some 23, op := Op.call { callee := Callee.value (Operand.func 42), args := #[Operand.tmp 18, Operand.tmp 20, Operand.tmp 22], argTypes := #[3, 3, 3] }, type := 3, pos := "l10_sends.go:70", after := #[{ on := 1, ground := Ground.data }, { on := 3, ground := Ground.data }, { on := 5, ground := Ground.data }, { on := 5, ground := Ground.chain }], guard := none }) rfl (fun K hK => ?_) AllReadyH.nil
    go_simp
    with_reducible refine (cB _).mono ?_
    rintro e wB ⟨rfl, rfl⟩
    refine hK.out _ _ e5 (fun hHeldN => ?_)
    clear hK K hHeld
    have hHeld := hHeldN
    clear hHeldN
    try simp only [Act.put, List.setIfInBounds_toArray, List.set_cons_zero, List.set_cons_succ]
    refine take_yes (i := 7) (oi := { dst := some 24, op := Op.fieldAddr 33 (Operand.tmp 1) 2, type := 0, pos := "l10_sends.go:70", after := #[{ on := 0, ground := Ground.phase }, { on := 1, ground := Ground.phase }, { on := 2, ground := Ground.phase }, { on := 3, ground := Ground.phase }, { on := 4, ground := Ground.phase }, { on := 5, ground := Ground.phase }, { on := 6, ground := Ground.phase }], guard := none }) (v := .pointer (some ⟨w.heap.size, 2, none⟩)) rfl (by kernel_rfl) (by kernel_rfl) (by kernel_rfl) (fun _ _ _ h => h) (by rfl) (fun w hSw => by (try dsimp only at hSw); go_simp) (by assumption) ?_
    try simp only [Act.put, List.setIfInBounds_toArray, List.set_cons_zero, List.set_cons_succ]
    refine wpAnyH_ready (rs := [8]) (by kernel_rfl) (by simp) ?_
    refine AllReadyH.cons (o := { dst := none, op := Op.store 3 (Operand.tmp 24) (Operand.tmp 23), type := 0, pos := "l10_sends.go:70", after := #[{ on := 7, ground := Ground.data }, { on := 6, ground := Ground.data }, { on := 6, ground := Ground.chain }, { on := 0, ground := Ground.phase }, { on := 1, ground := Ground.phase }, { on := 2, ground := Ground.phase }, { on := 3, ground := Ground.phase }, { on := 4, ground := Ground.phase }, { on := 5, ground := Ground.phase }, { on := 6, ground := Ground.phase }], guard := none }) rfl (fun K hK => ?_) AllReadyH.nil
    have f2 := (k5.out.fr 2).1
    go_simp
    have k6 := k5.out.set 2 (.int .i64 s1)
    simp only [if_true, if_false, Nat.reduceEqDiff] at k6
    have K6 := Lib.hid k6
    obtain ⟨c0, c1, c2, c3⟩ := k6.all
    clear k6
    refine hK.out _ _ ⟨c0, c1, c3⟩ (fun hHeldN => ?_)
    clear hK K hHeld
    have hHeld := hHeldN
    clear hHeldN
    try simp only [Act.put, List.setIfInBounds_toArray, List.set_cons_zero, List.set_cons_succ]
    refine wpAnyH_done (by kernel_rfl) ?_ _
    clear hHeld
    clear a0 a1 a2 a3 f2 c0 c1 c2 c3 k5 e5
    generalize wA.setCell ⟨w.heap.size, 2, none⟩ (.int .i64 s1) = w6 at *
    obtain ⟨a0, a1, a2, a3⟩ := K6.out.all
    obtain ⟨r0, r1x, r2, r3, b0, b1x, b2, b3⟩ := K6.out.rs
    have f0 := (K6.out.fr 0).2
    have f1 := (K6.out.fr 1).2
    have f2 := (K6.out.fr 2).2
    have f3 := (K6.out.fr 3).2
    have H3 := Lib.hid (K6.out.give (.string t1) (.int .i64 b1) (.int .i64 s1) (.int .i64 r1))
    clear K6 e0 k4
    go_wp2_with (fail)
    exact bodyPost_ret (out_result H3.out.1 rfl _ rfl) rfl ⟨rfl, H3.out.2⟩
  refine AllReadyH.cons (o := { dst := some 22, op := Op.call { callee := Callee.value (Operand.func 54), args := #[Operand.tmp 21], argTypes := #[33] }, type := 3, pos := "l10_sends.go:70", after := #[{ on := 4, ground := Ground.data }], guard := none }) rfl (fun K hK => ?_) AllReadyH.nil
  go_simp
  with_reducible refine (cE _).mono ?_
  rintro e wA ⟨rfl, hbA⟩
  have k5 := Lib.hid (k4.out.kept hbA)
  clear a0 a1 a2 a3
  obtain ⟨a0, a1, a2, a3⟩ := k5.out.all
  have e5 : wA.cell? ⟨w.heap.size, 0, none⟩ = some (.string t1) ∧ wA.cell? ⟨w.heap.size, 1, none⟩ = some (.int .i64 b1) ∧ wA.cell? ⟨w.heap.size, 3, none⟩ = some (.int .i64 r1) := ⟨a0, a1, a3⟩
  clear hbA cE
  refine hK.out _ _ e5 (fun hHeldN => ?_)
  clear hK K hHeld
  have hHeld := hHeldN
  clear hHeldN
  try simp only [Act.put, List.setIfInBounds_toArray, List.set_cons_zero, List.set_cons_succ]
  refine wpAnyH_ready (rs := [1]) (by kernel_rfl) (by simp) ?_
  refine AllReadyH.cons (o := { dst := some 18, op := Op.load 3 (Operand.tmp 17), type := 3, pos := "l10_sends.go:70", after := #[{ on := 0, ground := Ground.data }], guard := none }) rfl (fun K hK => ?_) AllReadyH.nil
  go_simp
  refine hK.out _ _ e5 (fun hHeldN => ?_)
  clear hK K hHeld
  have hHeld := hHeldN
  clear hHeldN
  try simp only [Act.put, List.setIfInBounds_toArray, List.set_cons_zero, List.set_cons_succ]
  refine wpAnyH_ready (rs := [6]) (by kernel_rfl) (by simp) ?_
  refine AllReadyH.cons (o := { dst := some 23, op := Op.call { callee := Callee.value (Operand.func 42), args := #[Operand.tmp 18, Operand.tmp 20, Operand.tmp 22], argTypes := #[3, 3, 3] }, type := 3, pos := "l10_sends.go:70", after := #[{ on := 1, ground := Ground.data }, { on := 3, ground := Ground.data }, { on := 5, ground := Ground.data }, { on := 5, ground := Ground.chain }], guard := none }) rfl (fun K hK => ?_) AllReadyH.nil
  go_simp
  with_reducible refine (cB _).mono ?_
  rintro e wB ⟨rfl, rfl⟩
  refine hK.out _ _ e5 (fun hHeldN => ?_)
  clear hK K hHeld
  have hHeld := hHeldN
  clear hHeldN
  try simp only [Act.put, List.setIfInBounds_toArray, List.set_cons_zero, List.set_cons_succ]
  refine take_yes (i := 7) (oi := { dst := some 24, op := Op.fieldAddr 33 (Operand.tmp 1) 2, type := 0, pos := "l10_sends.go:70", after := #[{ on := 0, ground := Ground.phase }, { on := 1, ground := Ground.phase }, { on := 2, ground := Ground.phase }, { on := 3, ground := Ground.phase }, { on := 4, ground := Ground.phase }, { on := 5, ground := Ground.phase }, { on := 6, ground := Ground.phase }], guard := none }) (v := .pointer (some ⟨w.heap.size, 2, none⟩)) rfl (by kernel_rfl) (by kernel_rfl) (by kernel_rfl) (fun _ _ _ h => h) (by rfl) (fun w hSw => by (try dsimp only at hSw); go_simp) (by assumption) ?_
  try simp only [Act.put, List.setIfInBounds_toArray, List.set_cons_zero, List.set_cons_succ]
  refine wpAnyH_ready (rs := [8]) (by kernel_rfl) (by simp) ?_
  refine AllReadyH.cons (o := { dst := none, op := Op.store 3 (Operand.tmp 24) (Operand.tmp 23), type := 0, pos := "l10_sends.go:70", after := #[{ on := 7, ground := Ground.data }, { on := 6, ground := Ground.data }, { on := 6, ground := Ground.chain }, { on := 0, ground := Ground.phase }, { on := 1, ground := Ground.phase }, { on := 2, ground := Ground.phase }, { on := 3, ground := Ground.phase }, { on := 4, ground := Ground.phase }, { on := 5, ground := Ground.phase }, { on := 6, ground := Ground.phase }], guard := none }) rfl (fun K hK => ?_) AllReadyH.nil
  have f2 := (k5.out.fr 2).1
  go_simp
  have k6 := k5.out.set 2 (.int .i64 s1)
  simp only [if_true, if_false, Nat.reduceEqDiff] at k6
  have K6 := Lib.hid k6
  obtain ⟨c0, c1, c2, c3⟩ := k6.all
  clear k6
  refine hK.out _ _ ⟨c0, c1, c3⟩ (fun hHeldN => ?_)
  clear hK K hHeld
  have hHeld := hHeldN
  clear hHeldN
  try simp only [Act.put, List.setIfInBounds_toArray, List.set_cons_zero, List.set_cons_succ]
  refine wpAnyH_done (by kernel_rfl) ?_ _
  clear hHeld
  clear a0 a1 a2 a3 f2 c0 c1 c2 c3 k5 e5
  generalize wA.setCell ⟨w.heap.size, 2, none⟩ (.int .i64 s1) = w6 at *
  obtain ⟨a0, a1, a2, a3⟩ := K6.out.all
  obtain ⟨r0, r1x, r2, r3, b0, b1x, b2, b3⟩ := K6.out.rs
  have f0 := (K6.out.fr 0).2
  have f1 := (K6.out.fr 1).2
  have f2 := (K6.out.fr 2).2
  have f3 := (K6.out.fr 3).2
  have H3 := Lib.hid (K6.out.give (.string t1) (.int .i64 b1) (.int .i64 s1) (.int .i64 r1))
  clear K6 e0 k4
  go_wp2_with (fail)
  exact bodyPost_ret (out_result H3.out.1 rfl _ rfl) rfl ⟨rfl, H3.out.2⟩

set_option maxRecDepth 100000 in
set_option maxHeartbeats 4000000 in
theorem impl_outOk (o : Ot) (w : World) (hs : o.text.size ≤ 281474976710656) :
    Calls Try.prog 25 #[.agg #[.string o.text, .int .i64 o.base, .int .i64 o.sent, .int .i64 o.room]] w fun e w' => e = .returned (.bool (decide o.Ok)) ∧ Below w.heap.size w w' := by
  have cL := fun W => limited_out o W hs
  have hq := fun W => eql_out o o.lim W (decide o.Ok) (by rw [decide_eq_true_iff]; exact (lim_ok o).symm)
  generalize o.lim = p at *
  generalize decide o.Ok = ok at *
  obtain ⟨t, b, s, r⟩ := o
  obtain ⟨t1, b1, s1, r1⟩ := p
  simp only at hs cL hq ⊢
  have hB0 := below_new w (.cells #[.string t, .int .i64 b, .int .i64 s, .int .i64 r] 33)
  have hC0 : Cel (w.alloc (.cells #[.string t, .int .i64 b, .int .i64 s, .int .i64 r] 33)) w.heap.size 33 #[.string t, .int .i64 b, .int .i64 s, .int .i64 r] := Cel.new w _ _
  go_enter Try.func25, Try.ntmps25
  go_upto_region 1 with (fail)
  generalize w.alloc (.cells #[.string t, .int .i64 b, .int .i64 s, .int .i64 r] 33) = w1 at *
  have KK := Lib.hid (And.intro hB0.drew hC0.drew)
  clear hB0 hC0
  have e0 := cel4 KK.out.2
  refine wp_region_held_drew (S := fun W => W.cell? ⟨w.heap.size, 0, none⟩ = some (.string t) ∧ W.cell? ⟨w.heap.size, 1, none⟩ = some (.int .i64 b) ∧ W.cell? ⟨w.heap.size, 2, none⟩ = some (.int .i64 s) ∧ W.cell? ⟨w.heap.size, 3, none⟩ = some (.int .i64 r)) (by kernel_rfl) e0 (fun hHeld => ?_)
  refine take_yes (i := 0) (oi := { dst := some 3, op := Op.load 33 (Operand.tmp 1), type := 33, pos := "l10_sends.go:18", after := #[], guard := none }) (v := .agg #[.string t, .int .i64 b, .int .i64 s, .int .i64 r]) rfl (by kernel_rfl) (by kernel_rfl) (by kernel_rfl) (fun _ _ _ h => h) (by rfl) (fun w hSw => by (try dsimp only at hSw); go_simp) (by assumption) ?_
  try simp only [Act.put, List.setIfInBounds_toArray, List.set_cons_zero, List.set_cons_succ]
  refine take_yes (i := 1) (oi := { dst := some 4, op := Op.load 33 (Operand.tmp 1), type := 33, pos := "l10_sends.go:18", after := #[], guard := none }) (v := .agg #[.string t, .int .i64 b, .int .i64 s, .int .i64 r]) rfl (by kernel_rfl) (by kernel_rfl) (by kernel_rfl) (fun _ _ _ h => h) (by rfl) (fun w hSw => by (try dsimp only at hSw); go_simp) (by assumption) ?_
  try simp only [Act.put, List.setIfInBounds_toArray, List.set_cons_zero, List.set_cons_succ]
  refine wpAnyH_ready (rs := [2]) (by kernel_rfl) (by simp) ?_
  refine AllReadyH.cons (o := { dst := some 5, op := Op.call { callee := Callee.value (Operand.func 58), args := #[Operand.tmp 4], argTypes := #[33] }, type := 33, pos := "l10_sends.go:18", after := #[{ on := 1, ground := Ground.data }], guard := none }) rfl (fun K hK => ?_) AllReadyH.nil
  go_simp
  with_reducible refine (cL _).mono ?_
  rintro e wA ⟨rfl, hbA⟩
  have k5 := Lib.hid (Below.then_ KK.out.1 hbA)
  have e5 := cel4 (KK.out.2.kept hbA)
  clear hbA cL KK e0
  refine hK.out _ _ e5 (fun hHeldN => ?_)
  clear hK K hHeld
  have hHeld := hHeldN
  clear hHeldN
  try simp only [Act.put, List.setIfInBounds_toArray, List.set_cons_zero, List.set_cons_succ]
  refine take_yes (i := 3) (oi := { dst := some 6, op := Op.binOp BinOp.eql 33 (Operand.tmp 3) (Operand.tmp 5) 33, type := 4, pos := "l10_sends.go:18", after := #[{ on := 0, ground := Ground.data }, { on := 2, ground := Ground.data }], guard := none }) (v := .bool ok) rfl (by kernel_rfl) (by kernel_rfl) (by kernel_rfl) (fun _ _ _ h => h) (by rfl) (fun w hSw => by (try dsimp only at hSw); go_simp) (by assumption) ?_
  try simp only [Act.put, List.setIfInBounds_toArray, List.set_cons_zero, List.set_cons_succ]
  refine take_yes (i := 4) (oi := { dst := some 2, op := Op.assign (Operand.tmp 6), type := 4, pos := "l10_sends.go:18", after := #[{ on := 3, ground := Ground.data }, { on := 2, ground := Ground.chain }, { on := 0, ground := Ground.phase }, { on := 1, ground := Ground.phase }, { on := 2, ground := Ground.phase }, { on := 3, ground := Ground.phase }], guard := none }) (v := .bool ok) rfl (by kernel_rfl) (by kernel_rfl) (by kernel_rfl) (fun _ _ _ h => h) (by rfl) (fun w hSw => by (try dsimp only at hSw); go_simp) (by assumption) ?_
  try simp only [Act.put, List.setIfInBounds_toArray, List.set_cons_zero, List.set_cons_succ]
  refine wpAnyH_done (by kernel_rfl) ?_ _
  clear hHeld
  go_wp2_with (fail)
  go_ret
  exact ⟨rfl, k5.out⟩
end Go.Proofs.Ytdajfnonehianaa
