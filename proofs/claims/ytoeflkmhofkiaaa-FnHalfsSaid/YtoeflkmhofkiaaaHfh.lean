import Derived.Test.YtoeflkmhofkiaaaHeq
import Derived.Test.YtoeflkmhofkiaaaHfp
import Derived.Test.YtoeflkmhofkiaaaHds
import Derived.Test.YtoeflkmhofkiaaaHiq
import Derived.Test.YtoeflkmhofkiaaaHid
import Derived.Test.YtoeflkmhofkiaaaHiy
import Derived.Test.YtoeflkmhofkiaaaTyn
import Derived.Test.YtoeflkmhofkiaaaCode
namespace Go.Proofs.Ytoeflkmhofkiaaa
open Go.RowKit
set_option maxRecDepth 100000

set_option maxRecDepth 100000 in
set_option maxHeartbeats 2000000 in
theorem same_halfs (v u : Value) (ms : List Hv) (w : World) (hv : RdH w v ms) (hu : RdH w u ms) (hn : ms.length ≤ 1048577) :
    Calls Try.prog 14 #[v, u] w fun e w' => e = .returned (.bool true) ∧ Below w.heap.size w w' := by
  have HV := Lib.hid (And.intro hv hu)
  obtain ⟨a, c, rfl⟩ := hv.form
  obtain ⟨a2, c2, rfl⟩ := hu.form
  clear hv hu
  go_enter Try.func14, Try.ntmps14
  go_wp2_with (fail)
  go_loopw [5] (fun i wr => ∃ k : Nat, k ≤ ms.length ∧ i = .int .i64 k ∧ RdH wr (.slice a ms.length c) ms ∧ RdH wr (.slice a2 ms.length c2) ms ∧ Below w.heap.size w wr) (fun i _ => ms.length - (intOf i).toNat)
  case atStart => exact ⟨0, by omega, rfl, HV.out.1, HV.out.2, Below.refl _ _⟩
  case round =>
    obtain ⟨k, hk, rfl, hR, hU, hB⟩ := hrel
    by_cases hlt : k < ms.length
    · have q : (0 : Int) ≤ (k : Int) ∧ (k : Int) < (ms.length : Int) := by omega
      obtain ⟨b, off, ha, -, k0, k1, k2, k3, k4, k5, k6, k7, -⟩ := hv_at (P := Try.prog) hR k hlt
      subst ha
      obtain ⟨b2, off2, ha2, -, j0, j1, j2, j3, j4, j5, j6, j7, -⟩ := hv_at (P := Try.prog) hU k hlt
      subst ha2
      generalize ms[k] = m at *
      have he := fun W => neq_hv_same m W
      have HX := Lib.hid (And.intro hR (And.intro hU hB))
      clear hR hU hB
      go_wp2_with (fail)
      go_quiet (fail)
      go_wp2_with (fail)
      go_roundw
      case rel => exact ⟨k + 1, by omega, by go_num, HX.out.1.drewN, HX.out.2.1.drewN, Below.then_ HX.out.2.2 (dN_rbelow _ _)⟩
      case measure => simp [intOf]; omega
    · obtain rfl : k = ms.length := by omega
      have q : ¬ (ms.length : Int) < (ms.length : Int) := by omega
      have HX := Lib.hid hB
      clear hR hU hB
      go_wp2_with (fail)
      go_ret
      exact ⟨rfl, HX.out⟩

/-- What a drawn region holds: the element's cells, the box, what lies below. -/
theorem s14_keep {w5 W W' : World} {b off k bt : Nat} {m : Hv} (hb5 : b < w5.heap.size) (h : (∀ j, j < 8 → W.cell? ⟨b, off + k * 8 + j, none⟩ = (hvK.cs m)[j]?) ∧ Cel W bt 28 #[.int .i64 m.road.own, .int .i64 m.road.far, .int .i64 m.road.port, .int .i64 m.theirs, .int .i64 m.mine, .int .i64 m.give, .int .i64 m.take, .int .i64 m.till] ∧ Below w5.heap.size w5 W) (hb : Below W.heap.size W W') :
    (∀ j, j < 8 → W'.cell? ⟨b, off + k * 8 + j, none⟩ = (hvK.cs m)[j]?) ∧ Cel W' bt 28 #[.int .i64 m.road.own, .int .i64 m.road.far, .int .i64 m.road.port, .int .i64 m.theirs, .int .i64 m.mine, .int .i64 m.give, .int .i64 m.take, .int .i64 m.till] ∧ Below w5.heap.size w5 W' :=
  ⟨fun j hj => by rw [← h.1 j hj]; exact Below.cell hb (Nat.lt_of_lt_of_le hb5 h.2.2.size), h.2.1.kept hb, Below.then_ h.2.2 hb⟩

set_option linter.unusedSimpArgs false in
set_option maxRecDepth 100000 in
set_option maxHeartbeats 8000000 in
theorem halfs_law (v : Value) (w : World) (n : Nat) (hr : RdB w v n) :
    Calls Try.prog 3 #[v] w fun e w' => e = .returned (.bool true) ∧ Below w.heap.size w w' := by
  have cb := big_call v n w hr
  by_cases hn : 1048576 < n
  · rw [decide_eq_true hn] at cb
    clear hn hr
    go_enter Try.func3, Try.ntmps3
    go_wp2_with (fail)
    with_reducible refine cb.mono ?_
    rintro e w1 ⟨rfl, rfl⟩
    go_wp2_with (fail)
    go_ret
    exact ⟨rfl, Below.refl _ _⟩
  · rw [decide_eq_false hn] at cb
    have cp := draw_putHalf v n w hr (by omega)
    clear hn hr
    go_enter Try.func3, Try.ntmps3
    go_wp2_with (fail)
    with_reducible refine cb.mono ?_
    rintro e w0 ⟨rfl, rfl⟩
    clear cb
    go_wp2_with (fail)
    with_reducible refine cp.mono ?_
    rintro e w1 ⟨u, ms, m, rfl, hO, hl, hm, hb1⟩
    clear cp
    obtain ⟨ua, uc, rfl, -⟩ := hO.form
    have hb2 := below_hv w1 m
    have hC2 := Cel.new w1 28 #[.int .i64 m.road.own, .int .i64 m.road.far, .int .i64 m.road.port, .int .i64 m.theirs, .int .i64 m.mine, .int .i64 m.give, .int .i64 m.take, .int .i64 m.till]
    obtain ⟨d0, d1, d2, d3, d4, d5, d6, d7⟩ := cel8hv hC2
    have cP := impl_putHalf (.slice ua ms.length uc) ms m _ (hO.rd.below hb2) (by omega)
    have F1 := Lib.hid (And.intro (hO.full hb2) (And.intro (Below.then_ hb1 hb2) (hC2)))
    have HL := Lib.hid hl
    clear hO hb1 hb2 hC2 hl
    by_cases hok : okH (putGo ms m) = true
    · have hp : putH ms m = (putGo ms m, true) := by unfold putH; rw [if_pos hok]
      rw [hp] at cP
      obtain ⟨hk, hget⟩ := put_there ms m
      have hat := atH_in hk
      obtain ⟨hd1, hd2⟩ := drop_none hok hk hget
      have hy1 := young_none hok hk hget
      have hy2 := young_has hk hget (m.till - 1) (by omega)
      have h4 := okH_len hok
      have hdl := drop_lenH (putGo ms m) m.road
      have hyl := young_len (putGo ms m) m.till
      have hyl2 := young_len (putGo ms m) (m.till - 1)
      have cK := fun u W h => spec_halfsOk u (putGo ms m) W h (by omega)
      have cI := fun u W h => impl_halfsOk u (putGo ms m) W h (by omega)
      have cA := fun u W h => impl_halfAt u (putGo ms m) m.road W h (by omega)
      have cD := fun u W (h : OwnH W w.heap.size W.heap.size u (putGo ms m)) => impl_dropHalf u (putGo ms m) m.road w.heap.size W.heap.size W h.lie (by omega)
      have cY1 := fun u W h => impl_younger u (putGo ms m) m.till W h (by omega)
      have cY2 := fun u W h => impl_younger u (putGo ms m) (m.till - 1) W h (by omega)
      have cA1 := fun u W h => impl_halfAt u (dropH (putGo ms m) m.road) m.road W h (by omega)
      have cA2 := fun u W h => impl_halfAt u (youngH (putGo ms m) m.till) m.road W h (by omega)
      have cA3 := fun u W h => impl_halfAt u (youngH (putGo ms m) (m.till - 1)) m.road W h (by omega)
      rw [hok] at cK cI
      rw [hat] at cA
      rw [hd1] at cA1
      rw [hy1] at cA2
      simp only at cP
      have HYL := Lib.hid hyl
      clear hp hat hd1 hy1 hok hdl hyl hyl2
      generalize dropH (putGo ms m) m.road = ls at *
      generalize youngH (putGo ms m) m.till = ys at *
      generalize youngH (putGo ms m) (m.till - 1) = zs at *
      generalize plH m.road (putGo ms m) = k at *
      generalize putGo ms m = os at *
      obtain ⟨z9, hz9⟩ : ∃ z9, atH zs m.road = z9 := ⟨_, rfl⟩
      rw [hz9] at cA3 hy2
      clear hz9
      have et : IntKind.i64.wrap (m.till - 1) = m.till - 1 := IntWalk.i64_in _ (by omega)
      have el : IntKind.i64.wrap ((os.length : Int) - 1) = (ls.length : Int) := by rw [IntWalk.i64_in _ (by omega)]; omega
      have HH := Lib.hid (And.intro hget (And.intro h4 (And.intro hm hd2)))
      have hy3 : decide (z9 < 0) = false := decide_eq_false (by omega)
      clear h4 hm hd2
      go_wp2_with (fail)
      generalize w1.alloc (.cells #[.int .i64 m.road.own, .int .i64 m.road.far, .int .i64 m.road.port, .int .i64 m.theirs, .int .i64 m.mine, .int .i64 m.give, .int .i64 m.take, .int .i64 m.till] 28) = w2 at *
      generalize w1.heap.size = bt at *
      with_reducible refine cP.mono ?_
      rintro e w3 ⟨v3, rfl, hO3, hb3⟩
      have hO3' := hO3.mono (F1.out.2.1).size (Nat.le_refl _)
      obtain ⟨oa, oc, rfl, -⟩ := hO3.form
      have F2 := Lib.hid (And.intro ((F1.out.1).full hb3) (And.intro (Below.then_ (F1.out.2.1) hb3) (And.intro ((F1.out.2.2).kept hb3) (hO3'))))
      clear F1
      clear cP hO3 hO3' hb3 d0 d1 d2 d3 d4 d5 d6 d7
      obtain ⟨d0, d1, d2, d3, d4, d5, d6, d7⟩ := cel8hv (F2.out.2.2.1)
      go_wp2_with (fail)
      with_reducible refine (cA _ _ (F2.out.2.2.2).rd).mono ?_
      rintro e w5 ⟨rfl, hb5⟩
      have F3 := Lib.hid (And.intro ((F2.out.1).full hb5) (And.intro (Below.then_ (F2.out.2.1) hb5) (And.intro ((F2.out.2.2.1).kept hb5) ((F2.out.2.2.2).full hb5))))
      clear F2
      obtain ⟨b, off, hae, hbl, hcs, -⟩ := RdE.at (P := Try.prog) (F3.out.2.2.2).rd k hk
      rw [HH.out.1] at hcs
      subst hae
      have qk : (0 : Int) ≤ (k : Int) ∧ (k : Int) < (os.length : Int) := by omega
      have hne := fun W => neq_hv_same m W
      have hS := s14_keep (w5 := w5) (off := off) (k := k) hbl ⟨hcs, F3.out.2.2.1, Below.refl _ _⟩ (show Below _ _ (World.drew _) from (Below.refl _ _).drew)
      clear cA hb5 d0 d1 d2 d3 d4 d5 d6 d7 hcs
      go_wp2_with (fail)
      refine wp_region_held_drew (S := fun W => (∀ j, j < 8 → W.cell? ⟨b, off + k * 8 + j, none⟩ = (hvK.cs m)[j]?) ∧ Cel W bt 28 #[.int .i64 m.road.own, .int .i64 m.road.far, .int .i64 m.road.port, .int .i64 m.theirs, .int .i64 m.mine, .int .i64 m.give, .int .i64 m.take, .int .i64 m.till] ∧ Below w5.heap.size w5 W) (by kernel_rfl) hS (fun hHeld => ?_)
      refine take_yes (i := 0) (oi := { dst := some 33, op := Op.move (Operand.tmp 7), type := 3, pos := "laws.go:569", after := #[], guard := none }) (v := .int .i64 (k : Int)) rfl (by kernel_rfl) (by kernel_rfl) (by kernel_rfl) (fun _ _ _ h => h) (by rfl) (fun w hSw => by (try dsimp only at hSw); go_simp) (by assumption) ?_
      try simp only [Act.put, List.setIfInBounds_toArray, List.set_cons_zero, List.set_cons_succ]
      refine take_yes (i := 1) (oi := { dst := some 34, op := Op.binOp BinOp.lss 3 (Operand.tmp 33) (Operand.const (Value.int IntKind.i64 0)) 3, type := 4, pos := "laws.go:569", after := #[{ on := 0, ground := Ground.data }], guard := none }) (v := .bool false) rfl (by kernel_rfl) (by kernel_rfl) (by kernel_rfl) (fun _ _ _ h => h) (by rfl) (fun w hSw => by (try dsimp only at hSw); go_simp) (by assumption) ?_
      try simp only [Act.put, List.setIfInBounds_toArray, List.set_cons_zero, List.set_cons_succ]
      refine take_yes (i := 2) (oi := { dst := some 35, op := Op.move (Operand.tmp 34), type := 4, pos := "laws.go:569", after := #[{ on := 1, ground := Ground.data }], guard := none }) (v := .bool false) rfl (by kernel_rfl) (by kernel_rfl) (by kernel_rfl) (fun _ _ _ h => h) (by rfl) (fun w hSw => by (try dsimp only at hSw); go_simp) (by assumption) ?_
      try simp only [Act.put, List.setIfInBounds_toArray, List.set_cons_zero, List.set_cons_succ]
      refine take_yes (i := 3) (oi := { dst := some 36, op := Op.move (Operand.tmp 7), type := 3, pos := "laws.go:569", after := #[{ on := 2, ground := Ground.guard }], guard := some (2, false) }) (v := .int .i64 (k : Int)) rfl (by kernel_rfl) (by kernel_rfl) (by kernel_rfl) (fun _ _ _ h => h) (by rfl) (fun w hSw => by (try dsimp only at hSw); go_simp) (by assumption) ?_
      try simp only [Act.put, List.setIfInBounds_toArray, List.set_cons_zero, List.set_cons_succ]
      refine take_yes (i := 4) (oi := { dst := some 37, op := Op.move (Operand.tmp 5), type := 24, pos := "laws.go:569", after := #[{ on := 2, ground := Ground.guard }], guard := some (2, false) }) (v := .slice (some ⟨b, off, none⟩) os.length oc) rfl (by kernel_rfl) (by kernel_rfl) (by kernel_rfl) (fun _ _ _ h => h) (by rfl) (fun w hSw => by (try dsimp only at hSw); go_simp) (by assumption) ?_
      try simp only [Act.put, List.setIfInBounds_toArray, List.set_cons_zero, List.set_cons_succ]
      refine take_yes (i := 5) (oi := { dst := some 38, op := Op.call { callee := Callee.builtin Builtin.len, args := #[Operand.tmp 37], argTypes := #[24] }, type := 3, pos := "laws.go:569", after := #[{ on := 4, ground := Ground.data }, { on := 2, ground := Ground.guard }], guard := some (2, false) }) (v := .int .i64 (os.length : Int)) rfl (by kernel_rfl) (by kernel_rfl) (by kernel_rfl) (fun _ _ _ h => h) (by rfl) (fun w hSw => by (try dsimp only at hSw); go_simp) (by assumption) ?_
      try simp only [Act.put, List.setIfInBounds_toArray, List.set_cons_zero, List.set_cons_succ]
      refine take_yes (i := 6) (oi := { dst := some 39, op := Op.binOp BinOp.geq 3 (Operand.tmp 36) (Operand.tmp 38) 3, type := 4, pos := "laws.go:569", after := #[{ on := 3, ground := Ground.data }, { on := 5, ground := Ground.data }, { on := 2, ground := Ground.guard }], guard := some (2, false) }) (v := .bool false) rfl (by kernel_rfl) (by kernel_rfl) (by kernel_rfl) (fun _ _ _ h => h) (by rfl) (fun w hSw => by (try dsimp only at hSw); go_simp) (by assumption) ?_
      try simp only [Act.put, List.setIfInBounds_toArray, List.set_cons_zero, List.set_cons_succ]
      refine take_yes (i := 7) (oi := { dst := some 40, op := Op.pick (Operand.tmp 35) (Operand.const (Value.bool true)) (Operand.tmp 39), type := 4, pos := "laws.go:569", after := #[{ on := 2, ground := Ground.data }, { on := 6, ground := Ground.data }], guard := none }) (v := .bool false) rfl (by kernel_rfl) (by kernel_rfl) (by kernel_rfl) (fun _ _ _ h => h) (by rfl) (fun w hSw => by (try dsimp only at hSw); go_simp) (by assumption) ?_
      try simp only [Act.put, List.setIfInBounds_toArray, List.set_cons_zero, List.set_cons_succ]
      refine take_yes (i := 8) (oi := { dst := some 41, op := Op.move (Operand.tmp 40), type := 4, pos := "laws.go:569", after := #[{ on := 7, ground := Ground.data }, { on := 2, ground := Ground.chain }], guard := none }) (v := .bool false) rfl (by kernel_rfl) (by kernel_rfl) (by kernel_rfl) (fun _ _ _ h => h) (by rfl) (fun w hSw => by (try dsimp only at hSw); go_simp) (by assumption) ?_
      try simp only [Act.put, List.setIfInBounds_toArray, List.set_cons_zero, List.set_cons_succ]
      refine take_yes (i := 9) (oi := { dst := some 42, op := Op.move (Operand.tmp 5), type := 24, pos := "laws.go:569", after := #[{ on := 8, ground := Ground.guard }], guard := some (8, false) }) (v := .slice (some ⟨b, off, none⟩) os.length oc) rfl (by kernel_rfl) (by kernel_rfl) (by kernel_rfl) (fun _ _ _ h => h) (by rfl) (fun w hSw => by (try dsimp only at hSw); go_simp) (by assumption) ?_
      try simp only [Act.put, List.setIfInBounds_toArray, List.set_cons_zero, List.set_cons_succ]
      refine take_yes (i := 10) (oi := { dst := some 43, op := Op.move (Operand.tmp 7), type := 3, pos := "laws.go:569", after := #[{ on := 8, ground := Ground.guard }], guard := some (8, false) }) (v := .int .i64 (k : Int)) rfl (by kernel_rfl) (by kernel_rfl) (by kernel_rfl) (fun _ _ _ h => h) (by rfl) (fun w hSw => by (try dsimp only at hSw); go_simp) (by assumption) ?_
      try simp only [Act.put, List.setIfInBounds_toArray, List.set_cons_zero, List.set_cons_succ]
      refine take_yes (i := 11) (oi := { dst := some 44, op := Op.indexAddr 24 (Operand.tmp 42) (Operand.tmp 43), type := 0, pos := "laws.go:569", after := #[{ on := 9, ground := Ground.data }, { on := 10, ground := Ground.data }, { on := 8, ground := Ground.guard }], guard := some (8, false) }) (v := .pointer (some ⟨b, off + k * 8, none⟩)) rfl (by kernel_rfl) (by kernel_rfl) (by kernel_rfl) (fun _ _ _ h => h) (by rfl) (fun w hSw => by (try dsimp only at hSw); go_simp) (by assumption) ?_
      try simp only [Act.put, List.setIfInBounds_toArray, List.set_cons_zero, List.set_cons_succ]
      refine take_yes (i := 12) (oi := { dst := some 45, op := Op.load 28 (Operand.tmp 44), type := 28, pos := "laws.go:569", after := #[{ on := 11, ground := Ground.data }, { on := 8, ground := Ground.guard }], guard := some (8, false) }) (v := .agg #[.int .i64 m.road.own, .int .i64 m.road.far, .int .i64 m.road.port, .int .i64 m.theirs, .int .i64 m.mine, .int .i64 m.give, .int .i64 m.take, .int .i64 m.till]) rfl (by kernel_rfl) (by kernel_rfl) (by kernel_rfl) (fun _ _ _ h => h) (by rfl) (fun w hSw => by (try dsimp only at hSw); have k0 : w.cell? ⟨b, off + k * 8, none⟩ = some (.int .i64 m.road.own) := hSw.1 0 (by decide); have k1 : w.cell? ⟨b, off + k * 8 + 1, none⟩ = some (.int .i64 m.road.far) := hSw.1 1 (by decide); have k2 : w.cell? ⟨b, off + k * 8 + 2, none⟩ = some (.int .i64 m.road.port) := hSw.1 2 (by decide); have k3 : w.cell? ⟨b, off + k * 8 + 3, none⟩ = some (.int .i64 m.theirs) := hSw.1 3 (by decide); have k4 : w.cell? ⟨b, off + k * 8 + 4, none⟩ = some (.int .i64 m.mine) := hSw.1 4 (by decide); have k5 : w.cell? ⟨b, off + k * 8 + 5, none⟩ = some (.int .i64 m.give) := hSw.1 5 (by decide); have k6 : w.cell? ⟨b, off + k * 8 + 6, none⟩ = some (.int .i64 m.take) := hSw.1 6 (by decide); have k7 : w.cell? ⟨b, off + k * 8 + 7, none⟩ = some (.int .i64 m.till) := hSw.1 7 (by decide); clear hSw; go_simp) (by assumption) ?_
      try simp only [Act.put, List.setIfInBounds_toArray, List.set_cons_zero, List.set_cons_succ]
      refine take_yes (i := 13) (oi := { dst := some 46, op := Op.load 28 (Operand.tmp 4), type := 28, pos := "laws.go:569", after := #[{ on := 8, ground := Ground.guard }], guard := some (8, false) }) (v := .agg #[.int .i64 m.road.own, .int .i64 m.road.far, .int .i64 m.road.port, .int .i64 m.theirs, .int .i64 m.mine, .int .i64 m.give, .int .i64 m.take, .int .i64 m.till]) rfl (by kernel_rfl) (by kernel_rfl) (by kernel_rfl) (fun _ _ _ h => h) (by rfl) (fun w hSw => by (try dsimp only at hSw); obtain ⟨d0, d1, d2, d3, d4, d5, d6, d7⟩ := cel8hv hSw.2.1; clear hSw; go_simp) (by assumption) ?_
      try simp only [Act.put, List.setIfInBounds_toArray, List.set_cons_zero, List.set_cons_succ]
      refine take_yes (i := 14) (oi := { dst := some 47, op := Op.binOp BinOp.neq 28 (Operand.tmp 45) (Operand.tmp 46) 28, type := 4, pos := "laws.go:569", after := #[{ on := 12, ground := Ground.data }, { on := 13, ground := Ground.data }, { on := 8, ground := Ground.guard }], guard := some (8, false) }) (v := .bool false) rfl (by kernel_rfl) (by kernel_rfl) (by kernel_rfl) (fun _ _ _ h => h) (by rfl) (fun w hSw => by (try dsimp only at hSw); go_simp) (by assumption) ?_
      try simp only [Act.put, List.setIfInBounds_toArray, List.set_cons_zero, List.set_cons_succ]
      refine take_yes (i := 15) (oi := { dst := some 48, op := Op.pick (Operand.tmp 41) (Operand.const (Value.bool true)) (Operand.tmp 47), type := 4, pos := "laws.go:569", after := #[{ on := 8, ground := Ground.data }, { on := 14, ground := Ground.data }], guard := none }) (v := .bool false) rfl (by kernel_rfl) (by kernel_rfl) (by kernel_rfl) (fun _ _ _ h => h) (by rfl) (fun w hSw => by (try dsimp only at hSw); go_simp) (by assumption) ?_
      try simp only [Act.put, List.setIfInBounds_toArray, List.set_cons_zero, List.set_cons_succ]
      refine take_yes (i := 16) (oi := { dst := some 49, op := Op.move (Operand.tmp 48), type := 4, pos := "laws.go:569", after := #[{ on := 15, ground := Ground.data }, { on := 8, ground := Ground.chain }], guard := none }) (v := .bool false) rfl (by kernel_rfl) (by kernel_rfl) (by kernel_rfl) (fun _ _ _ h => h) (by rfl) (fun w hSw => by (try dsimp only at hSw); go_simp) (by assumption) ?_
      try simp only [Act.put, List.setIfInBounds_toArray, List.set_cons_zero, List.set_cons_succ]
      refine take_yes (i := 17) (oi := { dst := some 50, op := Op.move (Operand.tmp 5), type := 24, pos := "laws.go:569", after := #[{ on := 16, ground := Ground.guard }], guard := some (16, false) }) (v := .slice (some ⟨b, off, none⟩) os.length oc) rfl (by kernel_rfl) (by kernel_rfl) (by kernel_rfl) (fun _ _ _ h => h) (by rfl) (fun w hSw => by (try dsimp only at hSw); go_simp) (by assumption) ?_
      try simp only [Act.put, List.setIfInBounds_toArray, List.set_cons_zero, List.set_cons_succ]
      refine wpAnyH_ready (rs := [18]) (by kernel_rfl) (by simp) ?_
      refine AllReadyH.cons (o := { dst := some 51, op := Op.call { callee := Callee.value (Operand.func 16), args := #[Operand.tmp 50], argTypes := #[24] }, type := 4, pos := "laws.go:569", after := #[{ on := 17, ground := Ground.data }, { on := 16, ground := Ground.chain }, { on := 16, ground := Ground.guard }], guard := some (16, false) }) rfl (fun K hK => ?_) AllReadyH.nil
      go_simp
      with_reducible refine (cK _ _ ((F3.out.2.2.2).rd.below hHeld.2.2)).mono ?_
      rintro e w6 ⟨rfl, hb6⟩
      have K6 := s14_keep hbl hHeld hb6
      refine hK.out _ _ K6 (fun hHeldN => ?_)
      clear hK K hHeld
      have hHeld := hHeldN
      clear hHeldN
      try simp only [Act.put, List.setIfInBounds_toArray, List.set_cons_zero, List.set_cons_succ]
      refine take_yes (i := 19) (oi := { dst := some 52, op := Op.unOp UnOp.not 4 (Operand.tmp 51), type := 4, pos := "laws.go:569", after := #[{ on := 18, ground := Ground.data }, { on := 16, ground := Ground.guard }], guard := some (16, false) }) (v := .bool false) rfl (by kernel_rfl) (by kernel_rfl) (by kernel_rfl) (fun _ _ _ h => h) (by rfl) (fun w hSw => by (try dsimp only at hSw); go_simp) (by assumption) ?_
      try simp only [Act.put, List.setIfInBounds_toArray, List.set_cons_zero, List.set_cons_succ]
      refine take_yes (i := 20) (oi := { dst := some 53, op := Op.pick (Operand.tmp 49) (Operand.const (Value.bool true)) (Operand.tmp 52), type := 4, pos := "laws.go:569", after := #[{ on := 16, ground := Ground.data }, { on := 19, ground := Ground.data }], guard := none }) (v := .bool false) rfl (by kernel_rfl) (by kernel_rfl) (by kernel_rfl) (fun _ _ _ h => h) (by rfl) (fun w hSw => by (try dsimp only at hSw); go_simp) (by assumption) ?_
      try simp only [Act.put, List.setIfInBounds_toArray, List.set_cons_zero, List.set_cons_succ]
      refine wpAnyH_done (by kernel_rfl) ?_ _
      have hHeld2 := hHeld
      clear hHeld
      have hB6 := hHeld2.2.2
      clear hHeld2 K6 hb6 hS
      have F4 := Lib.hid (And.intro ((F3.out.1).full hB6) (And.intro (Below.then_ (F3.out.2.1) hB6) (And.intro ((F3.out.2.2.1).kept hB6) ((F3.out.2.2.2).full hB6))))
      clear F3
      clear hB6 cK hne qk hbl
      obtain ⟨d0, d1, d2, d3, d4, d5, d6, d7⟩ := cel8hv (F4.out.2.2.1)
      go_wp2_with (fail)
      with_reducible refine (cD _ _ (F4.out.2.2.2)).mono ?_
      rintro e w7 ⟨u7, rfl, hO7, hb7⟩
      obtain ⟨sa, sc, rfl, -⟩ := hO7.form
      have F5 := Lib.hid (And.intro ((F4.out.1).full hb7) (And.intro (Below.then_ (F4.out.2.1) hb7) (And.intro ((F4.out.2.2.1).kept hb7) (And.intro ((F4.out.2.2.2).full hb7) (hO7.rd)))))
      clear F4
      clear hO7 hb7 cD d0 d1 d2 d3 d4 d5 d6 d7
      obtain ⟨d0, d1, d2, d3, d4, d5, d6, d7⟩ := cel8hv (F5.out.2.2.1)
      go_wp2_with (fail)
      with_reducible refine (cY1 _ _ (F5.out.2.2.2.1).rd).mono ?_
      rintro e w9 ⟨u9, rfl, hO9, hb9⟩
      obtain ⟨ya, yc, rfl, -⟩ := hO9.form
      have F6 := Lib.hid (And.intro ((F5.out.1).full hb9) (And.intro (Below.then_ (F5.out.2.1) hb9) (And.intro ((F5.out.2.2.1).kept hb9) (And.intro ((F5.out.2.2.2.1).full hb9) (And.intro ((F5.out.2.2.2.2).below hb9) (hO9.rd))))))
      clear F5
      clear hO9 hb9 cY1 d0 d1 d2 d3 d4 d5 d6 d7
      have hE : OwnH (w9.alloc (.cells #[] 28)) w.heap.size (w9.alloc (.cells #[] 28)).heap.size (.slice (some ⟨w9.heap.size, 0, none⟩) 0 0) [] := (eown_empty hvK w9).mono (F6.out.2.1).size (Nat.le_refl _)
      have HE := Lib.hid (And.intro hE (And.intro ((F6.out.2.2.2.2.2).below (below_new w9 (.cells #[] 28))) (Below.then_ (F6.out.2.1) (below_new w9 (.cells #[] 28))).size))
      clear hE
      go_upto_region 13 with (at_builtin; go_loud (refine wpList_append_els hvK rfl _ _ 24 24 rfl uHv uHv w.heap.size (.slice (some ⟨w9.heap.size, 0, none⟩) 0 0) _ [] ys rfl rfl HE.out.1 HE.out.2.2 HE.out.2.1 (by have := HYL.out; have := HH.out.2.1; simp; omega) ?_; intro v10 w10 hown hgrow hloc; rw [List.nil_append] at hown; have hb10 : Below w9.heap.size w9 w10 := (below_new w9 (.cells #[] 28)).grown hgrow (by simp) (fun g hg => by simp [Value.ownBlock] at hg; omega); have HV := Lib.hid (And.intro hown.rd hb10); obtain ⟨va, vc, rfl, -⟩ := hown.form; clear hown hgrow hloc hb10))
      have F7 := Lib.hid (And.intro ((F6.out.1).full HV.out.2) (And.intro (Below.then_ (F6.out.2.1) HV.out.2) (And.intro ((F6.out.2.2.1).kept HV.out.2) (And.intro ((F6.out.2.2.2.1).full HV.out.2) (And.intro ((F6.out.2.2.2.2.1).below HV.out.2) (HV.out.1))))))
      clear F6
      clear HV HE
      obtain ⟨d0, d1, d2, d3, d4, d5, d6, d7⟩ := cel8hv (F7.out.2.2.1)
      go_wp2_with (fail)
      with_reducible refine (cY2 _ _ (F7.out.2.2.2.1).rd).mono ?_
      rintro e w11 ⟨u11, rfl, hO11, hb11⟩
      obtain ⟨za, zc, rfl, -⟩ := hO11.form
      have F8 := Lib.hid (And.intro ((F7.out.1).full hb11) (And.intro (Below.then_ (F7.out.2.1) hb11) (And.intro ((F7.out.2.2.1).kept hb11) (And.intro ((F7.out.2.2.2.1).full hb11) (And.intro ((F7.out.2.2.2.2.1).below hb11) (And.intro ((F7.out.2.2.2.2.2).below hb11) (hO11.rd)))))))
      clear F7
      clear hO11 hb11 cY2 d0 d1 d2 d3 d4 d5 d6 d7
      obtain ⟨d0, d1, d2, d3, d4, d5, d6, d7⟩ := cel8hv (F8.out.2.2.1)
      go_wp2_with (fail)
      with_reducible refine (cA1 _ _ (F8.out.2.2.2.2.1)).mono ?_
      rintro e w12 ⟨rfl, hb12⟩
      have F9 := Lib.hid (And.intro ((F8.out.1).full hb12) (And.intro (Below.then_ (F8.out.2.1) hb12) (And.intro ((F8.out.2.2.1).kept hb12) (And.intro ((F8.out.2.2.2.1).full hb12) (And.intro ((F8.out.2.2.2.2.1).below hb12) (And.intro ((F8.out.2.2.2.2.2.1).below hb12) ((F8.out.2.2.2.2.2.2).below hb12)))))))
      clear F8
      clear hb12 cA1 d0 d1 d2 d3 d4 d5 d6 d7
      obtain ⟨d0, d1, d2, d3, d4, d5, d6, d7⟩ := cel8hv (F9.out.2.2.1)
      go_wp2_with (fail)
      with_reducible refine (cA2 _ _ (F9.out.2.2.2.2.2.1)).mono ?_
      rintro e w13 ⟨rfl, hb13⟩
      have F10 := Lib.hid (And.intro ((F9.out.1).full hb13) (And.intro (Below.then_ (F9.out.2.1) hb13) (And.intro ((F9.out.2.2.1).kept hb13) (And.intro ((F9.out.2.2.2.1).full hb13) (And.intro ((F9.out.2.2.2.2.1).below hb13) (And.intro ((F9.out.2.2.2.2.2.1).below hb13) ((F9.out.2.2.2.2.2.2).below hb13)))))))
      clear F9
      clear hb13 cA2 d0 d1 d2 d3 d4 d5 d6 d7
      obtain ⟨d0, d1, d2, d3, d4, d5, d6, d7⟩ := cel8hv (F10.out.2.2.1)
      go_wp2_with (fail)
      with_reducible refine (cA3 _ _ (F10.out.2.2.2.2.2.2)).mono ?_
      rintro e w14 ⟨rfl, hb14⟩
      have F11 := Lib.hid (And.intro ((F10.out.1).full hb14) (And.intro (Below.then_ (F10.out.2.1) hb14) (And.intro ((F10.out.2.2.1).kept hb14) (And.intro ((F10.out.2.2.2.1).full hb14) (And.intro ((F10.out.2.2.2.2.1).below hb14) (And.intro ((F10.out.2.2.2.2.2.1).below hb14) ((F10.out.2.2.2.2.2.2).below hb14)))))))
      clear F10
      clear hb14 cA3 d0 d1 d2 d3 d4 d5 d6 d7
      obtain ⟨d0, d1, d2, d3, d4, d5, d6, d7⟩ := cel8hv (F11.out.2.2.1)
      go_wp2_with (fail)
      with_reducible refine (cI _ _ (F11.out.2.2.2.1).rd).mono ?_
      rintro e w15 ⟨rfl, hb15⟩
      have F12 := Lib.hid (And.intro ((F11.out.1).full hb15) (And.intro (Below.then_ (F11.out.2.1) hb15) (And.intro ((F11.out.2.2.1).kept hb15) (And.intro ((F11.out.2.2.2.1).full hb15) (And.intro ((F11.out.2.2.2.2.1).below hb15) (And.intro ((F11.out.2.2.2.2.2.1).below hb15) ((F11.out.2.2.2.2.2.2).below hb15)))))))
      clear F11
      clear hb15 cI d0 d1 d2 d3 d4 d5 d6 d7
      have HB := Lib.hid (F12.out.2.1)
      go_wp2_with (fail)
      go_ret
      exact ⟨rfl, HB.out⟩
    · have hp : putH ms m = (ms, false) := by unfold putH; rw [if_neg hok]
      rw [hp] at cP
      simp only at cP
      clear hp hok
      go_wp2_with (fail)
      generalize w1.alloc (.cells #[.int .i64 m.road.own, .int .i64 m.road.far, .int .i64 m.road.port, .int .i64 m.theirs, .int .i64 m.mine, .int .i64 m.give, .int .i64 m.take, .int .i64 m.till] 28) = w2 at *
      generalize w1.heap.size = bt at *
      with_reducible refine cP.mono ?_
      rintro e w3 ⟨v3, rfl, hO3, hb3⟩
      obtain ⟨oa, oc, rfl, -⟩ := hO3.form
      have F2 := Lib.hid (And.intro ((F1.out.1).full hb3) (And.intro (Below.then_ (F1.out.2.1) hb3) (And.intro ((F1.out.2.2).kept hb3) (hO3.rd))))
      clear F1
      clear cP hO3 hb3 d0 d1 d2 d3 d4 d5 d6 d7
      go_wp2_with (fail)
      with_reducible refine (same_halfs _ _ ms _ (F2.out.2.2.2) (F2.out.1).rd (by have := HL.out; omega)).mono ?_
      rintro e w5 ⟨rfl, hb5⟩
      have HB := Lib.hid (Below.then_ (F2.out.2.1) hb5)
      clear hb5
      go_wp2_with (fail)
      go_ret
      exact ⟨rfl, HB.out⟩
end Go.Proofs.Ytoeflkmhofkiaaa
