import Derived.Test.YtmokepopmfcdnaaAoi
import Derived.BigQuiet
import Derived.Deep.QuietTactic
namespace Go.Proofs.Ytmokepopmfcdnaa
open Go.RowKit

theorem vr_keep {w W W' : World} {bx : Nat} {m : Av} {v : Value} {ms : List Av} (h : W.cell? ⟨bx, 0, none⟩ = some (.int .i64 m.id) ∧ W.cell? ⟨bx, 1, none⟩ = some (.int .i64 m.addr) ∧ RdV W v ms ∧ Below w.heap.size w W) (hb : Below W.heap.size W W') :
    W'.cell? ⟨bx, 0, none⟩ = some (.int .i64 m.id) ∧ W'.cell? ⟨bx, 1, none⟩ = some (.int .i64 m.addr) ∧ RdV W' v ms ∧ Below w.heap.size w W' :=
  ⟨keepc' h.1 hb, keepc' h.2.1 hb, h.2.2.1.below hb, Below.then_ h.2.2.2 hb⟩
theorem below_dN (W : World) (n : Nat) : Below W.heap.size W (W.drewN n) := ⟨rfl, rfl, rfl, Nat.le_refl _, fun _ _ => rfl⟩

set_option linter.unusedSimpArgs false in
set_option maxRecDepth 100000 in
set_option maxHeartbeats 8000000 in
theorem spec_addrsOk (v : Value) (ms : List Av) (w : World) (hv : RdV w v ms) (hn : ms.length ≤ 1048577) :
    Calls Try.prog 54 #[v] w fun e w' => e = .returned (.bool (addrsOk ms)) ∧ Below w.heap.size w w' := by
  obtain ⟨a, c, rfl⟩ := hv.form
  by_cases h6 : 6 < ms.length
  · rw [ok_long h6]
    have q : (6 : Int) < (ms.length : Int) := by omega
    clear hv
    go_enter Try.func54, Try.ntmps54
    go_wp2_with (fail)
    go_ret
    exact ⟨rfl, Below.refl _ _⟩
  · have hok : addrsOk ms = okGo 0 [] ms := by
      unfold addrsOk
      rw [decide_eq_true (by omega), Bool.true_and]
    rw [hok]
    generalize hg : okGo 0 [] ms = res
    have HG := Lib.hid hg
    have q6 : ¬ (6 : Int) < (ms.length : Int) := by omega
    clear hok hg
    go_enter Try.func54, Try.ntmps54
    go_wp2_with (fail)
    go_loopw [3] (fun i wr => ∃ k : Nat, ∃ z : Int, k ≤ ms.length ∧ i = .int .i64 k ∧ (0 ≤ z ∧ (k = 0 → z = 0) ∧ ∀ (h : 0 < k) (hl : k - 1 < ms.length), ms[k - 1].id = z - 1) ∧ okGo z ((ms.take k).map (·.addr)) (ms.drop k) = res ∧ RdV wr (.slice a ms.length c) ms ∧ Below w.heap.size w wr) (fun i _ => ms.length - (intOf i).toNat)
    case atStart => exact ⟨0, 0, by omega, rfl, ⟨by omega, fun _ => rfl, fun h => by omega⟩, by rw [List.drop_zero]; exact HG.out, hv, Below.refl _ _⟩
    case round =>
      clear hv HG
      obtain ⟨k, z, hk, rfl, ⟨hz, hz0, hz1⟩, hr, hR, hB⟩ := hrel
      by_cases hlt : k < ms.length
      · have q : (0 : Int) ≤ (k : Int) ∧ (k : Int) < (ms.length : Int) := by omega
        obtain ⟨b, off, ha, hb, k0, k1', k2, k3, -⟩ := av_at (P := Try.prog) hR k hlt
        subst ha
        rw [List.drop_eq_getElem_cons hlt, okGo_cons] at hr
        have hat := addrs_take ms k hlt
        have hnext : ms[k + 1 - 1] = ms[k] := rfl
        have HNX := Lib.hid (show ∀ m, ms[k] = m → ∀ (hl : k + 1 - 1 < ms.length), ms[k + 1 - 1].id = (m.id + 1) - 1 from fun m hm hl => by subst hm; show ms[k].id = _; omega)
        clear hnext
        obtain ⟨m, hm⟩ : ∃ m, ms[k] = m := ⟨_, rfl⟩
        have hnx := HNX.out m hm
        rw [hm] at k0 k1' k2 k3 hr hat
        have HM := Lib.hid (And.intro hm hnx)
        clear hm hnx HNX
        have cW := fun W => spec_in m.id 0 255 W
        have cA := fun W => spec_in m.addr 1 65535 W
        have hbx := below_av wr m
        obtain ⟨d0, d1, -, -⟩ := cel4a (Cel.new wr 32 #[.int .i64 m.id, .int .i64 m.addr, .bool m.spare, .bool m.told])
        have hS := vr_keep ⟨d0, d1, hR.below hbx, Below.then_ hB hbx⟩ (Below.refl _ _)
        have HAT := Lib.hid hat
        have hR0 := Lib.hid hR
        clear hat d0 d1 hbx hR hB
        by_cases g1 : 0 ≤ m.id ∧ m.id ≤ 255
        · rw [decide_eq_true g1] at cW
          by_cases g2 : 1 ≤ m.addr ∧ m.addr ≤ 65535
          · rw [decide_eq_true g2] at hr cA
            by_cases hk0 : k = 0
            · have hzz := hz0 hk0
              rw [decide_eq_true (show z ≤ m.id ∧ m.id ≤ 255 by omega)] at hr
              simp only [Bool.true_and, Bool.and_self] at hr
              have HR := Lib.hid hr
              have qk : (k = 0) = True := eq_true hk0
              clear hr g2 hz0 hz1 hk0 hzz
              go_wp2_with (fail)
              obtain ⟨bx, hbxe⟩ : ∃ bx, wr.heap.size = bx := ⟨_, rfl⟩
              rw [hbxe] at hS ⊢
              clear hbxe
              replace hS := vr_keep hS (show Below _ _ (World.drew _) from (Below.refl _ _).drew)
              refine wp_region_held_drew (S := fun W => W.cell? ⟨bx, 0, none⟩ = some (.int .i64 m.id) ∧ W.cell? ⟨bx, 1, none⟩ = some (.int .i64 m.addr) ∧ RdV W (.slice (some ⟨b, off, none⟩) ms.length c) ms ∧ Below w.heap.size w W) (by kernel_rfl) hS (fun hHeld => ?_)
              refine take_yes (i := 0) (oi := { dst := some 19, op := Op.fieldAddr 32 (Operand.tmp 4) 0, type := 0, pos := "l11_addrs.go:11", after := #[], guard := none }) (v := .pointer (some ⟨bx, 0, none⟩)) rfl (by kernel_rfl) (by kernel_rfl) (by kernel_rfl) (fun _ _ _ h => h) (by rfl) (fun w hSw => by (try dsimp only at hSw); go_simp) (by assumption) ?_
              try simp only [Act.put, List.setIfInBounds_toArray, List.set_cons_zero, List.set_cons_succ]
              refine take_yes (i := 1) (oi := { dst := some 20, op := Op.load 3 (Operand.tmp 19), type := 3, pos := "l11_addrs.go:11", after := #[{ on := 0, ground := Ground.data }], guard := none }) (v := .int .i64 m.id) rfl (by kernel_rfl) (by kernel_rfl) (by kernel_rfl) (fun _ _ _ h => h) (by rfl) (fun w hSw => by (try dsimp only at hSw); go_simp) (by assumption) ?_
              try simp only [Act.put, List.setIfInBounds_toArray, List.set_cons_zero, List.set_cons_succ]
              refine wpAnyH_ready (rs := [2]) (by kernel_rfl) (by simp) ?_
              refine AllReadyH.cons (o := { dst := some 21, op := Op.call { callee := Callee.value (Operand.func 36), args := #[Operand.tmp 20, Operand.const (Value.int IntKind.i64 0), Operand.const (Value.int IntKind.i64 255)], argTypes := #[3, 3, 3] }, type := 4, pos := "l11_addrs.go:11", after := #[{ on := 1, ground := Ground.data }], guard := none }) rfl (fun K hK => ?_) AllReadyH.nil
              go_simp
              with_reducible refine (cW _).mono ?_
              rintro e w9 ⟨rfl, rfl⟩
              refine hK.out _ _ hHeld (fun hHeldN => ?_)
              clear hK K hHeld
              have hHeld := hHeldN
              clear hHeldN
              try simp only [Act.put, List.setIfInBounds_toArray, List.set_cons_zero, List.set_cons_succ]
              refine take_yes (i := 3) (oi := { dst := some 22, op := Op.unOp UnOp.not 4 (Operand.tmp 21), type := 4, pos := "l11_addrs.go:11", after := #[{ on := 2, ground := Ground.data }], guard := none }) (v := .bool false) rfl (by kernel_rfl) (by kernel_rfl) (by kernel_rfl) (fun _ _ _ h => h) (by rfl) (fun w hSw => by (try dsimp only at hSw); go_simp) (by assumption) ?_
              try simp only [Act.put, List.setIfInBounds_toArray, List.set_cons_zero, List.set_cons_succ]
              refine take_yes (i := 4) (oi := { dst := some 23, op := Op.move (Operand.tmp 22), type := 4, pos := "l11_addrs.go:11", after := #[{ on := 3, ground := Ground.data }, { on := 2, ground := Ground.chain }], guard := none }) (v := .bool false) rfl (by kernel_rfl) (by kernel_rfl) (by kernel_rfl) (fun _ _ _ h => h) (by rfl) (fun w hSw => by (try dsimp only at hSw); go_simp) (by assumption) ?_
              try simp only [Act.put, List.setIfInBounds_toArray, List.set_cons_zero, List.set_cons_succ]
              refine take_yes (i := 5) (oi := { dst := some 24, op := Op.fieldAddr 32 (Operand.tmp 4) 1, type := 0, pos := "l11_addrs.go:11", after := #[{ on := 4, ground := Ground.guard }], guard := some (4, false) }) (v := .pointer (some ⟨bx, 1, none⟩)) rfl (by kernel_rfl) (by kernel_rfl) (by kernel_rfl) (fun _ _ _ h => h) (by rfl) (fun w hSw => by (try dsimp only at hSw); go_simp) (by assumption) ?_
              try simp only [Act.put, List.setIfInBounds_toArray, List.set_cons_zero, List.set_cons_succ]
              refine take_yes (i := 6) (oi := { dst := some 25, op := Op.load 3 (Operand.tmp 24), type := 3, pos := "l11_addrs.go:11", after := #[{ on := 5, ground := Ground.data }, { on := 4, ground := Ground.guard }], guard := some (4, false) }) (v := .int .i64 m.addr) rfl (by kernel_rfl) (by kernel_rfl) (by kernel_rfl) (fun _ _ _ h => h) (by rfl) (fun w hSw => by (try dsimp only at hSw); go_simp) (by assumption) ?_
              try simp only [Act.put, List.setIfInBounds_toArray, List.set_cons_zero, List.set_cons_succ]
              refine wpAnyH_ready (rs := [7]) (by kernel_rfl) (by simp) ?_
              refine AllReadyH.cons (o := { dst := some 26, op := Op.call { callee := Callee.value (Operand.func 36), args := #[Operand.tmp 25, Operand.const (Value.int IntKind.i64 1), Operand.const (Value.int IntKind.i64 65535)], argTypes := #[3, 3, 3] }, type := 4, pos := "l11_addrs.go:11", after := #[{ on := 6, ground := Ground.data }, { on := 4, ground := Ground.chain }, { on := 4, ground := Ground.guard }], guard := some (4, false) }) rfl (fun K hK => ?_) AllReadyH.nil
              go_simp
              with_reducible refine (cA _).mono ?_
              rintro e w9 ⟨rfl, rfl⟩
              refine hK.out _ _ hHeld (fun hHeldN => ?_)
              clear hK K hHeld
              have hHeld := hHeldN
              clear hHeldN
              try simp only [Act.put, List.setIfInBounds_toArray, List.set_cons_zero, List.set_cons_succ]
              refine take_yes (i := 8) (oi := { dst := some 27, op := Op.unOp UnOp.not 4 (Operand.tmp 26), type := 4, pos := "l11_addrs.go:11", after := #[{ on := 7, ground := Ground.data }, { on := 4, ground := Ground.guard }], guard := some (4, false) }) (v := .bool false) rfl (by kernel_rfl) (by kernel_rfl) (by kernel_rfl) (fun _ _ _ h => h) (by rfl) (fun w hSw => by (try dsimp only at hSw); go_simp) (by assumption) ?_
              try simp only [Act.put, List.setIfInBounds_toArray, List.set_cons_zero, List.set_cons_succ]
              refine take_yes (i := 9) (oi := { dst := some 28, op := Op.pick (Operand.tmp 23) (Operand.const (Value.bool true)) (Operand.tmp 27), type := 4, pos := "l11_addrs.go:11", after := #[{ on := 4, ground := Ground.data }, { on := 8, ground := Ground.data }], guard := none }) (v := .bool false) rfl (by kernel_rfl) (by kernel_rfl) (by kernel_rfl) (fun _ _ _ h => h) (by rfl) (fun w hSw => by (try dsimp only at hSw); go_simp) (by assumption) ?_
              try simp only [Act.put, List.setIfInBounds_toArray, List.set_cons_zero, List.set_cons_succ]
              refine take_yes (i := 10) (oi := { dst := some 29, op := Op.move (Operand.tmp 28), type := 4, pos := "l11_addrs.go:11", after := #[{ on := 9, ground := Ground.data }, { on := 7, ground := Ground.chain }], guard := none }) (v := .bool false) rfl (by kernel_rfl) (by kernel_rfl) (by kernel_rfl) (fun _ _ _ h => h) (by rfl) (fun w hSw => by (try dsimp only at hSw); go_simp) (by assumption) ?_
              try simp only [Act.put, List.setIfInBounds_toArray, List.set_cons_zero, List.set_cons_succ]
              refine take_yes (i := 11) (oi := { dst := some 30, op := Op.move (Operand.tmp 3), type := 3, pos := "l11_addrs.go:11", after := #[{ on := 10, ground := Ground.guard }], guard := some (10, false) }) (v := .int .i64 (k : Int)) rfl (by kernel_rfl) (by kernel_rfl) (by kernel_rfl) (fun _ _ _ h => h) (by rfl) (fun w hSw => by (try dsimp only at hSw); go_simp) (by assumption) ?_
              try simp only [Act.put, List.setIfInBounds_toArray, List.set_cons_zero, List.set_cons_succ]
              refine take_yes (i := 12) (oi := { dst := some 31, op := Op.binOp BinOp.gtr 3 (Operand.tmp 30) (Operand.const (Value.int IntKind.i64 0)) 3, type := 4, pos := "l11_addrs.go:11", after := #[{ on := 11, ground := Ground.data }, { on := 10, ground := Ground.guard }], guard := some (10, false) }) (v := .bool false) rfl (by kernel_rfl) (by kernel_rfl) (by kernel_rfl) (fun _ _ _ h => h) (by rfl) (fun w hSw => by (try dsimp only at hSw); go_simp) (by assumption) ?_
              try simp only [Act.put, List.setIfInBounds_toArray, List.set_cons_zero, List.set_cons_succ]
              refine take_yes (i := 13) (oi := { dst := some 32, op := Op.move (Operand.tmp 31), type := 4, pos := "l11_addrs.go:11", after := #[{ on := 12, ground := Ground.data }, { on := 10, ground := Ground.chain }, { on := 10, ground := Ground.guard }], guard := some (10, false) }) (v := .bool false) rfl (by kernel_rfl) (by kernel_rfl) (by kernel_rfl) (fun _ _ _ h => h) (by rfl) (fun w hSw => by (try dsimp only at hSw); go_simp) (by assumption) ?_
              try simp only [Act.put, List.setIfInBounds_toArray, List.set_cons_zero, List.set_cons_succ]
              refine take_no (i := 14) (oi := { dst := some 33, op := Op.move (Operand.tmp 0), type := 26, pos := "l11_addrs.go:11", after := #[{ on := 13, ground := Ground.guard }], guard := some (13, true) }) rfl (by kernel_rfl) (by kernel_rfl) (by kernel_rfl) (fun _ _ _ h => h) (by rfl) (by assumption) ?_
              try simp only [Act.put, List.setIfInBounds_toArray, List.set_cons_zero, List.set_cons_succ]
              refine take_no (i := 15) (oi := { dst := some 34, op := Op.move (Operand.tmp 3), type := 3, pos := "l11_addrs.go:11", after := #[{ on := 13, ground := Ground.guard }], guard := some (13, true) }) rfl (by kernel_rfl) (by kernel_rfl) (by kernel_rfl) (fun _ _ _ h => h) (by rfl) (by assumption) ?_
              try simp only [Act.put, List.setIfInBounds_toArray, List.set_cons_zero, List.set_cons_succ]
              refine take_no (i := 16) (oi := { dst := some 35, op := Op.binOp BinOp.sub 3 (Operand.tmp 34) (Operand.const (Value.int IntKind.i64 1)) 3, type := 3, pos := "l11_addrs.go:11", after := #[{ on := 15, ground := Ground.data }, { on := 13, ground := Ground.guard }], guard := some (13, true) }) rfl (by kernel_rfl) (by kernel_rfl) (by kernel_rfl) (fun _ _ _ h => h) (by rfl) (by assumption) ?_
              try simp only [Act.put, List.setIfInBounds_toArray, List.set_cons_zero, List.set_cons_succ]
              refine take_no (i := 17) (oi := { dst := some 36, op := Op.indexAddr 26 (Operand.tmp 33) (Operand.tmp 35), type := 0, pos := "l11_addrs.go:11", after := #[{ on := 14, ground := Ground.data }, { on := 16, ground := Ground.data }, { on := 13, ground := Ground.guard }], guard := some (13, true) }) rfl (by kernel_rfl) (by kernel_rfl) (by kernel_rfl) (fun _ _ _ h => h) (by rfl) (by assumption) ?_
              try simp only [Act.put, List.setIfInBounds_toArray, List.set_cons_zero, List.set_cons_succ]
              refine take_no (i := 18) (oi := { dst := some 37, op := Op.fieldAddr 32 (Operand.tmp 36) 0, type := 0, pos := "l11_addrs.go:11", after := #[{ on := 17, ground := Ground.data }, { on := 13, ground := Ground.guard }], guard := some (13, true) }) rfl (by kernel_rfl) (by kernel_rfl) (by kernel_rfl) (fun _ _ _ h => h) (by rfl) (by assumption) ?_
              try simp only [Act.put, List.setIfInBounds_toArray, List.set_cons_zero, List.set_cons_succ]
              refine take_no (i := 19) (oi := { dst := some 38, op := Op.load 3 (Operand.tmp 37), type := 3, pos := "l11_addrs.go:11", after := #[{ on := 18, ground := Ground.data }, { on := 13, ground := Ground.guard }], guard := some (13, true) }) rfl (by kernel_rfl) (by kernel_rfl) (by kernel_rfl) (fun _ _ _ h => h) (by rfl) (by assumption) ?_
              try simp only [Act.put, List.setIfInBounds_toArray, List.set_cons_zero, List.set_cons_succ]
              refine take_no (i := 20) (oi := { dst := some 39, op := Op.fieldAddr 32 (Operand.tmp 4) 0, type := 0, pos := "l11_addrs.go:11", after := #[{ on := 13, ground := Ground.guard }], guard := some (13, true) }) rfl (by kernel_rfl) (by kernel_rfl) (by kernel_rfl) (fun _ _ _ h => h) (by rfl) (by assumption) ?_
              try simp only [Act.put, List.setIfInBounds_toArray, List.set_cons_zero, List.set_cons_succ]
              refine take_no (i := 21) (oi := { dst := some 40, op := Op.load 3 (Operand.tmp 39), type := 3, pos := "l11_addrs.go:11", after := #[{ on := 20, ground := Ground.data }, { on := 13, ground := Ground.guard }], guard := some (13, true) }) rfl (by kernel_rfl) (by kernel_rfl) (by kernel_rfl) (fun _ _ _ h => h) (by rfl) (by assumption) ?_
              try simp only [Act.put, List.setIfInBounds_toArray, List.set_cons_zero, List.set_cons_succ]
              refine take_no (i := 22) (oi := { dst := some 41, op := Op.binOp BinOp.geq 3 (Operand.tmp 38) (Operand.tmp 40) 3, type := 4, pos := "l11_addrs.go:11", after := #[{ on := 19, ground := Ground.data }, { on := 21, ground := Ground.data }, { on := 13, ground := Ground.guard }], guard := some (13, true) }) rfl (by kernel_rfl) (by kernel_rfl) (by kernel_rfl) (fun _ _ _ h => h) (by rfl) (by assumption) ?_
              try simp only [Act.put, List.setIfInBounds_toArray, List.set_cons_zero, List.set_cons_succ]
              refine take_yes (i := 23) (oi := { dst := some 42, op := Op.pick (Operand.tmp 32) (Operand.tmp 41) (Operand.const (Value.bool false)), type := 4, pos := "l11_addrs.go:11", after := #[{ on := 13, ground := Ground.data }, { on := 22, ground := Ground.data }, { on := 10, ground := Ground.guard }], guard := some (10, false) }) (v := .bool false) rfl (by kernel_rfl) (by kernel_rfl) (by kernel_rfl) (fun _ _ _ h => h) (by rfl) (fun w hSw => by (try dsimp only at hSw); go_simp) (by assumption) ?_
              try simp only [Act.put, List.setIfInBounds_toArray, List.set_cons_zero, List.set_cons_succ]
              refine take_yes (i := 24) (oi := { dst := some 43, op := Op.pick (Operand.tmp 29) (Operand.const (Value.bool true)) (Operand.tmp 42), type := 4, pos := "l11_addrs.go:11", after := #[{ on := 10, ground := Ground.data }, { on := 23, ground := Ground.data }], guard := none }) (v := .bool false) rfl (by kernel_rfl) (by kernel_rfl) (by kernel_rfl) (fun _ _ _ h => h) (by rfl) (fun w hSw => by (try dsimp only at hSw); go_simp) (by assumption) ?_
              try simp only [Act.put, List.setIfInBounds_toArray, List.set_cons_zero, List.set_cons_succ]
              refine wpAnyH_done (by kernel_rfl) ?_ _
              have hHeld2 := hHeld
              clear hHeld
              obtain ⟨f0, f1, f2, f3⟩ := hHeld2
              clear cW cA k0 k1' k2 k3
              go_wp2_with (fail)
              go_loopw [5] (fun i wr => ∃ j : Nat, j ≤ k ∧ i = .int .i64 j ∧ (∀ i (_ : i < j) (h : i < ms.length), ms[i].addr ≠ m.addr) ∧ wr.cell? ⟨bx, 1, none⟩ = some (.int .i64 m.addr) ∧ RdV wr (.slice (some ⟨b, off, none⟩) ms.length c) ms ∧ Below w.heap.size w wr) (fun i _ => k - (intOf i).toNat)
              case atStart => exact ⟨0, by omega, rfl, fun i hi => by omega, f1, f2, f3⟩
              case round =>
                clear f0 f1 f2 f3
                obtain ⟨j, hj, rfl, hne, f1, f2, f3⟩ := hrel
                by_cases hjk : j < k
                · have qj : (0 : Int) ≤ (j : Int) ∧ (j : Int) < (ms.length : Int) ∧ (j : Int) < (k : Int) := by omega
                  obtain ⟨b2, off2, ha2, -, -, j1, -⟩ := av_at (P := Try.prog) f2 j (by omega)
                  injection ha2 with ha2
                  injection ha2 with ha2 ha3
                  subst ha2 ha3
                  obtain ⟨x, hx⟩ : ∃ x, ms[j].addr = x := ⟨_, rfl⟩
                  rw [hx] at j1
                  have HX := Lib.hid (And.intro hx (And.intro hne (And.intro f2 f3)))
                  clear hx hne f2 f3
                  by_cases hxe : x = m.addr
                  · subst hxe
                    have hmem : m.addr ∈ (ms.take k).map (·.addr) := by
                      refine List.mem_map.2 ⟨ms[j], ?_, HX.out.1⟩
                      rw [List.mem_iff_getElem]
                      exact ⟨j, by rw [List.length_take]; omega, by rw [List.getElem_take]⟩
                    have hr2 := HR.out
                    rw [decide_eq_true hmem] at hr2
                    simp only [Bool.not_true, Bool.false_and] at hr2
                    obtain rfl : false = res := hr2
                    clear hmem
                    go_wp2_with (fail)
                    go_quiet (fail)
                    go_wp2_with (fail)
                    go_ret
                    exact ⟨rfl, Below.then_ HX.out.2.2.2 (below_dN _ _)⟩
                  · have hxe2 : (x == m.addr) = false := by simpa using hxe
                    go_wp2_with (fail)
                    go_quiet (fail)
                    go_wp2_with (fail)
                    go_roundw
                    case rel =>
                      refine ⟨j + 1, by omega, by go_num, fun i hi hl => ?_, f1, HX.out.2.2.1.drewN, Below.then_ HX.out.2.2.2 (below_dN _ _)⟩
                      by_cases hij : i = j
                      · subst hij
                        rw [HX.out.1]
                        exact hxe
                      · exact HX.out.2.1 i (by omega) hl
                    case measure => simp [intOf]; omega
                · obtain rfl : j = k := by omega
                  have qj : ¬ (j : Int) < (j : Int) := by omega
                  have hmem : m.addr ∉ (ms.take j).map (·.addr) := fun hm => by
                    obtain ⟨y, hy, he⟩ := List.mem_map.1 hm
                    obtain ⟨i, hi, rfl⟩ := List.mem_iff_getElem.1 hy
                    rw [List.length_take] at hi
                    rw [List.getElem_take] at he
                    exact hne i (by omega) (by omega) he
                  have hr2 := HR.out
                  rw [decide_eq_false hmem] at hr2
                  simp only [Bool.not_false, Bool.true_and] at hr2
                  have HQ := Lib.hid (And.intro hr2 (And.intro f2 f3))
                  clear hr2 f2 f3 f1 hmem hne HR
                  go_wp2_with (fail)
                  go_roundw
                  case rel => exact ⟨j + 1, m.id + 1, by omega, by go_num, ⟨by omega, fun h => by omega, fun _ hl => HM.out.2 hl⟩, by rw [HAT.out]; exact HQ.out.1, HQ.out.2.1, HQ.out.2.2⟩
                  case measure => simp [intOf]; omega
            · have hzz := hz1 (by omega) (by omega)
              obtain ⟨k1, hk1⟩ : ∃ k1, k1 + 1 = k := ⟨k - 1, by omega⟩
              have e1 : IntKind.i64.wrap ((k : Int) - 1) = (k1 : Int) := by rw [IntWalk.i64_in _ (by omega)]; omega
              have qk : 0 < k := by omega
              have qk1 : (0 : Int) ≤ (k1 : Int) ∧ (k1 : Int) < (ms.length : Int) := by omega
              obtain ⟨b2, off2, ha2, -, hpc, -⟩ := av_at (P := Try.prog) hR0.out k1 (by omega)
              injection ha2 with ha2
              injection ha2 with ha2 ha3
              subst ha2 ha3
              have hke : ms[k1]'(by omega) = ms[k - 1]'(by omega) := by congr 1; omega
              rw [hke, hzz] at hpc
              generalize hpid : z - 1 = pid at hpc
              clear hke hzz hz0 hz1 hk1 hk0
              by_cases g4 : pid < m.id
              · rw [decide_eq_true (show z ≤ m.id ∧ m.id ≤ 255 by omega)] at hr
                simp only [Bool.true_and, Bool.and_self] at hr
                have HR := Lib.hid hr
                have HPID := Lib.hid hpid
                have g5 : ¬ m.id ≤ pid := by omega
                clear hr g2 hpid
                go_wp2_with (fail)
                obtain ⟨bx, hbxe⟩ : ∃ bx, wr.heap.size = bx := ⟨_, rfl⟩
                rw [hbxe] at hS ⊢
                clear hbxe
                have hS1 := vr_keep hS (show Below _ _ (World.drew _) from (Below.refl _ _).drew)
                have hpc2 : World.cell? (World.drew (World.alloc wr (.cells #[.int .i64 m.id, .int .i64 m.addr, .bool m.spare, .bool m.told] 32))) ⟨b, off + k1 * 4, none⟩ = some (.int .i64 pid) := keepc' hpc (show Below _ _ (World.drew _) from (below_av wr m).drew)
                replace hS := And.intro hS1.1 (And.intro hS1.2.1 (And.intro hS1.2.2.1 (And.intro hS1.2.2.2 hpc2)))
                clear hS1 hpc2
                refine wp_region_held_drew (S := fun W => W.cell? ⟨bx, 0, none⟩ = some (.int .i64 m.id) ∧ W.cell? ⟨bx, 1, none⟩ = some (.int .i64 m.addr) ∧ RdV W (.slice (some ⟨b, off, none⟩) ms.length c) ms ∧ Below w.heap.size w W ∧ W.cell? ⟨b, off + k1 * 4, none⟩ = some (.int .i64 pid)) (by kernel_rfl) hS (fun hHeld => ?_)
                refine take_yes (i := 0) (oi := { dst := some 19, op := Op.fieldAddr 32 (Operand.tmp 4) 0, type := 0, pos := "l11_addrs.go:11", after := #[], guard := none }) (v := .pointer (some ⟨bx, 0, none⟩)) rfl (by kernel_rfl) (by kernel_rfl) (by kernel_rfl) (fun _ _ _ h => h) (by rfl) (fun w hSw => by (try dsimp only at hSw); go_simp) (by assumption) ?_
                try simp only [Act.put, List.setIfInBounds_toArray, List.set_cons_zero, List.set_cons_succ]
                refine take_yes (i := 1) (oi := { dst := some 20, op := Op.load 3 (Operand.tmp 19), type := 3, pos := "l11_addrs.go:11", after := #[{ on := 0, ground := Ground.data }], guard := none }) (v := .int .i64 m.id) rfl (by kernel_rfl) (by kernel_rfl) (by kernel_rfl) (fun _ _ _ h => h) (by rfl) (fun w hSw => by (try dsimp only at hSw); go_simp) (by assumption) ?_
                try simp only [Act.put, List.setIfInBounds_toArray, List.set_cons_zero, List.set_cons_succ]
                refine wpAnyH_ready (rs := [2]) (by kernel_rfl) (by simp) ?_
                refine AllReadyH.cons (o := { dst := some 21, op := Op.call { callee := Callee.value (Operand.func 36), args := #[Operand.tmp 20, Operand.const (Value.int IntKind.i64 0), Operand.const (Value.int IntKind.i64 255)], argTypes := #[3, 3, 3] }, type := 4, pos := "l11_addrs.go:11", after := #[{ on := 1, ground := Ground.data }], guard := none }) rfl (fun K hK => ?_) AllReadyH.nil
                go_simp
                with_reducible refine (cW _).mono ?_
                rintro e w9 ⟨rfl, rfl⟩
                refine hK.out _ _ hHeld (fun hHeldN => ?_)
                clear hK K hHeld
                have hHeld := hHeldN
                clear hHeldN
                try simp only [Act.put, List.setIfInBounds_toArray, List.set_cons_zero, List.set_cons_succ]
                refine take_yes (i := 3) (oi := { dst := some 22, op := Op.unOp UnOp.not 4 (Operand.tmp 21), type := 4, pos := "l11_addrs.go:11", after := #[{ on := 2, ground := Ground.data }], guard := none }) (v := .bool false) rfl (by kernel_rfl) (by kernel_rfl) (by kernel_rfl) (fun _ _ _ h => h) (by rfl) (fun w hSw => by (try dsimp only at hSw); go_simp) (by assumption) ?_
                try simp only [Act.put, List.setIfInBounds_toArray, List.set_cons_zero, List.set_cons_succ]
                refine take_yes (i := 4) (oi := { dst := some 23, op := Op.move (Operand.tmp 22), type := 4, pos := "l11_addrs.go:11", after := #[{ on := 3, ground := Ground.data }, { on := 2, ground := Ground.chain }], guard := none }) (v := .bool false) rfl (by kernel_rfl) (by kernel_rfl) (by kernel_rfl) (fun _ _ _ h => h) (by rfl) (fun w hSw => by (try dsimp only at hSw); go_simp) (by assumption) ?_
                try simp only [Act.put, List.setIfInBounds_toArray, List.set_cons_zero, List.set_cons_succ]
                refine take_yes (i := 5) (oi := { dst := some 24, op := Op.fieldAddr 32 (Operand.tmp 4) 1, type := 0, pos := "l11_addrs.go:11", after := #[{ on := 4, ground := Ground.guard }], guard := some (4, false) }) (v := .pointer (some ⟨bx, 1, none⟩)) rfl (by kernel_rfl) (by kernel_rfl) (by kernel_rfl) (fun _ _ _ h => h) (by rfl) (fun w hSw => by (try dsimp only at hSw); go_simp) (by assumption) ?_
                try simp only [Act.put, List.setIfInBounds_toArray, List.set_cons_zero, List.set_cons_succ]
                refine take_yes (i := 6) (oi := { dst := some 25, op := Op.load 3 (Operand.tmp 24), type := 3, pos := "l11_addrs.go:11", after := #[{ on := 5, ground := Ground.data }, { on := 4, ground := Ground.guard }], guard := some (4, false) }) (v := .int .i64 m.addr) rfl (by kernel_rfl) (by kernel_rfl) (by kernel_rfl) (fun _ _ _ h => h) (by rfl) (fun w hSw => by (try dsimp only at hSw); go_simp) (by assumption) ?_
                try simp only [Act.put, List.setIfInBounds_toArray, List.set_cons_zero, List.set_cons_succ]
                refine wpAnyH_ready (rs := [7]) (by kernel_rfl) (by simp) ?_
                refine AllReadyH.cons (o := { dst := some 26, op := Op.call { callee := Callee.value (Operand.func 36), args := #[Operand.tmp 25, Operand.const (Value.int IntKind.i64 1), Operand.const (Value.int IntKind.i64 65535)], argTypes := #[3, 3, 3] }, type := 4, pos := "l11_addrs.go:11", after := #[{ on := 6, ground := Ground.data }, { on := 4, ground := Ground.chain }, { on := 4, ground := Ground.guard }], guard := some (4, false) }) rfl (fun K hK => ?_) AllReadyH.nil
                go_simp
                with_reducible refine (cA _).mono ?_
                rintro e w9 ⟨rfl, rfl⟩
                refine hK.out _ _ hHeld (fun hHeldN => ?_)
                clear hK K hHeld
                have hHeld := hHeldN
                clear hHeldN
                try simp only [Act.put, List.setIfInBounds_toArray, List.set_cons_zero, List.set_cons_succ]
                refine take_yes (i := 8) (oi := { dst := some 27, op := Op.unOp UnOp.not 4 (Operand.tmp 26), type := 4, pos := "l11_addrs.go:11", after := #[{ on := 7, ground := Ground.data }, { on := 4, ground := Ground.guard }], guard := some (4, false) }) (v := .bool false) rfl (by kernel_rfl) (by kernel_rfl) (by kernel_rfl) (fun _ _ _ h => h) (by rfl) (fun w hSw => by (try dsimp only at hSw); go_simp) (by assumption) ?_
                try simp only [Act.put, List.setIfInBounds_toArray, List.set_cons_zero, List.set_cons_succ]
                refine take_yes (i := 9) (oi := { dst := some 28, op := Op.pick (Operand.tmp 23) (Operand.const (Value.bool true)) (Operand.tmp 27), type := 4, pos := "l11_addrs.go:11", after := #[{ on := 4, ground := Ground.data }, { on := 8, ground := Ground.data }], guard := none }) (v := .bool false) rfl (by kernel_rfl) (by kernel_rfl) (by kernel_rfl) (fun _ _ _ h => h) (by rfl) (fun w hSw => by (try dsimp only at hSw); go_simp) (by assumption) ?_
                try simp only [Act.put, List.setIfInBounds_toArray, List.set_cons_zero, List.set_cons_succ]
                refine take_yes (i := 10) (oi := { dst := some 29, op := Op.move (Operand.tmp 28), type := 4, pos := "l11_addrs.go:11", after := #[{ on := 9, ground := Ground.data }, { on := 7, ground := Ground.chain }], guard := none }) (v := .bool false) rfl (by kernel_rfl) (by kernel_rfl) (by kernel_rfl) (fun _ _ _ h => h) (by rfl) (fun w hSw => by (try dsimp only at hSw); go_simp) (by assumption) ?_
                try simp only [Act.put, List.setIfInBounds_toArray, List.set_cons_zero, List.set_cons_succ]
                refine take_yes (i := 11) (oi := { dst := some 30, op := Op.move (Operand.tmp 3), type := 3, pos := "l11_addrs.go:11", after := #[{ on := 10, ground := Ground.guard }], guard := some (10, false) }) (v := .int .i64 (k : Int)) rfl (by kernel_rfl) (by kernel_rfl) (by kernel_rfl) (fun _ _ _ h => h) (by rfl) (fun w hSw => by (try dsimp only at hSw); go_simp) (by assumption) ?_
                try simp only [Act.put, List.setIfInBounds_toArray, List.set_cons_zero, List.set_cons_succ]
                refine take_yes (i := 12) (oi := { dst := some 31, op := Op.binOp BinOp.gtr 3 (Operand.tmp 30) (Operand.const (Value.int IntKind.i64 0)) 3, type := 4, pos := "l11_addrs.go:11", after := #[{ on := 11, ground := Ground.data }, { on := 10, ground := Ground.guard }], guard := some (10, false) }) (v := .bool true) rfl (by kernel_rfl) (by kernel_rfl) (by kernel_rfl) (fun _ _ _ h => h) (by rfl) (fun w hSw => by (try dsimp only at hSw); go_simp) (by assumption) ?_
                try simp only [Act.put, List.setIfInBounds_toArray, List.set_cons_zero, List.set_cons_succ]
                refine take_yes (i := 13) (oi := { dst := some 32, op := Op.move (Operand.tmp 31), type := 4, pos := "l11_addrs.go:11", after := #[{ on := 12, ground := Ground.data }, { on := 10, ground := Ground.chain }, { on := 10, ground := Ground.guard }], guard := some (10, false) }) (v := .bool true) rfl (by kernel_rfl) (by kernel_rfl) (by kernel_rfl) (fun _ _ _ h => h) (by rfl) (fun w hSw => by (try dsimp only at hSw); go_simp) (by assumption) ?_
                try simp only [Act.put, List.setIfInBounds_toArray, List.set_cons_zero, List.set_cons_succ]
                refine take_yes (i := 14) (oi := { dst := some 33, op := Op.move (Operand.tmp 0), type := 26, pos := "l11_addrs.go:11", after := #[{ on := 13, ground := Ground.guard }], guard := some (13, true) }) (v := .slice (some ⟨b, off, none⟩) ms.length c) rfl (by kernel_rfl) (by kernel_rfl) (by kernel_rfl) (fun _ _ _ h => h) (by rfl) (fun w hSw => by (try dsimp only at hSw); go_simp) (by assumption) ?_
                try simp only [Act.put, List.setIfInBounds_toArray, List.set_cons_zero, List.set_cons_succ]
                refine take_yes (i := 15) (oi := { dst := some 34, op := Op.move (Operand.tmp 3), type := 3, pos := "l11_addrs.go:11", after := #[{ on := 13, ground := Ground.guard }], guard := some (13, true) }) (v := .int .i64 (k : Int)) rfl (by kernel_rfl) (by kernel_rfl) (by kernel_rfl) (fun _ _ _ h => h) (by rfl) (fun w hSw => by (try dsimp only at hSw); go_simp) (by assumption) ?_
                try simp only [Act.put, List.setIfInBounds_toArray, List.set_cons_zero, List.set_cons_succ]
                refine take_yes (i := 16) (oi := { dst := some 35, op := Op.binOp BinOp.sub 3 (Operand.tmp 34) (Operand.const (Value.int IntKind.i64 1)) 3, type := 3, pos := "l11_addrs.go:11", after := #[{ on := 15, ground := Ground.data }, { on := 13, ground := Ground.guard }], guard := some (13, true) }) (v := .int .i64 (k1 : Int)) rfl (by kernel_rfl) (by kernel_rfl) (by kernel_rfl) (fun _ _ _ h => h) (by rfl) (fun w hSw => by (try dsimp only at hSw); go_simp) (by assumption) ?_
                try simp only [Act.put, List.setIfInBounds_toArray, List.set_cons_zero, List.set_cons_succ]
                refine take_yes (i := 17) (oi := { dst := some 36, op := Op.indexAddr 26 (Operand.tmp 33) (Operand.tmp 35), type := 0, pos := "l11_addrs.go:11", after := #[{ on := 14, ground := Ground.data }, { on := 16, ground := Ground.data }, { on := 13, ground := Ground.guard }], guard := some (13, true) }) (v := .pointer (some ⟨b, off + k1 * 4, none⟩)) rfl (by kernel_rfl) (by kernel_rfl) (by kernel_rfl) (fun _ _ _ h => h) (by rfl) (fun w hSw => by (try dsimp only at hSw); go_simp) (by assumption) ?_
                try simp only [Act.put, List.setIfInBounds_toArray, List.set_cons_zero, List.set_cons_succ]
                refine take_yes (i := 18) (oi := { dst := some 37, op := Op.fieldAddr 32 (Operand.tmp 36) 0, type := 0, pos := "l11_addrs.go:11", after := #[{ on := 17, ground := Ground.data }, { on := 13, ground := Ground.guard }], guard := some (13, true) }) (v := .pointer (some ⟨b, off + k1 * 4, none⟩)) rfl (by kernel_rfl) (by kernel_rfl) (by kernel_rfl) (fun _ _ _ h => h) (by rfl) (fun w hSw => by (try dsimp only at hSw); go_simp) (by assumption) ?_
                try simp only [Act.put, List.setIfInBounds_toArray, List.set_cons_zero, List.set_cons_succ]
                refine take_yes (i := 19) (oi := { dst := some 38, op := Op.load 3 (Operand.tmp 37), type := 3, pos := "l11_addrs.go:11", after := #[{ on := 18, ground := Ground.data }, { on := 13, ground := Ground.guard }], guard := some (13, true) }) (v := .int .i64 pid) rfl (by kernel_rfl) (by kernel_rfl) (by kernel_rfl) (fun _ _ _ h => h) (by rfl) (fun w hSw => by (try dsimp only at hSw); go_simp) (by assumption) ?_
                try simp only [Act.put, List.setIfInBounds_toArray, List.set_cons_zero, List.set_cons_succ]
                refine take_yes (i := 20) (oi := { dst := some 39, op := Op.fieldAddr 32 (Operand.tmp 4) 0, type := 0, pos := "l11_addrs.go:11", after := #[{ on := 13, ground := Ground.guard }], guard := some (13, true) }) (v := .pointer (some ⟨bx, 0, none⟩)) rfl (by kernel_rfl) (by kernel_rfl) (by kernel_rfl) (fun _ _ _ h => h) (by rfl) (fun w hSw => by (try dsimp only at hSw); go_simp) (by assumption) ?_
                try simp only [Act.put, List.setIfInBounds_toArray, List.set_cons_zero, List.set_cons_succ]
                refine take_yes (i := 21) (oi := { dst := some 40, op := Op.load 3 (Operand.tmp 39), type := 3, pos := "l11_addrs.go:11", after := #[{ on := 20, ground := Ground.data }, { on := 13, ground := Ground.guard }], guard := some (13, true) }) (v := .int .i64 m.id) rfl (by kernel_rfl) (by kernel_rfl) (by kernel_rfl) (fun _ _ _ h => h) (by rfl) (fun w hSw => by (try dsimp only at hSw); go_simp) (by assumption) ?_
                try simp only [Act.put, List.setIfInBounds_toArray, List.set_cons_zero, List.set_cons_succ]
                refine take_yes (i := 22) (oi := { dst := some 41, op := Op.binOp BinOp.geq 3 (Operand.tmp 38) (Operand.tmp 40) 3, type := 4, pos := "l11_addrs.go:11", after := #[{ on := 19, ground := Ground.data }, { on := 21, ground := Ground.data }, { on := 13, ground := Ground.guard }], guard := some (13, true) }) (v := .bool false) rfl (by kernel_rfl) (by kernel_rfl) (by kernel_rfl) (fun _ _ _ h => h) (by rfl) (fun w hSw => by (try dsimp only at hSw); go_simp) (by assumption) ?_
                try simp only [Act.put, List.setIfInBounds_toArray, List.set_cons_zero, List.set_cons_succ]
                refine take_yes (i := 23) (oi := { dst := some 42, op := Op.pick (Operand.tmp 32) (Operand.tmp 41) (Operand.const (Value.bool false)), type := 4, pos := "l11_addrs.go:11", after := #[{ on := 13, ground := Ground.data }, { on := 22, ground := Ground.data }, { on := 10, ground := Ground.guard }], guard := some (10, false) }) (v := .bool false) rfl (by kernel_rfl) (by kernel_rfl) (by kernel_rfl) (fun _ _ _ h => h) (by rfl) (fun w hSw => by (try dsimp only at hSw); go_simp) (by assumption) ?_
                try simp only [Act.put, List.setIfInBounds_toArray, List.set_cons_zero, List.set_cons_succ]
                refine take_yes (i := 24) (oi := { dst := some 43, op := Op.pick (Operand.tmp 29) (Operand.const (Value.bool true)) (Operand.tmp 42), type := 4, pos := "l11_addrs.go:11", after := #[{ on := 10, ground := Ground.data }, { on := 23, ground := Ground.data }], guard := none }) (v := .bool false) rfl (by kernel_rfl) (by kernel_rfl) (by kernel_rfl) (fun _ _ _ h => h) (by rfl) (fun w hSw => by (try dsimp only at hSw); go_simp) (by assumption) ?_
                try simp only [Act.put, List.setIfInBounds_toArray, List.set_cons_zero, List.set_cons_succ]
                refine wpAnyH_done (by kernel_rfl) ?_ _
                have hHeld2 := hHeld
                clear hHeld
                obtain ⟨f0, f1, f2, f3, -⟩ := hHeld2
                clear cW cA k0 k1' k2 k3 e1 hpc
                go_wp2_with (fail)
                go_loopw [5] (fun i wr => ∃ j : Nat, j ≤ k ∧ i = .int .i64 j ∧ (∀ i (_ : i < j) (h : i < ms.length), ms[i].addr ≠ m.addr) ∧ wr.cell? ⟨bx, 1, none⟩ = some (.int .i64 m.addr) ∧ RdV wr (.slice (some ⟨b, off, none⟩) ms.length c) ms ∧ Below w.heap.size w wr) (fun i _ => k - (intOf i).toNat)
                case atStart => exact ⟨0, by omega, rfl, fun i hi => by omega, f1, f2, f3⟩
                case round =>
                  clear f0 f1 f2 f3
                  obtain ⟨j, hj, rfl, hne, f1, f2, f3⟩ := hrel
                  by_cases hjk : j < k
                  · have qj : (0 : Int) ≤ (j : Int) ∧ (j : Int) < (ms.length : Int) ∧ (j : Int) < (k : Int) := by omega
                    obtain ⟨b2, off2, ha2, -, -, j1, -⟩ := av_at (P := Try.prog) f2 j (by omega)
                    injection ha2 with ha2
                    injection ha2 with ha2 ha3
                    subst ha2 ha3
                    obtain ⟨x, hx⟩ : ∃ x, ms[j].addr = x := ⟨_, rfl⟩
                    rw [hx] at j1
                    have HX := Lib.hid (And.intro hx (And.intro hne (And.intro f2 f3)))
                    clear hx hne f2 f3
                    by_cases hxe : x = m.addr
                    · subst hxe
                      have hmem : m.addr ∈ (ms.take k).map (·.addr) := by
                        refine List.mem_map.2 ⟨ms[j], ?_, HX.out.1⟩
                        rw [List.mem_iff_getElem]
                        exact ⟨j, by rw [List.length_take]; omega, by rw [List.getElem_take]⟩
                      have hr2 := HR.out
                      rw [decide_eq_true hmem] at hr2
                      simp only [Bool.not_true, Bool.false_and] at hr2
                      obtain rfl : false = res := hr2
                      clear hmem
                      go_wp2_with (fail)
                      go_quiet (fail)
                      go_wp2_with (fail)
                      go_ret
                      exact ⟨rfl, Below.then_ HX.out.2.2.2 (below_dN _ _)⟩
                    · have hxe2 : (x == m.addr) = false := by simpa using hxe
                      go_wp2_with (fail)
                      go_quiet (fail)
                      go_wp2_with (fail)
                      go_roundw
                      case rel =>
                        refine ⟨j + 1, by omega, by go_num, fun i hi hl => ?_, f1, HX.out.2.2.1.drewN, Below.then_ HX.out.2.2.2 (below_dN _ _)⟩
                        by_cases hij : i = j
                        · subst hij
                          rw [HX.out.1]
                          exact hxe
                        · exact HX.out.2.1 i (by omega) hl
                      case measure => simp [intOf]; omega
                  · obtain rfl : j = k := by omega
                    have qj : ¬ (j : Int) < (j : Int) := by omega
                    have hmem : m.addr ∉ (ms.take j).map (·.addr) := fun hm => by
                      obtain ⟨y, hy, he⟩ := List.mem_map.1 hm
                      obtain ⟨i, hi, rfl⟩ := List.mem_iff_getElem.1 hy
                      rw [List.length_take] at hi
                      rw [List.getElem_take] at he
                      exact hne i (by omega) (by omega) he
                    have hr2 := HR.out
                    rw [decide_eq_false hmem] at hr2
                    simp only [Bool.not_false, Bool.true_and] at hr2
                    have HQ := Lib.hid (And.intro hr2 (And.intro f2 f3))
                    clear hr2 f2 f3 f1 hmem hne HR
                    go_wp2_with (fail)
                    go_roundw
                    case rel => exact ⟨j + 1, m.id + 1, by omega, by go_num, ⟨by omega, fun h => by omega, fun _ hl => HM.out.2 hl⟩, by rw [HAT.out]; exact HQ.out.1, HQ.out.2.1, HQ.out.2.2⟩
                    case measure => simp [intOf]; omega
              · rw [decide_eq_false (show ¬ (z ≤ m.id ∧ m.id ≤ 255) by omega)] at hr
                simp only [Bool.and_false, Bool.false_and, Bool.true_and, Bool.and_self] at hr
                subst hr
                have g5 : m.id ≤ pid := by omega
                clear g1 g2 hpid
                go_wp2_with (fail)
                obtain ⟨bx, hbxe⟩ : ∃ bx, wr.heap.size = bx := ⟨_, rfl⟩
                rw [hbxe] at hS ⊢
                clear hbxe
                have hS1 := vr_keep hS (show Below _ _ (World.drew _) from (Below.refl _ _).drew)
                have hpc2 : World.cell? (World.drew (World.alloc wr (.cells #[.int .i64 m.id, .int .i64 m.addr, .bool m.spare, .bool m.told] 32))) ⟨b, off + k1 * 4, none⟩ = some (.int .i64 pid) := keepc' hpc (show Below _ _ (World.drew _) from (below_av wr m).drew)
                replace hS := And.intro hS1.1 (And.intro hS1.2.1 (And.intro hS1.2.2.1 (And.intro hS1.2.2.2 hpc2)))
                clear hS1 hpc2
                refine wp_region_held_drew (S := fun W => W.cell? ⟨bx, 0, none⟩ = some (.int .i64 m.id) ∧ W.cell? ⟨bx, 1, none⟩ = some (.int .i64 m.addr) ∧ RdV W (.slice (some ⟨b, off, none⟩) ms.length c) ms ∧ Below w.heap.size w W ∧ W.cell? ⟨b, off + k1 * 4, none⟩ = some (.int .i64 pid)) (by kernel_rfl) hS (fun hHeld => ?_)
                refine take_yes (i := 0) (oi := { dst := some 19, op := Op.fieldAddr 32 (Operand.tmp 4) 0, type := 0, pos := "l11_addrs.go:11", after := #[], guard := none }) (v := .pointer (some ⟨bx, 0, none⟩)) rfl (by kernel_rfl) (by kernel_rfl) (by kernel_rfl) (fun _ _ _ h => h) (by rfl) (fun w hSw => by (try dsimp only at hSw); go_simp) (by assumption) ?_
                try simp only [Act.put, List.setIfInBounds_toArray, List.set_cons_zero, List.set_cons_succ]
                refine take_yes (i := 1) (oi := { dst := some 20, op := Op.load 3 (Operand.tmp 19), type := 3, pos := "l11_addrs.go:11", after := #[{ on := 0, ground := Ground.data }], guard := none }) (v := .int .i64 m.id) rfl (by kernel_rfl) (by kernel_rfl) (by kernel_rfl) (fun _ _ _ h => h) (by rfl) (fun w hSw => by (try dsimp only at hSw); go_simp) (by assumption) ?_
                try simp only [Act.put, List.setIfInBounds_toArray, List.set_cons_zero, List.set_cons_succ]
                refine wpAnyH_ready (rs := [2]) (by kernel_rfl) (by simp) ?_
                refine AllReadyH.cons (o := { dst := some 21, op := Op.call { callee := Callee.value (Operand.func 36), args := #[Operand.tmp 20, Operand.const (Value.int IntKind.i64 0), Operand.const (Value.int IntKind.i64 255)], argTypes := #[3, 3, 3] }, type := 4, pos := "l11_addrs.go:11", after := #[{ on := 1, ground := Ground.data }], guard := none }) rfl (fun K hK => ?_) AllReadyH.nil
                go_simp
                with_reducible refine (cW _).mono ?_
                rintro e w9 ⟨rfl, rfl⟩
                refine hK.out _ _ hHeld (fun hHeldN => ?_)
                clear hK K hHeld
                have hHeld := hHeldN
                clear hHeldN
                try simp only [Act.put, List.setIfInBounds_toArray, List.set_cons_zero, List.set_cons_succ]
                refine take_yes (i := 3) (oi := { dst := some 22, op := Op.unOp UnOp.not 4 (Operand.tmp 21), type := 4, pos := "l11_addrs.go:11", after := #[{ on := 2, ground := Ground.data }], guard := none }) (v := .bool false) rfl (by kernel_rfl) (by kernel_rfl) (by kernel_rfl) (fun _ _ _ h => h) (by rfl) (fun w hSw => by (try dsimp only at hSw); go_simp) (by assumption) ?_
                try simp only [Act.put, List.setIfInBounds_toArray, List.set_cons_zero, List.set_cons_succ]
                refine take_yes (i := 4) (oi := { dst := some 23, op := Op.move (Operand.tmp 22), type := 4, pos := "l11_addrs.go:11", after := #[{ on := 3, ground := Ground.data }, { on := 2, ground := Ground.chain }], guard := none }) (v := .bool false) rfl (by kernel_rfl) (by kernel_rfl) (by kernel_rfl) (fun _ _ _ h => h) (by rfl) (fun w hSw => by (try dsimp only at hSw); go_simp) (by assumption) ?_
                try simp only [Act.put, List.setIfInBounds_toArray, List.set_cons_zero, List.set_cons_succ]
                refine take_yes (i := 5) (oi := { dst := some 24, op := Op.fieldAddr 32 (Operand.tmp 4) 1, type := 0, pos := "l11_addrs.go:11", after := #[{ on := 4, ground := Ground.guard }], guard := some (4, false) }) (v := .pointer (some ⟨bx, 1, none⟩)) rfl (by kernel_rfl) (by kernel_rfl) (by kernel_rfl) (fun _ _ _ h => h) (by rfl) (fun w hSw => by (try dsimp only at hSw); go_simp) (by assumption) ?_
                try simp only [Act.put, List.setIfInBounds_toArray, List.set_cons_zero, List.set_cons_succ]
                refine take_yes (i := 6) (oi := { dst := some 25, op := Op.load 3 (Operand.tmp 24), type := 3, pos := "l11_addrs.go:11", after := #[{ on := 5, ground := Ground.data }, { on := 4, ground := Ground.guard }], guard := some (4, false) }) (v := .int .i64 m.addr) rfl (by kernel_rfl) (by kernel_rfl) (by kernel_rfl) (fun _ _ _ h => h) (by rfl) (fun w hSw => by (try dsimp only at hSw); go_simp) (by assumption) ?_
                try simp only [Act.put, List.setIfInBounds_toArray, List.set_cons_zero, List.set_cons_succ]
                refine wpAnyH_ready (rs := [7]) (by kernel_rfl) (by simp) ?_
                refine AllReadyH.cons (o := { dst := some 26, op := Op.call { callee := Callee.value (Operand.func 36), args := #[Operand.tmp 25, Operand.const (Value.int IntKind.i64 1), Operand.const (Value.int IntKind.i64 65535)], argTypes := #[3, 3, 3] }, type := 4, pos := "l11_addrs.go:11", after := #[{ on := 6, ground := Ground.data }, { on := 4, ground := Ground.chain }, { on := 4, ground := Ground.guard }], guard := some (4, false) }) rfl (fun K hK => ?_) AllReadyH.nil
                go_simp
                with_reducible refine (cA _).mono ?_
                rintro e w9 ⟨rfl, rfl⟩
                refine hK.out _ _ hHeld (fun hHeldN => ?_)
                clear hK K hHeld
                have hHeld := hHeldN
                clear hHeldN
                try simp only [Act.put, List.setIfInBounds_toArray, List.set_cons_zero, List.set_cons_succ]
                refine take_yes (i := 8) (oi := { dst := some 27, op := Op.unOp UnOp.not 4 (Operand.tmp 26), type := 4, pos := "l11_addrs.go:11", after := #[{ on := 7, ground := Ground.data }, { on := 4, ground := Ground.guard }], guard := some (4, false) }) (v := .bool false) rfl (by kernel_rfl) (by kernel_rfl) (by kernel_rfl) (fun _ _ _ h => h) (by rfl) (fun w hSw => by (try dsimp only at hSw); go_simp) (by assumption) ?_
                try simp only [Act.put, List.setIfInBounds_toArray, List.set_cons_zero, List.set_cons_succ]
                refine take_yes (i := 9) (oi := { dst := some 28, op := Op.pick (Operand.tmp 23) (Operand.const (Value.bool true)) (Operand.tmp 27), type := 4, pos := "l11_addrs.go:11", after := #[{ on := 4, ground := Ground.data }, { on := 8, ground := Ground.data }], guard := none }) (v := .bool false) rfl (by kernel_rfl) (by kernel_rfl) (by kernel_rfl) (fun _ _ _ h => h) (by rfl) (fun w hSw => by (try dsimp only at hSw); go_simp) (by assumption) ?_
                try simp only [Act.put, List.setIfInBounds_toArray, List.set_cons_zero, List.set_cons_succ]
                refine take_yes (i := 10) (oi := { dst := some 29, op := Op.move (Operand.tmp 28), type := 4, pos := "l11_addrs.go:11", after := #[{ on := 9, ground := Ground.data }, { on := 7, ground := Ground.chain }], guard := none }) (v := .bool false) rfl (by kernel_rfl) (by kernel_rfl) (by kernel_rfl) (fun _ _ _ h => h) (by rfl) (fun w hSw => by (try dsimp only at hSw); go_simp) (by assumption) ?_
                try simp only [Act.put, List.setIfInBounds_toArray, List.set_cons_zero, List.set_cons_succ]
                refine take_yes (i := 11) (oi := { dst := some 30, op := Op.move (Operand.tmp 3), type := 3, pos := "l11_addrs.go:11", after := #[{ on := 10, ground := Ground.guard }], guard := some (10, false) }) (v := .int .i64 (k : Int)) rfl (by kernel_rfl) (by kernel_rfl) (by kernel_rfl) (fun _ _ _ h => h) (by rfl) (fun w hSw => by (try dsimp only at hSw); go_simp) (by assumption) ?_
                try simp only [Act.put, List.setIfInBounds_toArray, List.set_cons_zero, List.set_cons_succ]
                refine take_yes (i := 12) (oi := { dst := some 31, op := Op.binOp BinOp.gtr 3 (Operand.tmp 30) (Operand.const (Value.int IntKind.i64 0)) 3, type := 4, pos := "l11_addrs.go:11", after := #[{ on := 11, ground := Ground.data }, { on := 10, ground := Ground.guard }], guard := some (10, false) }) (v := .bool true) rfl (by kernel_rfl) (by kernel_rfl) (by kernel_rfl) (fun _ _ _ h => h) (by rfl) (fun w hSw => by (try dsimp only at hSw); go_simp) (by assumption) ?_
                try simp only [Act.put, List.setIfInBounds_toArray, List.set_cons_zero, List.set_cons_succ]
                refine take_yes (i := 13) (oi := { dst := some 32, op := Op.move (Operand.tmp 31), type := 4, pos := "l11_addrs.go:11", after := #[{ on := 12, ground := Ground.data }, { on := 10, ground := Ground.chain }, { on := 10, ground := Ground.guard }], guard := some (10, false) }) (v := .bool true) rfl (by kernel_rfl) (by kernel_rfl) (by kernel_rfl) (fun _ _ _ h => h) (by rfl) (fun w hSw => by (try dsimp only at hSw); go_simp) (by assumption) ?_
                try simp only [Act.put, List.setIfInBounds_toArray, List.set_cons_zero, List.set_cons_succ]
                refine take_yes (i := 14) (oi := { dst := some 33, op := Op.move (Operand.tmp 0), type := 26, pos := "l11_addrs.go:11", after := #[{ on := 13, ground := Ground.guard }], guard := some (13, true) }) (v := .slice (some ⟨b, off, none⟩) ms.length c) rfl (by kernel_rfl) (by kernel_rfl) (by kernel_rfl) (fun _ _ _ h => h) (by rfl) (fun w hSw => by (try dsimp only at hSw); go_simp) (by assumption) ?_
                try simp only [Act.put, List.setIfInBounds_toArray, List.set_cons_zero, List.set_cons_succ]
                refine take_yes (i := 15) (oi := { dst := some 34, op := Op.move (Operand.tmp 3), type := 3, pos := "l11_addrs.go:11", after := #[{ on := 13, ground := Ground.guard }], guard := some (13, true) }) (v := .int .i64 (k : Int)) rfl (by kernel_rfl) (by kernel_rfl) (by kernel_rfl) (fun _ _ _ h => h) (by rfl) (fun w hSw => by (try dsimp only at hSw); go_simp) (by assumption) ?_
                try simp only [Act.put, List.setIfInBounds_toArray, List.set_cons_zero, List.set_cons_succ]
                refine take_yes (i := 16) (oi := { dst := some 35, op := Op.binOp BinOp.sub 3 (Operand.tmp 34) (Operand.const (Value.int IntKind.i64 1)) 3, type := 3, pos := "l11_addrs.go:11", after := #[{ on := 15, ground := Ground.data }, { on := 13, ground := Ground.guard }], guard := some (13, true) }) (v := .int .i64 (k1 : Int)) rfl (by kernel_rfl) (by kernel_rfl) (by kernel_rfl) (fun _ _ _ h => h) (by rfl) (fun w hSw => by (try dsimp only at hSw); go_simp) (by assumption) ?_
                try simp only [Act.put, List.setIfInBounds_toArray, List.set_cons_zero, List.set_cons_succ]
                refine take_yes (i := 17) (oi := { dst := some 36, op := Op.indexAddr 26 (Operand.tmp 33) (Operand.tmp 35), type := 0, pos := "l11_addrs.go:11", after := #[{ on := 14, ground := Ground.data }, { on := 16, ground := Ground.data }, { on := 13, ground := Ground.guard }], guard := some (13, true) }) (v := .pointer (some ⟨b, off + k1 * 4, none⟩)) rfl (by kernel_rfl) (by kernel_rfl) (by kernel_rfl) (fun _ _ _ h => h) (by rfl) (fun w hSw => by (try dsimp only at hSw); go_simp) (by assumption) ?_
                try simp only [Act.put, List.setIfInBounds_toArray, List.set_cons_zero, List.set_cons_succ]
                refine take_yes (i := 18) (oi := { dst := some 37, op := Op.fieldAddr 32 (Operand.tmp 36) 0, type := 0, pos := "l11_addrs.go:11", after := #[{ on := 17, ground := Ground.data }, { on := 13, ground := Ground.guard }], guard := some (13, true) }) (v := .pointer (some ⟨b, off + k1 * 4, none⟩)) rfl (by kernel_rfl) (by kernel_rfl) (by kernel_rfl) (fun _ _ _ h => h) (by rfl) (fun w hSw => by (try dsimp only at hSw); go_simp) (by assumption) ?_
                try simp only [Act.put, List.setIfInBounds_toArray, List.set_cons_zero, List.set_cons_succ]
                refine take_yes (i := 19) (oi := { dst := some 38, op := Op.load 3 (Operand.tmp 37), type := 3, pos := "l11_addrs.go:11", after := #[{ on := 18, ground := Ground.data }, { on := 13, ground := Ground.guard }], guard := some (13, true) }) (v := .int .i64 pid) rfl (by kernel_rfl) (by kernel_rfl) (by kernel_rfl) (fun _ _ _ h => h) (by rfl) (fun w hSw => by (try dsimp only at hSw); go_simp) (by assumption) ?_
                try simp only [Act.put, List.setIfInBounds_toArray, List.set_cons_zero, List.set_cons_succ]
                refine take_yes (i := 20) (oi := { dst := some 39, op := Op.fieldAddr 32 (Operand.tmp 4) 0, type := 0, pos := "l11_addrs.go:11", after := #[{ on := 13, ground := Ground.guard }], guard := some (13, true) }) (v := .pointer (some ⟨bx, 0, none⟩)) rfl (by kernel_rfl) (by kernel_rfl) (by kernel_rfl) (fun _ _ _ h => h) (by rfl) (fun w hSw => by (try dsimp only at hSw); go_simp) (by assumption) ?_
                try simp only [Act.put, List.setIfInBounds_toArray, List.set_cons_zero, List.set_cons_succ]
                refine take_yes (i := 21) (oi := { dst := some 40, op := Op.load 3 (Operand.tmp 39), type := 3, pos := "l11_addrs.go:11", after := #[{ on := 20, ground := Ground.data }, { on := 13, ground := Ground.guard }], guard := some (13, true) }) (v := .int .i64 m.id) rfl (by kernel_rfl) (by kernel_rfl) (by kernel_rfl) (fun _ _ _ h => h) (by rfl) (fun w hSw => by (try dsimp only at hSw); go_simp) (by assumption) ?_
                try simp only [Act.put, List.setIfInBounds_toArray, List.set_cons_zero, List.set_cons_succ]
                refine take_yes (i := 22) (oi := { dst := some 41, op := Op.binOp BinOp.geq 3 (Operand.tmp 38) (Operand.tmp 40) 3, type := 4, pos := "l11_addrs.go:11", after := #[{ on := 19, ground := Ground.data }, { on := 21, ground := Ground.data }, { on := 13, ground := Ground.guard }], guard := some (13, true) }) (v := .bool true) rfl (by kernel_rfl) (by kernel_rfl) (by kernel_rfl) (fun _ _ _ h => h) (by rfl) (fun w hSw => by (try dsimp only at hSw); go_simp) (by assumption) ?_
                try simp only [Act.put, List.setIfInBounds_toArray, List.set_cons_zero, List.set_cons_succ]
                refine take_yes (i := 23) (oi := { dst := some 42, op := Op.pick (Operand.tmp 32) (Operand.tmp 41) (Operand.const (Value.bool false)), type := 4, pos := "l11_addrs.go:11", after := #[{ on := 13, ground := Ground.data }, { on := 22, ground := Ground.data }, { on := 10, ground := Ground.guard }], guard := some (10, false) }) (v := .bool true) rfl (by kernel_rfl) (by kernel_rfl) (by kernel_rfl) (fun _ _ _ h => h) (by rfl) (fun w hSw => by (try dsimp only at hSw); go_simp) (by assumption) ?_
                try simp only [Act.put, List.setIfInBounds_toArray, List.set_cons_zero, List.set_cons_succ]
                refine take_yes (i := 24) (oi := { dst := some 43, op := Op.pick (Operand.tmp 29) (Operand.const (Value.bool true)) (Operand.tmp 42), type := 4, pos := "l11_addrs.go:11", after := #[{ on := 10, ground := Ground.data }, { on := 23, ground := Ground.data }], guard := none }) (v := .bool true) rfl (by kernel_rfl) (by kernel_rfl) (by kernel_rfl) (fun _ _ _ h => h) (by rfl) (fun w hSw => by (try dsimp only at hSw); go_simp) (by assumption) ?_
                try simp only [Act.put, List.setIfInBounds_toArray, List.set_cons_zero, List.set_cons_succ]
                refine wpAnyH_done (by kernel_rfl) ?_ _
                have hHeld2 := hHeld
                clear hHeld
                have HF := Lib.hid hHeld2.2.2.2.1
                clear hHeld2 cW cA k0 k1' k2 k3
                go_wp2_with (fail)
                go_ret
                exact ⟨rfl, HF.out⟩
          · rw [decide_eq_false g2] at hr cA
            simp only [Bool.and_false, Bool.false_and, Bool.true_and, Bool.and_self] at hr
            subst hr
            clear g1 g2 hz0 hz1
            go_wp2_with (fail)
            obtain ⟨bx, hbxe⟩ : ∃ bx, wr.heap.size = bx := ⟨_, rfl⟩
            rw [hbxe] at hS ⊢
            clear hbxe
            replace hS := vr_keep hS (show Below _ _ (World.drew _) from (Below.refl _ _).drew)
            refine wp_region_held_drew (S := fun W => W.cell? ⟨bx, 0, none⟩ = some (.int .i64 m.id) ∧ W.cell? ⟨bx, 1, none⟩ = some (.int .i64 m.addr) ∧ RdV W (.slice (some ⟨b, off, none⟩) ms.length c) ms ∧ Below w.heap.size w W) (by kernel_rfl) hS (fun hHeld => ?_)
            refine take_yes (i := 0) (oi := { dst := some 19, op := Op.fieldAddr 32 (Operand.tmp 4) 0, type := 0, pos := "l11_addrs.go:11", after := #[], guard := none }) (v := .pointer (some ⟨bx, 0, none⟩)) rfl (by kernel_rfl) (by kernel_rfl) (by kernel_rfl) (fun _ _ _ h => h) (by rfl) (fun w hSw => by (try dsimp only at hSw); go_simp) (by assumption) ?_
            try simp only [Act.put, List.setIfInBounds_toArray, List.set_cons_zero, List.set_cons_succ]
            refine take_yes (i := 1) (oi := { dst := some 20, op := Op.load 3 (Operand.tmp 19), type := 3, pos := "l11_addrs.go:11", after := #[{ on := 0, ground := Ground.data }], guard := none }) (v := .int .i64 m.id) rfl (by kernel_rfl) (by kernel_rfl) (by kernel_rfl) (fun _ _ _ h => h) (by rfl) (fun w hSw => by (try dsimp only at hSw); go_simp) (by assumption) ?_
            try simp only [Act.put, List.setIfInBounds_toArray, List.set_cons_zero, List.set_cons_succ]
            refine wpAnyH_ready (rs := [2]) (by kernel_rfl) (by simp) ?_
            refine AllReadyH.cons (o := { dst := some 21, op := Op.call { callee := Callee.value (Operand.func 36), args := #[Operand.tmp 20, Operand.const (Value.int IntKind.i64 0), Operand.const (Value.int IntKind.i64 255)], argTypes := #[3, 3, 3] }, type := 4, pos := "l11_addrs.go:11", after := #[{ on := 1, ground := Ground.data }], guard := none }) rfl (fun K hK => ?_) AllReadyH.nil
            go_simp
            with_reducible refine (cW _).mono ?_
            rintro e w9 ⟨rfl, rfl⟩
            refine hK.out _ _ hHeld (fun hHeldN => ?_)
            clear hK K hHeld
            have hHeld := hHeldN
            clear hHeldN
            try simp only [Act.put, List.setIfInBounds_toArray, List.set_cons_zero, List.set_cons_succ]
            refine take_yes (i := 3) (oi := { dst := some 22, op := Op.unOp UnOp.not 4 (Operand.tmp 21), type := 4, pos := "l11_addrs.go:11", after := #[{ on := 2, ground := Ground.data }], guard := none }) (v := .bool false) rfl (by kernel_rfl) (by kernel_rfl) (by kernel_rfl) (fun _ _ _ h => h) (by rfl) (fun w hSw => by (try dsimp only at hSw); go_simp) (by assumption) ?_
            try simp only [Act.put, List.setIfInBounds_toArray, List.set_cons_zero, List.set_cons_succ]
            refine take_yes (i := 4) (oi := { dst := some 23, op := Op.move (Operand.tmp 22), type := 4, pos := "l11_addrs.go:11", after := #[{ on := 3, ground := Ground.data }, { on := 2, ground := Ground.chain }], guard := none }) (v := .bool false) rfl (by kernel_rfl) (by kernel_rfl) (by kernel_rfl) (fun _ _ _ h => h) (by rfl) (fun w hSw => by (try dsimp only at hSw); go_simp) (by assumption) ?_
            try simp only [Act.put, List.setIfInBounds_toArray, List.set_cons_zero, List.set_cons_succ]
            refine take_yes (i := 5) (oi := { dst := some 24, op := Op.fieldAddr 32 (Operand.tmp 4) 1, type := 0, pos := "l11_addrs.go:11", after := #[{ on := 4, ground := Ground.guard }], guard := some (4, false) }) (v := .pointer (some ⟨bx, 1, none⟩)) rfl (by kernel_rfl) (by kernel_rfl) (by kernel_rfl) (fun _ _ _ h => h) (by rfl) (fun w hSw => by (try dsimp only at hSw); go_simp) (by assumption) ?_
            try simp only [Act.put, List.setIfInBounds_toArray, List.set_cons_zero, List.set_cons_succ]
            refine take_yes (i := 6) (oi := { dst := some 25, op := Op.load 3 (Operand.tmp 24), type := 3, pos := "l11_addrs.go:11", after := #[{ on := 5, ground := Ground.data }, { on := 4, ground := Ground.guard }], guard := some (4, false) }) (v := .int .i64 m.addr) rfl (by kernel_rfl) (by kernel_rfl) (by kernel_rfl) (fun _ _ _ h => h) (by rfl) (fun w hSw => by (try dsimp only at hSw); go_simp) (by assumption) ?_
            try simp only [Act.put, List.setIfInBounds_toArray, List.set_cons_zero, List.set_cons_succ]
            refine wpAnyH_ready (rs := [7]) (by kernel_rfl) (by simp) ?_
            refine AllReadyH.cons (o := { dst := some 26, op := Op.call { callee := Callee.value (Operand.func 36), args := #[Operand.tmp 25, Operand.const (Value.int IntKind.i64 1), Operand.const (Value.int IntKind.i64 65535)], argTypes := #[3, 3, 3] }, type := 4, pos := "l11_addrs.go:11", after := #[{ on := 6, ground := Ground.data }, { on := 4, ground := Ground.chain }, { on := 4, ground := Ground.guard }], guard := some (4, false) }) rfl (fun K hK => ?_) AllReadyH.nil
            go_simp
            with_reducible refine (cA _).mono ?_
            rintro e w9 ⟨rfl, rfl⟩
            refine hK.out _ _ hHeld (fun hHeldN => ?_)
            clear hK K hHeld
            have hHeld := hHeldN
            clear hHeldN
            try simp only [Act.put, List.setIfInBounds_toArray, List.set_cons_zero, List.set_cons_succ]
            refine take_yes (i := 8) (oi := { dst := some 27, op := Op.unOp UnOp.not 4 (Operand.tmp 26), type := 4, pos := "l11_addrs.go:11", after := #[{ on := 7, ground := Ground.data }, { on := 4, ground := Ground.guard }], guard := some (4, false) }) (v := .bool true) rfl (by kernel_rfl) (by kernel_rfl) (by kernel_rfl) (fun _ _ _ h => h) (by rfl) (fun w hSw => by (try dsimp only at hSw); go_simp) (by assumption) ?_
            try simp only [Act.put, List.setIfInBounds_toArray, List.set_cons_zero, List.set_cons_succ]
            refine take_yes (i := 9) (oi := { dst := some 28, op := Op.pick (Operand.tmp 23) (Operand.const (Value.bool true)) (Operand.tmp 27), type := 4, pos := "l11_addrs.go:11", after := #[{ on := 4, ground := Ground.data }, { on := 8, ground := Ground.data }], guard := none }) (v := .bool true) rfl (by kernel_rfl) (by kernel_rfl) (by kernel_rfl) (fun _ _ _ h => h) (by rfl) (fun w hSw => by (try dsimp only at hSw); go_simp) (by assumption) ?_
            try simp only [Act.put, List.setIfInBounds_toArray, List.set_cons_zero, List.set_cons_succ]
            refine take_yes (i := 10) (oi := { dst := some 29, op := Op.move (Operand.tmp 28), type := 4, pos := "l11_addrs.go:11", after := #[{ on := 9, ground := Ground.data }, { on := 7, ground := Ground.chain }], guard := none }) (v := .bool true) rfl (by kernel_rfl) (by kernel_rfl) (by kernel_rfl) (fun _ _ _ h => h) (by rfl) (fun w hSw => by (try dsimp only at hSw); go_simp) (by assumption) ?_
            try simp only [Act.put, List.setIfInBounds_toArray, List.set_cons_zero, List.set_cons_succ]
            refine take_no (i := 11) (oi := { dst := some 30, op := Op.move (Operand.tmp 3), type := 3, pos := "l11_addrs.go:11", after := #[{ on := 10, ground := Ground.guard }], guard := some (10, false) }) rfl (by kernel_rfl) (by kernel_rfl) (by kernel_rfl) (fun _ _ _ h => h) (by rfl) (by assumption) ?_
            try simp only [Act.put, List.setIfInBounds_toArray, List.set_cons_zero, List.set_cons_succ]
            refine take_no (i := 12) (oi := { dst := some 31, op := Op.binOp BinOp.gtr 3 (Operand.tmp 30) (Operand.const (Value.int IntKind.i64 0)) 3, type := 4, pos := "l11_addrs.go:11", after := #[{ on := 11, ground := Ground.data }, { on := 10, ground := Ground.guard }], guard := some (10, false) }) rfl (by kernel_rfl) (by kernel_rfl) (by kernel_rfl) (fun _ _ _ h => h) (by rfl) (by assumption) ?_
            try simp only [Act.put, List.setIfInBounds_toArray, List.set_cons_zero, List.set_cons_succ]
            refine take_no (i := 13) (oi := { dst := some 32, op := Op.move (Operand.tmp 31), type := 4, pos := "l11_addrs.go:11", after := #[{ on := 12, ground := Ground.data }, { on := 10, ground := Ground.chain }, { on := 10, ground := Ground.guard }], guard := some (10, false) }) rfl (by kernel_rfl) (by kernel_rfl) (by kernel_rfl) (fun _ _ _ h => h) (by rfl) (by assumption) ?_
            try simp only [Act.put, List.setIfInBounds_toArray, List.set_cons_zero, List.set_cons_succ]
            refine take_no (i := 14) (oi := { dst := some 33, op := Op.move (Operand.tmp 0), type := 26, pos := "l11_addrs.go:11", after := #[{ on := 13, ground := Ground.guard }], guard := some (13, true) }) rfl (by kernel_rfl) (by kernel_rfl) (by kernel_rfl) (fun _ _ _ h => h) (by rfl) (by assumption) ?_
            try simp only [Act.put, List.setIfInBounds_toArray, List.set_cons_zero, List.set_cons_succ]
            refine take_no (i := 15) (oi := { dst := some 34, op := Op.move (Operand.tmp 3), type := 3, pos := "l11_addrs.go:11", after := #[{ on := 13, ground := Ground.guard }], guard := some (13, true) }) rfl (by kernel_rfl) (by kernel_rfl) (by kernel_rfl) (fun _ _ _ h => h) (by rfl) (by assumption) ?_
            try simp only [Act.put, List.setIfInBounds_toArray, List.set_cons_zero, List.set_cons_succ]
            refine take_no (i := 16) (oi := { dst := some 35, op := Op.binOp BinOp.sub 3 (Operand.tmp 34) (Operand.const (Value.int IntKind.i64 1)) 3, type := 3, pos := "l11_addrs.go:11", after := #[{ on := 15, ground := Ground.data }, { on := 13, ground := Ground.guard }], guard := some (13, true) }) rfl (by kernel_rfl) (by kernel_rfl) (by kernel_rfl) (fun _ _ _ h => h) (by rfl) (by assumption) ?_
            try simp only [Act.put, List.setIfInBounds_toArray, List.set_cons_zero, List.set_cons_succ]
            refine take_no (i := 17) (oi := { dst := some 36, op := Op.indexAddr 26 (Operand.tmp 33) (Operand.tmp 35), type := 0, pos := "l11_addrs.go:11", after := #[{ on := 14, ground := Ground.data }, { on := 16, ground := Ground.data }, { on := 13, ground := Ground.guard }], guard := some (13, true) }) rfl (by kernel_rfl) (by kernel_rfl) (by kernel_rfl) (fun _ _ _ h => h) (by rfl) (by assumption) ?_
            try simp only [Act.put, List.setIfInBounds_toArray, List.set_cons_zero, List.set_cons_succ]
            refine take_no (i := 18) (oi := { dst := some 37, op := Op.fieldAddr 32 (Operand.tmp 36) 0, type := 0, pos := "l11_addrs.go:11", after := #[{ on := 17, ground := Ground.data }, { on := 13, ground := Ground.guard }], guard := some (13, true) }) rfl (by kernel_rfl) (by kernel_rfl) (by kernel_rfl) (fun _ _ _ h => h) (by rfl) (by assumption) ?_
            try simp only [Act.put, List.setIfInBounds_toArray, List.set_cons_zero, List.set_cons_succ]
            refine take_no (i := 19) (oi := { dst := some 38, op := Op.load 3 (Operand.tmp 37), type := 3, pos := "l11_addrs.go:11", after := #[{ on := 18, ground := Ground.data }, { on := 13, ground := Ground.guard }], guard := some (13, true) }) rfl (by kernel_rfl) (by kernel_rfl) (by kernel_rfl) (fun _ _ _ h => h) (by rfl) (by assumption) ?_
            try simp only [Act.put, List.setIfInBounds_toArray, List.set_cons_zero, List.set_cons_succ]
            refine take_no (i := 20) (oi := { dst := some 39, op := Op.fieldAddr 32 (Operand.tmp 4) 0, type := 0, pos := "l11_addrs.go:11", after := #[{ on := 13, ground := Ground.guard }], guard := some (13, true) }) rfl (by kernel_rfl) (by kernel_rfl) (by kernel_rfl) (fun _ _ _ h => h) (by rfl) (by assumption) ?_
            try simp only [Act.put, List.setIfInBounds_toArray, List.set_cons_zero, List.set_cons_succ]
            refine take_no (i := 21) (oi := { dst := some 40, op := Op.load 3 (Operand.tmp 39), type := 3, pos := "l11_addrs.go:11", after := #[{ on := 20, ground := Ground.data }, { on := 13, ground := Ground.guard }], guard := some (13, true) }) rfl (by kernel_rfl) (by kernel_rfl) (by kernel_rfl) (fun _ _ _ h => h) (by rfl) (by assumption) ?_
            try simp only [Act.put, List.setIfInBounds_toArray, List.set_cons_zero, List.set_cons_succ]
            refine take_no (i := 22) (oi := { dst := some 41, op := Op.binOp BinOp.geq 3 (Operand.tmp 38) (Operand.tmp 40) 3, type := 4, pos := "l11_addrs.go:11", after := #[{ on := 19, ground := Ground.data }, { on := 21, ground := Ground.data }, { on := 13, ground := Ground.guard }], guard := some (13, true) }) rfl (by kernel_rfl) (by kernel_rfl) (by kernel_rfl) (fun _ _ _ h => h) (by rfl) (by assumption) ?_
            try simp only [Act.put, List.setIfInBounds_toArray, List.set_cons_zero, List.set_cons_succ]
            refine take_no (i := 23) (oi := { dst := some 42, op := Op.pick (Operand.tmp 32) (Operand.tmp 41) (Operand.const (Value.bool false)), type := 4, pos := "l11_addrs.go:11", after := #[{ on := 13, ground := Ground.data }, { on := 22, ground := Ground.data }, { on := 10, ground := Ground.guard }], guard := some (10, false) }) rfl (by kernel_rfl) (by kernel_rfl) (by kernel_rfl) (fun _ _ _ h => h) (by rfl) (by assumption) ?_
            try simp only [Act.put, List.setIfInBounds_toArray, List.set_cons_zero, List.set_cons_succ]
            refine take_yes (i := 24) (oi := { dst := some 43, op := Op.pick (Operand.tmp 29) (Operand.const (Value.bool true)) (Operand.tmp 42), type := 4, pos := "l11_addrs.go:11", after := #[{ on := 10, ground := Ground.data }, { on := 23, ground := Ground.data }], guard := none }) (v := .bool true) rfl (by kernel_rfl) (by kernel_rfl) (by kernel_rfl) (fun _ _ _ h => h) (by rfl) (fun w hSw => by (try dsimp only at hSw); go_simp) (by assumption) ?_
            try simp only [Act.put, List.setIfInBounds_toArray, List.set_cons_zero, List.set_cons_succ]
            refine wpAnyH_done (by kernel_rfl) ?_ _
            have hHeld2 := hHeld
            clear hHeld
            have HF := Lib.hid hHeld2.2.2.2
            clear hHeld2 cW cA k0 k1' k2 k3
            go_wp2_with (fail)
            go_ret
            exact ⟨rfl, HF.out⟩
        · rw [decide_eq_false g1] at cW
          rw [decide_eq_false (show ¬ (z ≤ m.id ∧ m.id ≤ 255) by omega)] at hr
          simp only [Bool.and_false, Bool.false_and, Bool.true_and, Bool.and_self] at hr
          subst hr
          clear g1 hz0 hz1
          go_wp2_with (fail)
          obtain ⟨bx, hbxe⟩ : ∃ bx, wr.heap.size = bx := ⟨_, rfl⟩
          rw [hbxe] at hS ⊢
          clear hbxe
          replace hS := vr_keep hS (show Below _ _ (World.drew _) from (Below.refl _ _).drew)
          refine wp_region_held_drew (S := fun W => W.cell? ⟨bx, 0, none⟩ = some (.int .i64 m.id) ∧ W.cell? ⟨bx, 1, none⟩ = some (.int .i64 m.addr) ∧ RdV W (.slice (some ⟨b, off, none⟩) ms.length c) ms ∧ Below w.heap.size w W) (by kernel_rfl) hS (fun hHeld => ?_)
          refine take_yes (i := 0) (oi := { dst := some 19, op := Op.fieldAddr 32 (Operand.tmp 4) 0, type := 0, pos := "l11_addrs.go:11", after := #[], guard := none }) (v := .pointer (some ⟨bx, 0, none⟩)) rfl (by kernel_rfl) (by kernel_rfl) (by kernel_rfl) (fun _ _ _ h => h) (by rfl) (fun w hSw => by (try dsimp only at hSw); go_simp) (by assumption) ?_
          try simp only [Act.put, List.setIfInBounds_toArray, List.set_cons_zero, List.set_cons_succ]
          refine take_yes (i := 1) (oi := { dst := some 20, op := Op.load 3 (Operand.tmp 19), type := 3, pos := "l11_addrs.go:11", after := #[{ on := 0, ground := Ground.data }], guard := none }) (v := .int .i64 m.id) rfl (by kernel_rfl) (by kernel_rfl) (by kernel_rfl) (fun _ _ _ h => h) (by rfl) (fun w hSw => by (try dsimp only at hSw); go_simp) (by assumption) ?_
          try simp only [Act.put, List.setIfInBounds_toArray, List.set_cons_zero, List.set_cons_succ]
          refine wpAnyH_ready (rs := [2]) (by kernel_rfl) (by simp) ?_
          refine AllReadyH.cons (o := { dst := some 21, op := Op.call { callee := Callee.value (Operand.func 36), args := #[Operand.tmp 20, Operand.const (Value.int IntKind.i64 0), Operand.const (Value.int IntKind.i64 255)], argTypes := #[3, 3, 3] }, type := 4, pos := "l11_addrs.go:11", after := #[{ on := 1, ground := Ground.data }], guard := none }) rfl (fun K hK => ?_) AllReadyH.nil
          go_simp
          with_reducible refine (cW _).mono ?_
          rintro e w9 ⟨rfl, rfl⟩
          refine hK.out _ _ hHeld (fun hHeldN => ?_)
          clear hK K hHeld
          have hHeld := hHeldN
          clear hHeldN
          try simp only [Act.put, List.setIfInBounds_toArray, List.set_cons_zero, List.set_cons_succ]
          refine take_yes (i := 3) (oi := { dst := some 22, op := Op.unOp UnOp.not 4 (Operand.tmp 21), type := 4, pos := "l11_addrs.go:11", after := #[{ on := 2, ground := Ground.data }], guard := none }) (v := .bool true) rfl (by kernel_rfl) (by kernel_rfl) (by kernel_rfl) (fun _ _ _ h => h) (by rfl) (fun w hSw => by (try dsimp only at hSw); go_simp) (by assumption) ?_
          try simp only [Act.put, List.setIfInBounds_toArray, List.set_cons_zero, List.set_cons_succ]
          refine take_yes (i := 4) (oi := { dst := some 23, op := Op.move (Operand.tmp 22), type := 4, pos := "l11_addrs.go:11", after := #[{ on := 3, ground := Ground.data }, { on := 2, ground := Ground.chain }], guard := none }) (v := .bool true) rfl (by kernel_rfl) (by kernel_rfl) (by kernel_rfl) (fun _ _ _ h => h) (by rfl) (fun w hSw => by (try dsimp only at hSw); go_simp) (by assumption) ?_
          try simp only [Act.put, List.setIfInBounds_toArray, List.set_cons_zero, List.set_cons_succ]
          refine take_no (i := 5) (oi := { dst := some 24, op := Op.fieldAddr 32 (Operand.tmp 4) 1, type := 0, pos := "l11_addrs.go:11", after := #[{ on := 4, ground := Ground.guard }], guard := some (4, false) }) rfl (by kernel_rfl) (by kernel_rfl) (by kernel_rfl) (fun _ _ _ h => h) (by rfl) (by assumption) ?_
          try simp only [Act.put, List.setIfInBounds_toArray, List.set_cons_zero, List.set_cons_succ]
          refine take_no (i := 6) (oi := { dst := some 25, op := Op.load 3 (Operand.tmp 24), type := 3, pos := "l11_addrs.go:11", after := #[{ on := 5, ground := Ground.data }, { on := 4, ground := Ground.guard }], guard := some (4, false) }) rfl (by kernel_rfl) (by kernel_rfl) (by kernel_rfl) (fun _ _ _ h => h) (by rfl) (by assumption) ?_
          try simp only [Act.put, List.setIfInBounds_toArray, List.set_cons_zero, List.set_cons_succ]
          refine take_no (i := 7) (oi := { dst := some 26, op := Op.call { callee := Callee.value (Operand.func 36), args := #[Operand.tmp 25, Operand.const (Value.int IntKind.i64 1), Operand.const (Value.int IntKind.i64 65535)], argTypes := #[3, 3, 3] }, type := 4, pos := "l11_addrs.go:11", after := #[{ on := 6, ground := Ground.data }, { on := 4, ground := Ground.chain }, { on := 4, ground := Ground.guard }], guard := some (4, false) }) rfl (by kernel_rfl) (by kernel_rfl) (by kernel_rfl) (fun _ _ _ h => h) (by rfl) (by assumption) ?_
          try simp only [Act.put, List.setIfInBounds_toArray, List.set_cons_zero, List.set_cons_succ]
          refine take_no (i := 8) (oi := { dst := some 27, op := Op.unOp UnOp.not 4 (Operand.tmp 26), type := 4, pos := "l11_addrs.go:11", after := #[{ on := 7, ground := Ground.data }, { on := 4, ground := Ground.guard }], guard := some (4, false) }) rfl (by kernel_rfl) (by kernel_rfl) (by kernel_rfl) (fun _ _ _ h => h) (by rfl) (by assumption) ?_
          try simp only [Act.put, List.setIfInBounds_toArray, List.set_cons_zero, List.set_cons_succ]
          refine take_yes (i := 9) (oi := { dst := some 28, op := Op.pick (Operand.tmp 23) (Operand.const (Value.bool true)) (Operand.tmp 27), type := 4, pos := "l11_addrs.go:11", after := #[{ on := 4, ground := Ground.data }, { on := 8, ground := Ground.data }], guard := none }) (v := .bool true) rfl (by kernel_rfl) (by kernel_rfl) (by kernel_rfl) (fun _ _ _ h => h) (by rfl) (fun w hSw => by (try dsimp only at hSw); go_simp) (by assumption) ?_
          try simp only [Act.put, List.setIfInBounds_toArray, List.set_cons_zero, List.set_cons_succ]
          refine take_yes (i := 10) (oi := { dst := some 29, op := Op.move (Operand.tmp 28), type := 4, pos := "l11_addrs.go:11", after := #[{ on := 9, ground := Ground.data }, { on := 7, ground := Ground.chain }], guard := none }) (v := .bool true) rfl (by kernel_rfl) (by kernel_rfl) (by kernel_rfl) (fun _ _ _ h => h) (by rfl) (fun w hSw => by (try dsimp only at hSw); go_simp) (by assumption) ?_
          try simp only [Act.put, List.setIfInBounds_toArray, List.set_cons_zero, List.set_cons_succ]
          refine take_no (i := 11) (oi := { dst := some 30, op := Op.move (Operand.tmp 3), type := 3, pos := "l11_addrs.go:11", after := #[{ on := 10, ground := Ground.guard }], guard := some (10, false) }) rfl (by kernel_rfl) (by kernel_rfl) (by kernel_rfl) (fun _ _ _ h => h) (by rfl) (by assumption) ?_
          try simp only [Act.put, List.setIfInBounds_toArray, List.set_cons_zero, List.set_cons_succ]
          refine take_no (i := 12) (oi := { dst := some 31, op := Op.binOp BinOp.gtr 3 (Operand.tmp 30) (Operand.const (Value.int IntKind.i64 0)) 3, type := 4, pos := "l11_addrs.go:11", after := #[{ on := 11, ground := Ground.data }, { on := 10, ground := Ground.guard }], guard := some (10, false) }) rfl (by kernel_rfl) (by kernel_rfl) (by kernel_rfl) (fun _ _ _ h => h) (by rfl) (by assumption) ?_
          try simp only [Act.put, List.setIfInBounds_toArray, List.set_cons_zero, List.set_cons_succ]
          refine take_no (i := 13) (oi := { dst := some 32, op := Op.move (Operand.tmp 31), type := 4, pos := "l11_addrs.go:11", after := #[{ on := 12, ground := Ground.data }, { on := 10, ground := Ground.chain }, { on := 10, ground := Ground.guard }], guard := some (10, false) }) rfl (by kernel_rfl) (by kernel_rfl) (by kernel_rfl) (fun _ _ _ h => h) (by rfl) (by assumption) ?_
          try simp only [Act.put, List.setIfInBounds_toArray, List.set_cons_zero, List.set_cons_succ]
          refine take_no (i := 14) (oi := { dst := some 33, op := Op.move (Operand.tmp 0), type := 26, pos := "l11_addrs.go:11", after := #[{ on := 13, ground := Ground.guard }], guard := some (13, true) }) rfl (by kernel_rfl) (by kernel_rfl) (by kernel_rfl) (fun _ _ _ h => h) (by rfl) (by assumption) ?_
          try simp only [Act.put, List.setIfInBounds_toArray, List.set_cons_zero, List.set_cons_succ]
          refine take_no (i := 15) (oi := { dst := some 34, op := Op.move (Operand.tmp 3), type := 3, pos := "l11_addrs.go:11", after := #[{ on := 13, ground := Ground.guard }], guard := some (13, true) }) rfl (by kernel_rfl) (by kernel_rfl) (by kernel_rfl) (fun _ _ _ h => h) (by rfl) (by assumption) ?_
          try simp only [Act.put, List.setIfInBounds_toArray, List.set_cons_zero, List.set_cons_succ]
          refine take_no (i := 16) (oi := { dst := some 35, op := Op.binOp BinOp.sub 3 (Operand.tmp 34) (Operand.const (Value.int IntKind.i64 1)) 3, type := 3, pos := "l11_addrs.go:11", after := #[{ on := 15, ground := Ground.data }, { on := 13, ground := Ground.guard }], guard := some (13, true) }) rfl (by kernel_rfl) (by kernel_rfl) (by kernel_rfl) (fun _ _ _ h => h) (by rfl) (by assumption) ?_
          try simp only [Act.put, List.setIfInBounds_toArray, List.set_cons_zero, List.set_cons_succ]
          refine take_no (i := 17) (oi := { dst := some 36, op := Op.indexAddr 26 (Operand.tmp 33) (Operand.tmp 35), type := 0, pos := "l11_addrs.go:11", after := #[{ on := 14, ground := Ground.data }, { on := 16, ground := Ground.data }, { on := 13, ground := Ground.guard }], guard := some (13, true) }) rfl (by kernel_rfl) (by kernel_rfl) (by kernel_rfl) (fun _ _ _ h => h) (by rfl) (by assumption) ?_
          try simp only [Act.put, List.setIfInBounds_toArray, List.set_cons_zero, List.set_cons_succ]
          refine take_no (i := 18) (oi := { dst := some 37, op := Op.fieldAddr 32 (Operand.tmp 36) 0, type := 0, pos := "l11_addrs.go:11", after := #[{ on := 17, ground := Ground.data }, { on := 13, ground := Ground.guard }], guard := some (13, true) }) rfl (by kernel_rfl) (by kernel_rfl) (by kernel_rfl) (fun _ _ _ h => h) (by rfl) (by assumption) ?_
          try simp only [Act.put, List.setIfInBounds_toArray, List.set_cons_zero, List.set_cons_succ]
          refine take_no (i := 19) (oi := { dst := some 38, op := Op.load 3 (Operand.tmp 37), type := 3, pos := "l11_addrs.go:11", after := #[{ on := 18, ground := Ground.data }, { on := 13, ground := Ground.guard }], guard := some (13, true) }) rfl (by kernel_rfl) (by kernel_rfl) (by kernel_rfl) (fun _ _ _ h => h) (by rfl) (by assumption) ?_
          try simp only [Act.put, List.setIfInBounds_toArray, List.set_cons_zero, List.set_cons_succ]
          refine take_no (i := 20) (oi := { dst := some 39, op := Op.fieldAddr 32 (Operand.tmp 4) 0, type := 0, pos := "l11_addrs.go:11", after := #[{ on := 13, ground := Ground.guard }], guard := some (13, true) }) rfl (by kernel_rfl) (by kernel_rfl) (by kernel_rfl) (fun _ _ _ h => h) (by rfl) (by assumption) ?_
          try simp only [Act.put, List.setIfInBounds_toArray, List.set_cons_zero, List.set_cons_succ]
          refine take_no (i := 21) (oi := { dst := some 40, op := Op.load 3 (Operand.tmp 39), type := 3, pos := "l11_addrs.go:11", after := #[{ on := 20, ground := Ground.data }, { on := 13, ground := Ground.guard }], guard := some (13, true) }) rfl (by kernel_rfl) (by kernel_rfl) (by kernel_rfl) (fun _ _ _ h => h) (by rfl) (by assumption) ?_
          try simp only [Act.put, List.setIfInBounds_toArray, List.set_cons_zero, List.set_cons_succ]
          refine take_no (i := 22) (oi := { dst := some 41, op := Op.binOp BinOp.geq 3 (Operand.tmp 38) (Operand.tmp 40) 3, type := 4, pos := "l11_addrs.go:11", after := #[{ on := 19, ground := Ground.data }, { on := 21, ground := Ground.data }, { on := 13, ground := Ground.guard }], guard := some (13, true) }) rfl (by kernel_rfl) (by kernel_rfl) (by kernel_rfl) (fun _ _ _ h => h) (by rfl) (by assumption) ?_
          try simp only [Act.put, List.setIfInBounds_toArray, List.set_cons_zero, List.set_cons_succ]
          refine take_no (i := 23) (oi := { dst := some 42, op := Op.pick (Operand.tmp 32) (Operand.tmp 41) (Operand.const (Value.bool false)), type := 4, pos := "l11_addrs.go:11", after := #[{ on := 13, ground := Ground.data }, { on := 22, ground := Ground.data }, { on := 10, ground := Ground.guard }], guard := some (10, false) }) rfl (by kernel_rfl) (by kernel_rfl) (by kernel_rfl) (fun _ _ _ h => h) (by rfl) (by assumption) ?_
          try simp only [Act.put, List.setIfInBounds_toArray, List.set_cons_zero, List.set_cons_succ]
          refine take_yes (i := 24) (oi := { dst := some 43, op := Op.pick (Operand.tmp 29) (Operand.const (Value.bool true)) (Operand.tmp 42), type := 4, pos := "l11_addrs.go:11", after := #[{ on := 10, ground := Ground.data }, { on := 23, ground := Ground.data }], guard := none }) (v := .bool true) rfl (by kernel_rfl) (by kernel_rfl) (by kernel_rfl) (fun _ _ _ h => h) (by rfl) (fun w hSw => by (try dsimp only at hSw); go_simp) (by assumption) ?_
          try simp only [Act.put, List.setIfInBounds_toArray, List.set_cons_zero, List.set_cons_succ]
          refine wpAnyH_done (by kernel_rfl) ?_ _
          have hHeld2 := hHeld
          clear hHeld
          have HF := Lib.hid hHeld2.2.2.2
          clear hHeld2 cW cA k0 k1' k2 k3
          go_wp2_with (fail)
          go_ret
          exact ⟨rfl, HF.out⟩
      · obtain rfl : k = ms.length := by omega
        have q : ¬ (ms.length : Int) < (ms.length : Int) := by omega
        rw [List.drop_length] at hr
        obtain rfl : true = res := hr
        clear hR hz0 hz1
        go_wp2_with (fail)
        go_ret
        exact ⟨rfl, hB⟩
end Go.Proofs.Ytmokepopmfcdnaa
