import Derived.Test.YtmokepopmfcdnaaRok
import Derived.Lib.MinMax
namespace Go.Proofs.Ytmokepopmfcdnaa
open Go.RowKit

/-- s[:m] of a row of one's own. -/
theorem OwnE.cut_first {α : Type} {K : EK α} {tS : TypeId} (hS : Try.prog.underlying tS = some (.slice K.t)) {W : World} {B C c : Nat} {a : Option Addr} {xs : List α} (h : OwnE K W B C (.slice a xs.length c) xs) (h0 : 0 < xs.length) (m : Nat) (hm : m ≤ xs.length) :
    ∃ a', (∀ W', (Instr.slice tS (.slice a xs.length c) none (some (.int .i64 (m : Int))) none).run Try.prog W' = .ok (.slice a' m c) W') ∧ OwnE K W B C (.slice a' m c) (xs.take m) := by
  obtain ⟨i0, hq, -, hz1, -⟩ := einfo K
  obtain ⟨a2, c2, he, hc⟩ := h.lie.form
  injection he with e1 e2 e3
  subst e3
  obtain ⟨a3, c3, he, hg⟩ := h.form
  injection he with e4 e5 e6
  obtain ⟨g, rfl, -, -⟩ := hg h0
  subst e4
  refine ⟨some ⟨g, 0, none⟩, fun W' => ?_, h.firsts m hm⟩
  have h2 : (0 : Int) ≤ (m : Int) ∧ (m : Int) ≤ (c : Int) := by omega
  have h3 : m ≤ c := by omega
  have h4 : c ≠ 0 := by omega
  simp [Instr.slice, run_underlying hS, Instr.sliceBounds, Instr.sliceBound, asIntOf, h2, h3, h4, sizeOf, typeInfo, hq, Addr.add_mid]

/-- A store of a whole struct, at a step of a region that draws its order. -/
theorem step_store_mid {ops : Array Oper} {o : Oper} {a : Act} {W : World} {K' : Act → World → Prop} {Q : Exit → Act → World → Prop} {E : Prop} (hgd : o.guard = none) (ty : TypeId) (x y : Operand) (ho : o.op = .store ty x y)
    (b i : Nat) (cells : Array Value) (hx : a.eval x = .pointer (some ⟨b, i, none⟩)) (hy : a.eval y = .agg cells)
    (ht : W.there b i cells.size) (hi : (Try.prog.info? ty).map (·.size) = some cells.size) (h1 : cells.all (·.oneCell') = true)
    (h : K' (a.put o.dst undef) (W.setCells b i cells.toList)) :
    if Region.wanted o (yielded ops a.tmps) = true then Oper.wp Try.prog o a W K' Q else E := by
  have hw : Region.wanted o (yielded ops a.tmps) = true := by simp [Region.wanted, hgd]
  rw [if_pos hw]
  exact wp_store_mid ty x y ho b i cells hx hy ht hi h1 h

theorem ports_set (x y : Int) (n k : Nat) (h : k < n) : (portsR x y k ++ List.replicate (n - k) rvK.zero).set k ⟨x, y, (k : Int)⟩ = portsR x y (k + 1) ++ List.replicate (n - (k + 1)) rvK.zero := by
  have e : n - k = (n - (k + 1)) + 1 := by omega
  rw [e, List.replicate_succ, List.set_append_right _ _ (by rw [ports_len]; omega), ports_len, Nat.sub_self, List.set_cons_zero, ports_succ, List.append_assoc]
  rfl

set_option maxRecDepth 100000 in
set_option maxHeartbeats 2000000 in
theorem impl_mesh (v v2 : Value) (os fs : List Av) (w : World) (hv : RdV w v os) (hv2 : RdV w v2 fs) (h1 : 1 ≤ os.length ∧ os.length ≤ 6) (h2 : 1 ≤ fs.length ∧ fs.length ≤ 6) :
    Calls Try.prog 47 #[v, v2] w fun e w' => ∃ u, e = .returned u ∧ OwnR w' w.heap.size w'.heap.size u ((meshR os fs).take 8) ∧ Below w.heap.size w w' := by
  obtain ⟨a, c, rfl⟩ := hv.form
  obtain ⟨a2, c2, rfl⟩ := hv2.form
  generalize hR : (meshR os fs).take 8 = R
  have HR := Lib.hid hR
  clear hR
  have hO0 : OwnR w w.heap.size w.heap.size (.slice none 0 0) (meshR (os.take 0) fs) := OwnE.nil
  have hB0 := Below.refl w.heap.size w
  go_enter Try.func47, Try.ntmps47
  go_wp2_with (fail)
  go_loopw [5, 12] (fun u i wr => ∃ k : Nat, k ≤ os.length ∧ i = .int .i64 k ∧ OwnR wr w.heap.size wr.heap.size u (meshR (os.take k) fs) ∧ Below w.heap.size w wr) (fun _ i _ => os.length - (intOf i).toNat)
  case atStart => exact ⟨0, by omega, rfl, hO0, hB0⟩
  case round =>
    clear hO0 hB0
    obtain ⟨k, hk, rfl, hO, hB⟩ := hrel
    by_cases hlt : k < os.length
    · have q : (0 : Int) ≤ (k : Int) ∧ (k : Int) < (os.length : Int) := by omega
      obtain ⟨b, off, ha, hb, k0, k1, k2, k3, -⟩ := av_at (P := Try.prog) (hv.below hB) k hlt
      subst ha
      have hst := mesh_take os fs k hlt
      have hlen := mesh_len (os.take k) fs
      rw [List.length_take] at hlen
      have hle : (meshR (os.take k) fs).length ≤ 36 := by
        have : min k os.length * fs.length ≤ 6 * 6 := Nat.mul_le_mul (by omega) (by omega)
        omega
      generalize os[k] = m at *
      have HM := Lib.hid hst
      clear hst hlen
      generalize meshR (os.take k) fs = L at *
      have hbx := below_av wr m
      have hC := (cel4a (Cel.new wr 32 #[.int .i64 m.id, .int .i64 m.addr, .bool m.spare, .bool m.told])).2.1
      have HX := Lib.hid (And.intro (hO.full hbx) (And.intro (Below.then_ hB hbx) hC))
      obtain ⟨ua, uc, rfl, -⟩ := hO.form
      have HA0 := Lib.hid (show (Value.slice ua L.length uc).ownBlock ≠ some wr.heap.size from fun e => absurd (hO.block _ e).2 (Nat.lt_irrefl _))
      clear hO hB hbx hC
      go_wp2_with (fail)
      generalize wr.heap.size = bx at *
      go_loopw [5, 18] (fun u i wr => ∃ j : Nat, j ≤ fs.length ∧ i = .int .i64 j ∧ OwnR wr w.heap.size wr.heap.size u (L ++ rowR m (fs.take j)) ∧ Below w.heap.size w wr ∧ wr.cell? ⟨bx, 1, none⟩ = some (.int .i64 m.addr) ∧ u.ownBlock ≠ some bx) (fun _ i _ => fs.length - (intOf i).toNat)
      case atStart => exact ⟨0, by omega, rfl, by rw [List.take_zero]; simpa [rowR] using HX.out.1, HX.out.2.1, HX.out.2.2, HA0.out⟩
      case round =>
        clear HX k0 k1 k2 k3 hb
        obtain ⟨j, hj, rfl, hO, hB, hC, hA⟩ := hrel
        by_cases hlj : j < fs.length
        · have q3 : (0 : Int) ≤ (j : Int) ∧ (j : Int) < (fs.length : Int) := by omega
          obtain ⟨b2, off2, ha2, hb2, l0, l1, l2, l3, -⟩ := av_at (P := Try.prog) (hv2.below hB) j hlj
          subst ha2
          have hst := row_take m fs j hlj
          have hl2 : (L ++ rowR m (fs.take j)).length ≤ 42 := by rw [List.length_append, row_len, List.length_take]; omega
          generalize fs[j] = m2 at *
          obtain ⟨L', hL'⟩ : ∃ L', L ++ rowR m (fs.take (j + 1)) = L' := ⟨_, rfl⟩
          rw [hst, ← List.append_assoc] at hL'
          have HL' := Lib.hid (show L ++ rowR m (fs.take (j + 1)) = L' by rw [hst, ← List.append_assoc]; exact hL')
          clear hst
          generalize L ++ rowR m (fs.take j) = Q at *
          obtain ⟨ua, uc, rfl, -⟩ := hO.form
          have HA := Lib.hid (And.intro hA (World.block_lt_of_cell? _ _ hC))
          clear hA
          have hb1 := below_av wr m2
          have hb3 := below_rv (wr.alloc (.cells #[.int .i64 m2.id, .int .i64 m2.addr, .bool m2.spare, .bool m2.told] 32)) ⟨m.addr, m2.addr, 0⟩
          have hC2 := keepc' hC hb1
          have hN := rd_rbox (Cel.new (wr.alloc (.cells #[.int .i64 m2.id, .int .i64 m2.addr, .bool m2.spare, .bool m2.told] 32)) 34 #[.int .i64 (⟨m.addr, m2.addr, 0⟩ : Rv).own, .int .i64 (⟨m.addr, m2.addr, 0⟩ : Rv).far, .int .i64 (⟨m.addr, m2.addr, 0⟩ : Rv).port])
          simp only [World.size_alloc] at hN
          have HX := Lib.hid (And.intro ((hO.full hb1).full hb3) (And.intro (Below.then_ (Below.then_ hB hb1) hb3) (And.intro hN (And.intro (Below.then_ (Below.then_ hB hb1) hb3).size (keepc' hC2 hb3)))))
          have HL := Lib.hid hl2
          clear hO hB hb1 hb3 hC hN hl2
          go_wp2_with (at_builtin; go_loud (refine wpList_append_els rvK rfl _ _ 29 29 rfl uRv uRv w.heap.size _ (.slice (some ⟨wr.heap.size + 1, 0, none⟩) 1 1) Q [⟨m.addr, m2.addr, 0⟩] rfl rfl HX.out.1 HX.out.2.2.2.1 HX.out.2.2.1 (by have := HL.out; simp; omega) ?_; intro u' w3 hown hgrow hloc; have HN := Lib.hid (And.intro hown (And.intro (HX.out.2.1.grown hgrow HX.out.2.2.2.1 (fun g hg => (HX.out.1.block g hg).1)) (show w3.cell? ⟨bx, 1, none⟩ = some (.int .i64 m.addr) ∧ u'.ownBlock ≠ some bx from ⟨(World.cell?_of_block (hgrow.block _ (World.block_lt_of_cell? _ _ HX.out.2.2.2.2) (fun e => HA.out.1 e.symm))).trans HX.out.2.2.2.2, fun e => by rcases hloc with hloc | hloc; (exact HA.out.1 (hloc.symm.trans e)); (have h1 := hloc.symm.trans e; have h2 := HA.out.2; simp at h1; simp only at h2; omega)⟩))); rw [hL'] at HN; clear hown hgrow hloc))
          obtain ⟨ua2, uc2, rfl, -⟩ := HN.out.1.form
          go_wp2_with (fail)
          go_roundw
          case rel => exact ⟨j + 1, by omega, by go_num, by rw [HL'.out]; exact HN.out.1, HN.out.2⟩
          case measure => simp [intOf]; omega
        · obtain rfl : j = fs.length := by omega
          have q3 : ¬ (fs.length : Int) < (fs.length : Int) := by omega
          rw [List.take_length, ← HM.out] at hO
          have HX := Lib.hid (And.intro hO hB)
          clear hO hB hC hA
          go_wp2_with (fail)
          go_roundw
          case rel => exact ⟨k + 1, by omega, by go_num, HX.out.1, HX.out.2⟩
          case measure => simp [intOf]; omega
    · obtain rfl : k = os.length := by omega
      have q : ¬ (os.length : Int) < (os.length : Int) := by omega
      rw [List.take_length] at hO
      have hlen := mesh_len os fs
      have hpos : 1 * 1 ≤ os.length * fs.length := Nat.mul_le_mul h1.1 h2.1
      have ht : (meshR os fs).take (min (meshR os fs).length 8) = R := by
        rw [← List.take_take, List.take_of_length_le (by rw [List.length_take]; omega)]
        exact HR.out
      generalize meshR os fs = L at *
      obtain ⟨ua, uc, rfl, -⟩ := hO.form
      have hmin : min (L.length : Int) 8 = ((min L.length 8 : Nat) : Int) := by omega
      obtain ⟨a', hcut, hres⟩ := hO.cut_first (tS := 29) uRv (by omega) (min L.length 8) (by omega)
      rw [ht] at hres
      have HX := Lib.hid (And.intro hres hB)
      clear hO hB hv hv2 hres ht hlen hpos h1 h2
      generalize ((min L.length 8 : Nat) : Int) = z at *
      go_wp2_with (fail)
      go_ret
      exact ⟨_, rfl, HX.out.1, HX.out.2⟩

theorem port_kept {w W : World} {b off b2 off2 g n k : Nat} {x y : Av} (h : W.cell? ⟨b, off + 1, none⟩ = some (.int .i64 x.addr) ∧ W.cell? ⟨b2, off2 + 1, none⟩ = some (.int .i64 y.addr) ∧ W.cell? ⟨g, 0, none⟩ = some (.int .i64 (n : Int))) (hb : (b < w.heap.size ∧ b2 < w.heap.size) ∧ g < w.heap.size) :
    (W.setCells w.heap.size (k * 3) [.int .i64 x.addr, .int .i64 y.addr, .int .i64 (k : Int)]).cell? ⟨b, off + 1, none⟩ = some (.int .i64 x.addr) ∧ (W.setCells w.heap.size (k * 3) [.int .i64 x.addr, .int .i64 y.addr, .int .i64 (k : Int)]).cell? ⟨b2, off2 + 1, none⟩ = some (.int .i64 y.addr) ∧ (W.setCells w.heap.size (k * 3) [.int .i64 x.addr, .int .i64 y.addr, .int .i64 (k : Int)]).cell? ⟨g, 0, none⟩ = some (.int .i64 (n : Int)) := by
  have hS := esetC_below w.heap.size w.heap.size (Nat.le_refl _) (k * 3) [.int .i64 x.addr, .int .i64 y.addr, .int .i64 (k : Int)] W
  exact ⟨by rw [hS.cell (p := ⟨b, off + 1, none⟩) hb.1.1]; exact h.1, by rw [hS.cell (p := ⟨b2, off2 + 1, none⟩) hb.1.2]; exact h.2.1, by rw [hS.cell (p := ⟨g, 0, none⟩) hb.2]; exact h.2.2⟩

set_option linter.unusedSimpArgs false in
set_option maxRecDepth 100000 in
set_option maxHeartbeats 4000000 in
theorem impl_ports (v v2 : Value) (os fs : List Av) (n g : Nat) (w : World) (hv : RdV w v os) (hv2 : RdV w v2 fs) (h1 : 1 ≤ os.length ∧ os.length ≤ 6) (h2 : 1 ≤ fs.length ∧ fs.length ≤ 6) (hn : n ≤ 8) (hg : w.cell? ⟨g, 0, none⟩ = some (.int .i64 (n : Int))) :
    Calls Try.prog 52 #[v, v2, .pointer (some ⟨g, 0, none⟩)] w fun e w' => ∃ u, e = .returned u ∧ OwnR w' w.heap.size w'.heap.size u (portsR (os.headD Av.zero).addr (fs.headD Av.zero).addr n) ∧ Below w.heap.size w w' := by
  have hmk := emake rvK 29 uRv n (by omega) w
  have hB0 := below_new w (.cells (rvK.flat (List.replicate n rvK.zero)).toArray rvK.t)
  have hO0 : OwnR (w.alloc (.cells (rvK.flat (List.replicate n rvK.zero)).toArray rvK.t)) w.heap.size (w.heap.size + 1) (.slice (some ⟨w.heap.size, 0, none⟩) n n) (List.replicate n rvK.zero) := by
    have := OwnE.of_cel (xs := List.replicate n rvK.zero) (Cel.new w rvK.t _) (Nat.le_refl _) (Nat.lt_succ_self _) (by rw [List.length_replicate]; unfold maxLen; omega)
    rwa [List.length_replicate] at this
  obtain ⟨a, c, rfl⟩ := hv.form
  obtain ⟨a2, c2, rfl⟩ := hv2.form
  obtain ⟨b, off, ha, hb, -, k1, -, -, -⟩ := av_at (P := Try.prog) hv 0 (by omega)
  subst ha
  obtain ⟨b2, off2, ha2, hb2, -, l1, -, -, -⟩ := av_at (P := Try.prog) hv2 0 (by omega)
  subst ha2
  rw [Nat.zero_mul, Nat.add_zero] at k1 l1
  have hx : os.headD Av.zero = os[0] := by cases os with | nil => simp at h1 | cons x r => rfl
  have hy : fs.headD Av.zero = fs[0] := by cases fs with | nil => simp at h2 | cons x r => rfl
  rw [hx, hy]
  clear hx hy hv hv2
  have q1 : (0 : Int) < (os.length : Int) := by omega
  have q2 : (0 : Int) < (fs.length : Int) := by omega
  have q3 : 0 < os.length := by omega
  have q4 : 0 < fs.length := by omega
  generalize os[0] = x at *
  generalize fs[0] = y at *
  have hgw := World.block_lt_of_cell? _ _ hg
  have HB1 := Lib.hid (And.intro (And.intro hb hb2) hgw)
  clear hb hb2 hgw
  generalize w.alloc (.cells (rvK.flat (List.replicate n rvK.zero)).toArray rvK.t) = W1 at *
  go_enter Try.func52, Try.ntmps52
  go_wp2_with (fail)
  go_loopw [12] (fun i wr => ∃ k : Nat, k ≤ n ∧ i = .int .i64 k ∧ OwnR wr w.heap.size (w.heap.size + 1) (.slice (some ⟨w.heap.size, 0, none⟩) n n) (portsR x.addr y.addr k ++ List.replicate (n - k) rvK.zero) ∧ Below w.heap.size w wr) (fun i _ => n - (intOf i).toNat)
  case atStart => exact ⟨0, by omega, rfl, by simpa [portsR] using hO0, hB0⟩
  case round =>
    clear hO0 hB0 hmk
    obtain ⟨k, hk, rfl, hO, hB⟩ := hrel
    by_cases hlt : k < n
    · have q : (0 : Int) ≤ (k : Int) ∧ (k : Int) < (n : Int) := by omega
      have HS := Lib.hid (ports_set x.addr y.addr n k hlt)
      have hl : k < (portsR x.addr y.addr k ++ List.replicate (n - k) rvK.zero).length := by rw [List.length_append, ports_len, List.length_replicate]; omega
      generalize portsR x.addr y.addr k ++ List.replicate (n - k) rvK.zero = cur at *
      have hS : wr.drew.cell? ⟨b, off + 1, none⟩ = some (.int .i64 x.addr) ∧ wr.drew.cell? ⟨b2, off2 + 1, none⟩ = some (.int .i64 y.addr) ∧ wr.drew.cell? ⟨g, 0, none⟩ = some (.int .i64 (n : Int)) :=
        ⟨by rw [hB.drew.cell (p := ⟨b, off + 1, none⟩) HB1.out.1.1]; exact k1, by rw [hB.drew.cell (p := ⟨b2, off2 + 1, none⟩) HB1.out.1.2]; exact l1, by rw [hB.drew.cell (p := ⟨g, 0, none⟩) HB1.out.2]; exact hg⟩
      have HO := Lib.hid (show OwnR wr.drew w.heap.size (w.heap.size + 1) (.slice (some ⟨w.heap.size, 0, none⟩) n n) cur ∧ Below w.heap.size w wr.drew from ⟨hO, hB.drew⟩)
      clear hO hB
      go_wp2_with (fail)
      refine wp_region_held_drew (S := fun W => W.cell? ⟨b, off + 1, none⟩ = some (.int .i64 x.addr) ∧ W.cell? ⟨b2, off2 + 1, none⟩ = some (.int .i64 y.addr) ∧ W.cell? ⟨g, 0, none⟩ = some (.int .i64 (n : Int))) (by kernel_rfl) hS (fun hHeld => ?_)
      refine take_yes (i := 0) (oi := { dst := some 15, op := Op.move (Operand.tmp 6), type := 29, pos := "l12_policy.go:83", after := #[], guard := none }) (v := .slice (some ⟨w.heap.size, 0, none⟩) n n) rfl (by kernel_rfl) (by kernel_rfl) (by kernel_rfl) (fun _ _ _ h => h) (by rfl) (fun w hSw => by (try dsimp only at hSw); go_simp) (by assumption) ?_
      try simp only [Act.put, List.setIfInBounds_toArray, List.set_cons_zero, List.set_cons_succ]
      refine take_yes (i := 1) (oi := { dst := some 16, op := Op.move (Operand.tmp 7), type := 3, pos := "l12_policy.go:83", after := #[], guard := none }) (v := .int .i64 (k : Int)) rfl (by kernel_rfl) (by kernel_rfl) (by kernel_rfl) (fun _ _ _ h => h) (by rfl) (fun w hSw => by (try dsimp only at hSw); go_simp) (by assumption) ?_
      try simp only [Act.put, List.setIfInBounds_toArray, List.set_cons_zero, List.set_cons_succ]
      refine take_yes (i := 2) (oi := { dst := some 17, op := Op.move (Operand.tmp 0), type := 26, pos := "l12_policy.go:83", after := #[], guard := none }) (v := .slice (some ⟨b, off, none⟩) os.length c) rfl (by kernel_rfl) (by kernel_rfl) (by kernel_rfl) (fun _ _ _ h => h) (by rfl) (fun w hSw => by (try dsimp only at hSw); go_simp) (by assumption) ?_
      try simp only [Act.put, List.setIfInBounds_toArray, List.set_cons_zero, List.set_cons_succ]
      refine take_yes (i := 3) (oi := { dst := some 18, op := Op.indexAddr 26 (Operand.tmp 17) (Operand.const (Value.int IntKind.i64 0)), type := 0, pos := "l12_policy.go:83", after := #[{ on := 2, ground := Ground.data }], guard := none }) (v := .pointer (some ⟨b, off, none⟩)) rfl (by kernel_rfl) (by kernel_rfl) (by kernel_rfl) (fun _ _ _ h => h) (by rfl) (fun w hSw => by (try dsimp only at hSw); go_simp) (by assumption) ?_
      try simp only [Act.put, List.setIfInBounds_toArray, List.set_cons_zero, List.set_cons_succ]
      refine take_yes (i := 4) (oi := { dst := some 19, op := Op.fieldAddr 32 (Operand.tmp 18) 1, type := 0, pos := "l12_policy.go:83", after := #[{ on := 3, ground := Ground.data }], guard := none }) (v := .pointer (some ⟨b, off + 1, none⟩)) rfl (by kernel_rfl) (by kernel_rfl) (by kernel_rfl) (fun _ _ _ h => h) (by rfl) (fun w hSw => by (try dsimp only at hSw); go_simp) (by assumption) ?_
      try simp only [Act.put, List.setIfInBounds_toArray, List.set_cons_zero, List.set_cons_succ]
      refine take_yes (i := 5) (oi := { dst := some 20, op := Op.load 3 (Operand.tmp 19), type := 3, pos := "l12_policy.go:83", after := #[{ on := 4, ground := Ground.data }], guard := none }) (v := .int .i64 x.addr) rfl (by kernel_rfl) (by kernel_rfl) (by kernel_rfl) (fun _ _ _ h => h) (by rfl) (fun w hSw => by (try dsimp only at hSw); go_simp) (by assumption) ?_
      try simp only [Act.put, List.setIfInBounds_toArray, List.set_cons_zero, List.set_cons_succ]
      refine take_yes (i := 6) (oi := { dst := some 21, op := Op.move (Operand.tmp 1), type := 26, pos := "l12_policy.go:83", after := #[], guard := none }) (v := .slice (some ⟨b2, off2, none⟩) fs.length c2) rfl (by kernel_rfl) (by kernel_rfl) (by kernel_rfl) (fun _ _ _ h => h) (by rfl) (fun w hSw => by (try dsimp only at hSw); go_simp) (by assumption) ?_
      try simp only [Act.put, List.setIfInBounds_toArray, List.set_cons_zero, List.set_cons_succ]
      refine take_yes (i := 7) (oi := { dst := some 22, op := Op.indexAddr 26 (Operand.tmp 21) (Operand.const (Value.int IntKind.i64 0)), type := 0, pos := "l12_policy.go:83", after := #[{ on := 6, ground := Ground.data }], guard := none }) (v := .pointer (some ⟨b2, off2, none⟩)) rfl (by kernel_rfl) (by kernel_rfl) (by kernel_rfl) (fun _ _ _ h => h) (by rfl) (fun w hSw => by (try dsimp only at hSw); go_simp) (by assumption) ?_
      try simp only [Act.put, List.setIfInBounds_toArray, List.set_cons_zero, List.set_cons_succ]
      refine take_yes (i := 8) (oi := { dst := some 23, op := Op.fieldAddr 32 (Operand.tmp 22) 1, type := 0, pos := "l12_policy.go:83", after := #[{ on := 7, ground := Ground.data }], guard := none }) (v := .pointer (some ⟨b2, off2 + 1, none⟩)) rfl (by kernel_rfl) (by kernel_rfl) (by kernel_rfl) (fun _ _ _ h => h) (by rfl) (fun w hSw => by (try dsimp only at hSw); go_simp) (by assumption) ?_
      try simp only [Act.put, List.setIfInBounds_toArray, List.set_cons_zero, List.set_cons_succ]
      refine take_yes (i := 9) (oi := { dst := some 24, op := Op.load 3 (Operand.tmp 23), type := 3, pos := "l12_policy.go:83", after := #[{ on := 8, ground := Ground.data }], guard := none }) (v := .int .i64 y.addr) rfl (by kernel_rfl) (by kernel_rfl) (by kernel_rfl) (fun _ _ _ h => h) (by rfl) (fun w hSw => by (try dsimp only at hSw); go_simp) (by assumption) ?_
      try simp only [Act.put, List.setIfInBounds_toArray, List.set_cons_zero, List.set_cons_succ]
      refine take_yes (i := 10) (oi := { dst := some 25, op := Op.move (Operand.tmp 7), type := 3, pos := "l12_policy.go:83", after := #[], guard := none }) (v := .int .i64 (k : Int)) rfl (by kernel_rfl) (by kernel_rfl) (by kernel_rfl) (fun _ _ _ h => h) (by rfl) (fun w hSw => by (try dsimp only at hSw); go_simp) (by assumption) ?_
      try simp only [Act.put, List.setIfInBounds_toArray, List.set_cons_zero, List.set_cons_succ]
      refine take_yes (i := 11) (oi := { dst := some 26, op := Op.build 34 #[(0, Operand.tmp 20), (1, Operand.tmp 24), (2, Operand.tmp 25)], type := 34, pos := "l12_policy.go:83", after := #[{ on := 5, ground := Ground.data }, { on := 9, ground := Ground.data }, { on := 10, ground := Ground.data }], guard := none }) (v := .agg #[.int .i64 x.addr, .int .i64 y.addr, .int .i64 (k : Int)]) rfl (by kernel_rfl) (by kernel_rfl) (by kernel_rfl) (fun _ _ _ h => h) (by rfl) (fun w hSw => by (try dsimp only at hSw); go_simp) (by assumption) ?_
      try simp only [Act.put, List.setIfInBounds_toArray, List.set_cons_zero, List.set_cons_succ]
      refine take_yes (i := 12) (oi := { dst := some 27, op := Op.indexAddr 29 (Operand.tmp 15) (Operand.tmp 16), type := 0, pos := "l12_policy.go:83", after := #[{ on := 0, ground := Ground.data }, { on := 1, ground := Ground.data }, { on := 0, ground := Ground.phase }, { on := 1, ground := Ground.phase }, { on := 2, ground := Ground.phase }, { on := 3, ground := Ground.phase }, { on := 4, ground := Ground.phase }, { on := 5, ground := Ground.phase }, { on := 6, ground := Ground.phase }, { on := 7, ground := Ground.phase }, { on := 8, ground := Ground.phase }, { on := 9, ground := Ground.phase }, { on := 10, ground := Ground.phase }, { on := 11, ground := Ground.phase }], guard := none }) (v := .pointer (some ⟨w.heap.size, k * 3, none⟩)) rfl (by kernel_rfl) (by kernel_rfl) (by kernel_rfl) (fun _ _ _ h => h) (by rfl) (fun w hSw => by (try dsimp only at hSw); go_simp) (by assumption) ?_
      try simp only [Act.put, List.setIfInBounds_toArray, List.set_cons_zero, List.set_cons_succ]
      refine wpAnyH_ready (rs := [13]) (by kernel_rfl) (by simp) ?_
      refine AllReadyH.cons (o := { dst := none, op := Op.store 34 (Operand.tmp 27) (Operand.tmp 26), type := 0, pos := "l12_policy.go:83", after := #[{ on := 12, ground := Ground.data }, { on := 11, ground := Ground.data }, { on := 0, ground := Ground.phase }, { on := 1, ground := Ground.phase }, { on := 2, ground := Ground.phase }, { on := 3, ground := Ground.phase }, { on := 4, ground := Ground.phase }, { on := 5, ground := Ground.phase }, { on := 6, ground := Ground.phase }, { on := 7, ground := Ground.phase }, { on := 8, ground := Ground.phase }, { on := 9, ground := Ground.phase }, { on := 10, ground := Ground.phase }, { on := 11, ground := Ground.phase }], guard := none }) rfl (fun K hK => ?_) AllReadyH.nil
      refine step_store_mid rfl 34 _ _ rfl w.heap.size (k * 3) #[.int .i64 x.addr, .int .i64 y.addr, .int .i64 (k : Int)] rfl rfl (rv_own HO.out.1 k hl).2.2.2.2.2 (sizeRv ⟨x.addr, y.addr, (k : Int)⟩) (by simp [Value.oneCell']) ?_
      refine hK.out _ _ (port_kept (w := w) (k := k) hHeld HB1.out) (fun hHeldN => ?_)
      clear hK K hHeld
      have hHeld := hHeldN
      clear hHeldN
      try simp only [Act.put, List.setIfInBounds_toArray, List.set_cons_zero, List.set_cons_succ]
      refine wpAnyH_done (by kernel_rfl) ?_ _
      have HN := Lib.hid (And.intro (rv_putC HO.out.1 k hl ⟨x.addr, y.addr, (k : Int)⟩) (HO.out.2.trans (esetC_below w.heap.size w.heap.size (Nat.le_refl _) (k * 3) [.int .i64 x.addr, .int .i64 y.addr, .int .i64 (k : Int)] _)))
      clear hHeld hl HO
      go_wp2_with (fail)
      go_roundw
      case rel => exact ⟨k + 1, by omega, by go_num, by rw [← HS.out]; exact HN.out.1, HN.out.2⟩
      case measure => simp [intOf]; omega
    · obtain rfl : k = n := by omega
      have q : ¬ (k : Int) < (k : Int) := by omega
      rw [Nat.sub_self, List.replicate_zero, List.append_nil] at hO
      have HX := Lib.hid (And.intro (hO.mono (Nat.le_refl _) (Nat.succ_le_of_lt hO.lt)) hB)
      clear hO hB
      go_wp2_with (fail)
      go_ret
      exact ⟨_, rfl, HX.out.1, HX.out.2⟩
end Go.Proofs.Ytmokepopmfcdnaa
