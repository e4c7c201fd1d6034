import Derived.Test.YtdajfnonehianaaPst
import Derived.Test.YtdajfnonehianaaPok
import Derived.Test.YtdajfnonehianaaTxt
import Derived.Test.YtdajfnonehianaaTyn
import Derived.Deep.Cut
namespace Go.Proofs.Ytdajfnonehianaa
open Go.RowKit

/-- A stream stored whole into a block that was there. -/
theorem ps_fin {w W : World} {g B : Nat} {x0 x1 x2 : Value} {r : Int} {t : ByteArray} {u : Value} {ms : List Pc} (hD : Cel W g 26 #[x0, x1, x2]) (hB : Below w.heap.size w W) (hg : w.heap.size ≤ g) (hU : OwnP W B W.heap.size u ms) (hgB : g < B) :
    Cel (((W.setCell ⟨g, 0, none⟩ (.int .i64 r)).setCell ⟨g, 1, none⟩ (.string t)).setCell ⟨g, 2, none⟩ u) g 26 #[.int .i64 r, .string t, u] ∧
    Below w.heap.size w (((W.setCell ⟨g, 0, none⟩ (.int .i64 r)).setCell ⟨g, 1, none⟩ (.string t)).setCell ⟨g, 2, none⟩ u) ∧
    OwnP (((W.setCell ⟨g, 0, none⟩ (.int .i64 r)).setCell ⟨g, 1, none⟩ (.string t)).setCell ⟨g, 2, none⟩ u) B (((W.setCell ⟨g, 0, none⟩ (.int .i64 r)).setCell ⟨g, 1, none⟩ (.string t)).setCell ⟨g, 2, none⟩ u).heap.size u ms := by
  refine ⟨?_, ((hB.setCell (p := ⟨g, 0, none⟩) hg _).setCell (p := ⟨g, 1, none⟩) hg _).setCell (p := ⟨g, 2, none⟩) hg _, ?_⟩
  · have := ((hD.set 0 (.int .i64 r)).set 1 (.string t)).set 2 u
    simpa using this
  · refine (hU.keepAt (fun k hk => ?_)).mono (Nat.le_refl _) (by simp)
    have hne : k ≠ g := by have := (OwnE.block hU k hk).1; omega
    rw [Below.heap_setCell _ _ _ _ hne, Below.heap_setCell _ _ _ _ hne, Below.heap_setCell _ _ _ _ hne]

/-- While a copy is made: the box of the one that came in, the block of the answer, the new list. -/
structure Cpd (w W : World) (r : Int) (t : ByteArray) (a : Option Addr) (c : Nat) (xa : Option Addr) (xc : Nat) (ms : List Pc) : Prop where
  box : Cel W w.heap.size 26 #[.int .i64 r, .string t, .slice a ms.length c]
  res : ∃ x0 x1 x2, Cel W (w.heap.size + 1) 26 #[x0, x1, x2]
  own : OwnP W (w.heap.size + 2) W.heap.size (.slice xa ms.length xc) ms
  below : Below w.heap.size w W
theorem Cpd.kept {w W W' : World} {r : Int} {t : ByteArray} {a xa : Option Addr} {c xc : Nat} {ms : List Pc} (h : Cpd w W r t a c xa xc ms) (hb : Below W.heap.size W W') : Cpd w W' r t a c xa xc ms := by
  obtain ⟨x0, x1, x2, hz⟩ := h.res
  exact ⟨h.box.kept hb, ⟨x0, x1, x2, hz.kept hb⟩, h.own.full hb, Below.then_ h.below hb⟩
theorem Cpd.drew {w W : World} {r : Int} {t : ByteArray} {a xa : Option Addr} {c xc : Nat} {ms : List Pc} (h : Cpd w W r t a c xa xc ms) : Cpd w W.drew r t a c xa xc ms := ⟨h.box, h.res, h.own, h.below.drew⟩
theorem cpd_all {w W : World} {r : Int} {t : ByteArray} {a xa : Option Addr} {c xc : Nat} {ms : List Pc} (h : Cpd w W r t a c xa xc ms) : W.cell? ⟨w.heap.size, 0, none⟩ = some (.int .i64 r) ∧ W.cell? ⟨w.heap.size, 1, none⟩ = some (.string t) ∧ W.cell? ⟨w.heap.size, 2, none⟩ = some (.slice a ms.length c) ∧ Cpd w W r t a c xa xc ms := by
  obtain ⟨a0, a1, a2⟩ := cel3' h.box
  exact ⟨a0, a1, a2, h⟩
theorem cpd_fin {w W : World} {r : Int} {t : ByteArray} {a xa : Option Addr} {c xc : Nat} {ms : List Pc} (h : Cpd w W r t a c xa xc ms)
    (h1 : Cel (((W.setCell ⟨w.heap.size + 1, 0, none⟩ (.int .i64 r)).setCell ⟨w.heap.size + 1, 1, none⟩ (.string t)).setCell ⟨w.heap.size + 1, 2, none⟩ (.slice xa ms.length xc)) (w.heap.size + 1) 26 #[.int .i64 r, .string t, .slice xa ms.length xc])
    (h2 : Below w.heap.size w (((W.setCell ⟨w.heap.size + 1, 0, none⟩ (.int .i64 r)).setCell ⟨w.heap.size + 1, 1, none⟩ (.string t)).setCell ⟨w.heap.size + 1, 2, none⟩ (.slice xa ms.length xc)))
    (h3 : OwnP (((W.setCell ⟨w.heap.size + 1, 0, none⟩ (.int .i64 r)).setCell ⟨w.heap.size + 1, 1, none⟩ (.string t)).setCell ⟨w.heap.size + 1, 2, none⟩ (.slice xa ms.length xc)) (w.heap.size + 2) (((W.setCell ⟨w.heap.size + 1, 0, none⟩ (.int .i64 r)).setCell ⟨w.heap.size + 1, 1, none⟩ (.string t)).setCell ⟨w.heap.size + 1, 2, none⟩ (.slice xa ms.length xc)).heap.size (.slice xa ms.length xc) ms) : (((W.setCell ⟨w.heap.size + 1, 0, none⟩ (.int .i64 r)).setCell ⟨w.heap.size + 1, 1, none⟩ (.string t)).setCell ⟨w.heap.size + 1, 2, none⟩ (.slice xa ms.length xc)).cell? ⟨w.heap.size, 0, none⟩ = some (.int .i64 r) ∧ (((W.setCell ⟨w.heap.size + 1, 0, none⟩ (.int .i64 r)).setCell ⟨w.heap.size + 1, 1, none⟩ (.string t)).setCell ⟨w.heap.size + 1, 2, none⟩ (.slice xa ms.length xc)).cell? ⟨w.heap.size, 1, none⟩ = some (.string t) ∧ (((W.setCell ⟨w.heap.size + 1, 0, none⟩ (.int .i64 r)).setCell ⟨w.heap.size + 1, 1, none⟩ (.string t)).setCell ⟨w.heap.size + 1, 2, none⟩ (.slice xa ms.length xc)).cell? ⟨w.heap.size, 2, none⟩ = some (.slice a ms.length c) ∧ Cpd w (((W.setCell ⟨w.heap.size + 1, 0, none⟩ (.int .i64 r)).setCell ⟨w.heap.size + 1, 1, none⟩ (.string t)).setCell ⟨w.heap.size + 1, 2, none⟩ (.slice xa ms.length xc)) r t a c xa xc ms :=
  cpd_all ⟨((h.box.other _ _ (by simp)).other _ _ (by simp)).other _ _ (by simp), ⟨_, _, _, h1⟩, h3, h2⟩

theorem list_same (l : List Pc) (i : Nat) (h : i < l.length) : l.set i ⟨l[i].pos, l[i].text⟩ = l := List.set_getElem_self h

attribute [-go_sem] loadCells loadCellsFrom
set_option maxRecDepth 100000 in
set_option maxHeartbeats 4000000 in
theorem impl_copyP (r : Int) (t : ByteArray) (v : Value) (ms : List Pc) (w : World) (hv : RdP w v ms) (hs : t.size + sumP ms ≤ 4194304) (hn : ms.length ≤ 4194304) :
    Calls Try.prog 41 #[.agg #[.int .i64 r, .string t, v]] w fun e w' => ∃ u, e = .returned (.agg #[.int .i64 r, .string t, u]) ∧ OwnP w' w.heap.size w'.heap.size u ms ∧ Below w.heap.size w w' := by
  have hB0 : Below w.heap.size w ((w.alloc (.cells #[.int .i64 r, .string t, v] 26)).alloc (.cells #[.int .i64 0, .string ⟨#[]⟩, .slice none 0 0] 26)) := ((Below.refl _ _).alloc (Nat.le_refl _) _).alloc (by simp) _
  have hC0 : Cel ((w.alloc (.cells #[.int .i64 r, .string t, v] 26)).alloc (.cells #[.int .i64 0, .string ⟨#[]⟩, .slice none 0 0] 26)) w.heap.size 26 #[.int .i64 r, .string t, v] := (Cel.new w _ _).alloc _
  have hD0 : Cel ((w.alloc (.cells #[.int .i64 r, .string t, v] 26)).alloc (.cells #[.int .i64 0, .string ⟨#[]⟩, .slice none 0 0] 26)) (w.heap.size + 1) 26 #[.int .i64 0, .string ⟨#[]⟩, .slice none 0 0] := by
    have := Cel.new (w.alloc (.cells #[.int .i64 r, .string t, v] 26)) 26 #[.int .i64 0, .string ⟨#[]⟩, .slice none 0 0]
    rw [World.size_alloc] at this
    exact this
  have hz0 : ((w.alloc (.cells #[.int .i64 r, .string t, v] 26)).alloc (.cells #[.int .i64 0, .string ⟨#[]⟩, .slice none 0 0] 26)).heap.size = w.heap.size + 2 := by simp
  have hx := hv.below hB0
  obtain ⟨a, c, rfl⟩ := hv.form
  have H0 := Lib.hid (And.intro hB0 (And.intro hC0 (And.intro hD0 hz0)))
  clear hv hB0 hC0 hD0
  go_enter Try.func41, Try.ntmps41
  go_wp2_with (at_builtin; refine wpList_append_els pcK rfl _ _ 24 24 rfl uPc uPc (w.heap.size + 2) (.slice none 0 0) _ [] ms rfl rfl OwnE.nil (by rw [hz0]; exact Nat.le_refl _) hx (by simp; omega) ?_; intro v' w1 hown hgrow _; obtain ⟨hB0, hC0, hD0, hz0⟩ := H0.out; rw [List.nil_append] at hown; have hC1 := hC0.grown hgrow (by simp [Value.ownBlock]); have hD1 := hD0.grown hgrow (by simp [Value.ownBlock]); have hB1 : Below w.heap.size w w1 := hB0.grown hgrow (by rw [hz0]; omega) (fun g hg => by simp [Value.ownBlock] at hg); obtain ⟨xa, xc, rfl, hform⟩ := hown.form; have K1 : Cpd w w1 r t a c xa xc ms := ⟨hC1, ⟨_, _, _, hD1⟩, hown, hB1⟩; clear hown hgrow hC0 hD0 hB0 H0 hz0 hC1 hD1 hB1 hx)
  go_loopw [11] (fun i wr => ∃ k : Nat, k ≤ ms.length ∧ i = .int .i64 k ∧ Cpd w wr r t a c xa xc ms) (fun i _ => ms.length - (intOf i).toNat)
  case atStart => exact ⟨0, by omega, rfl, K1⟩
  case round =>
    clear K1
    obtain ⟨k, hk, rfl, hK⟩ := hrel
    by_cases hlt : k < ms.length
    · have q : (k : Int) < (ms.length : Int) := by omega
      have q2 : (0 : Int) ≤ (k : Int) := by omega
      obtain ⟨g, rfl, hg, -⟩ := hform (by omega)
      obtain ⟨b, off, ha, hb, k0, k1, ld⟩ := pc_at (P := Try.prog) hK.own.rd k hlt
      injection ha with ha
      injection ha with ha1 ha2
      subst ha1 ha2
      rw [Nat.zero_add] at k0 k1 ld
      have hsz : ms[k].text.size ≤ 4194304 := by have := sumP_mem (List.getElem_mem hlt); omega
      have cl := fun W => clone_call ms[k].text W (by omega)
      have hsame := list_same ms k hlt
      have K2 := hK.kept (below_pc wr ms[k])
      have hcb := box_pc wr ms[k]
      generalize hm : ms[k] = m at *
      have HK := Lib.hid (And.intro K2 (And.intro hsame hm))
      have HC := Lib.hid hcb
      clear hK K2 hsame hcb hsz
      go_wp2_with (first | (go_at_call 57; (with_reducible refine (cl _).mono ?_); rintro e w3 ⟨rfl, hb3⟩; obtain ⟨K2, hsame, hm⟩ := HK.out; have K3 := K2.kept hb3; obtain ⟨-, c1, hf1, -, -⟩ := pc_own K3.own k hlt; have f1 := hf1 (k * 2 + 1); have hO4 := pc_put1 K3.own k hlt m.text; have hB4 := K3.below.setCell (p := ⟨g, k * 2 + 1, none⟩) (by show w.heap.size ≤ g; omega) (.string m.text); rw [hm, hsame] at hO4; have hbx := K3.box.other ⟨g, k * 2 + 1, none⟩ (.string m.text) (by show w.heap.size ≠ g; omega); obtain ⟨y0, y1, y2, hz⟩ := K3.res; have hz4 := hz.other ⟨g, k * 2 + 1, none⟩ (.string m.text) (by show w.heap.size + 1 ≠ g; omega); have HQ := Lib.hid (⟨hbx, ⟨_, _, _, hz4⟩, hO4.mono (Nat.le_refl _) (by simp), hB4⟩ : Cpd w (w3.setCell ⟨g, k * 2 + 1, none⟩ (.string m.text)) r t a c (some ⟨g, 0, none⟩) xc ms); clear K2 K3 hf1 hO4 hB4 hbx hz hz4 hb3 hsame hm))
      go_roundw
      case rel => exact ⟨k + 1, by omega, by go_num, HQ.out⟩
      case measure => simp [intOf]; omega
    · obtain rfl : k = ms.length := by omega
      have q : ¬ (ms.length : Int) < (ms.length : Int) := by omega
      have cl := fun W => clone_call t W (by omega)
      have K5 := cpd_all hK.drew
      clear hform
      go_wp2_with (fail)
      refine wp_region_held_drew (S := fun W => W.cell? ⟨w.heap.size, 0, none⟩ = some (.int .i64 r) ∧ W.cell? ⟨w.heap.size, 1, none⟩ = some (.string t) ∧ W.cell? ⟨w.heap.size, 2, none⟩ = some (.slice a ms.length c) ∧ Cpd w W r t a c xa xc ms) (by kernel_rfl) K5 (fun hHeld => ?_)
      refine take_yes (i := 0) (oi := { dst := some 24, op := Op.fieldAddr 26 (Operand.tmp 1) 0, type := 0, pos := "l09_pieces.go:123", after := #[], guard := none }) (v := .pointer (some ⟨w.heap.size, 0, none⟩)) rfl (by kernel_rfl) (by kernel_rfl) (by kernel_rfl) (fun _ _ _ h => h) (by rfl) (fun w hSw => by (try dsimp only at hSw); go_simp) (by assumption) ?_
      try simp only [Act.put, List.setIfInBounds_toArray, List.set_cons_zero, List.set_cons_succ]
      refine take_yes (i := 1) (oi := { dst := some 25, op := Op.load 3 (Operand.tmp 24), type := 3, pos := "l09_pieces.go:123", after := #[{ on := 0, ground := Ground.data }], guard := none }) (v := .int .i64 r) rfl (by kernel_rfl) (by kernel_rfl) (by kernel_rfl) (fun _ _ _ h => h) (by rfl) (fun w hSw => by (try dsimp only at hSw); go_simp) (by assumption) ?_
      try simp only [Act.put, List.setIfInBounds_toArray, List.set_cons_zero, List.set_cons_succ]
      refine take_yes (i := 2) (oi := { dst := some 26, op := Op.fieldAddr 26 (Operand.tmp 1) 1, type := 0, pos := "l09_pieces.go:123", after := #[], guard := none }) (v := .pointer (some ⟨w.heap.size, 1, none⟩)) rfl (by kernel_rfl) (by kernel_rfl) (by kernel_rfl) (fun _ _ _ h => h) (by rfl) (fun w hSw => by (try dsimp only at hSw); go_simp) (by assumption) ?_
      try simp only [Act.put, List.setIfInBounds_toArray, List.set_cons_zero, List.set_cons_succ]
      refine take_yes (i := 3) (oi := { dst := some 27, op := Op.load 9 (Operand.tmp 26), type := 9, pos := "l09_pieces.go:123", after := #[{ on := 2, ground := Ground.data }], guard := none }) (v := .string t) rfl (by kernel_rfl) (by kernel_rfl) (by kernel_rfl) (fun _ _ _ h => h) (by rfl) (fun w hSw => by (try dsimp only at hSw); go_simp) (by assumption) ?_
      try simp only [Act.put, List.setIfInBounds_toArray, List.set_cons_zero, List.set_cons_succ]
      refine take_yes (i := 5) (oi := { dst := some 29, op := Op.move (Operand.tmp 3), type := 24, pos := "l09_pieces.go:123", after := #[], guard := none }) (v := .slice xa ms.length xc) rfl (by kernel_rfl) (by kernel_rfl) (by kernel_rfl) (fun _ _ _ h => h) (by rfl) (fun w hSw => by (try dsimp only at hSw); go_simp) (by assumption) ?_
      try simp only [Act.put, List.setIfInBounds_toArray, List.set_cons_zero, List.set_cons_succ]
      refine wpAnyH_ready (rs := [4]) (by kernel_rfl) (by simp) ?_
      refine AllReadyH.cons (o := { dst := some 28, op := Op.call { callee := Callee.value (Operand.func 57), args := #[Operand.tmp 27], argTypes := #[9] }, type := 9, pos := "l09_pieces.go:123", after := #[{ on := 3, ground := Ground.data }], guard := none }) rfl (fun K hK => ?_) AllReadyH.nil
      go_simp
      with_reducible refine (cl _).mono ?_
      rintro e w7 ⟨rfl, hb7⟩
      have H7 := cpd_all (hHeld.2.2.2.kept hb7)
      refine hK.out _ _ H7 (fun hHeld => ?_)
      clear hK K
      try simp only [Act.put, List.setIfInBounds_toArray, List.set_cons_zero, List.set_cons_succ]
      refine take_yes (i := 6) (oi := { dst := some 30, op := Op.build 26 #[(0, Operand.tmp 25), (1, Operand.tmp 28), (2, Operand.tmp 29)], type := 26, pos := "l09_pieces.go:123", after := #[{ on := 1, ground := Ground.data }, { on := 4, ground := Ground.data }, { on := 5, ground := Ground.data }], guard := none }) (v := .agg #[.int .i64 r, .string t, .slice xa ms.length xc]) rfl (by kernel_rfl) (by kernel_rfl) (by kernel_rfl) (fun _ _ _ h => h) (by rfl) (fun w hSw => by (try dsimp only at hSw); go_simp) (by assumption) ?_
      try simp only [Act.put, List.setIfInBounds_toArray, List.set_cons_zero, List.set_cons_succ]
      refine wpAnyH_ready (rs := [7]) (by kernel_rfl) (by simp) ?_
      refine AllReadyH.cons (o := { dst := none, op := Op.store 26 (Operand.tmp 2) (Operand.tmp 30), type := 0, pos := "l09_pieces.go:123", after := #[{ on := 6, ground := Ground.data }, { on := 4, ground := Ground.chain }, { on := 0, ground := Ground.phase }, { on := 1, ground := Ground.phase }, { on := 2, ground := Ground.phase }, { on := 3, ground := Ground.phase }, { on := 4, ground := Ground.phase }, { on := 5, ground := Ground.phase }, { on := 6, ground := Ground.phase }], guard := none }) rfl (fun K hK => ?_) AllReadyH.nil
      obtain ⟨x0, x1, x2, hz⟩ := hHeld.2.2.2.res
      obtain ⟨d0, d1, d2⟩ := cel3' hz
      have g0 := hz.frozen 0
      have g1 := hz.frozen 1
      have g2 := hz.frozen 2
      go_simp
      obtain ⟨q1, q2, q3⟩ := ps_fin (r := r) (t := t) hz hHeld.2.2.2.below (Nat.le_succ _) hHeld.2.2.2.own (Nat.lt_succ_self _)
      have H8 := cpd_fin hHeld.2.2.2 q1 q2 q3
      have HF := Lib.hid (And.intro q1 (And.intro q2 q3))
      refine hK.out _ _ H8 (fun hHeld => ?_)
      clear hK K
      try simp only [Act.put, List.setIfInBounds_toArray, List.set_cons_zero, List.set_cons_succ]
      refine wpAnyH_done (by kernel_rfl) ?_ _
      obtain ⟨q1, q2, q3⟩ := HF.out
      go_wp2_with (fail)
      refine bodyPost_ret (ps_result q1 rfl _ rfl) rfl ⟨_, rfl, q3.mono (by omega) (Nat.le_refl _), q2⟩
end Go.Proofs.Ytdajfnonehianaa
