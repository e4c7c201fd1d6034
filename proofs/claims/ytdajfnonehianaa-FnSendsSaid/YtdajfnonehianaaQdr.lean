import Derived.Test.YtdajfnonehianaaQdp
import Derived.Test.YtdajfnonehianaaQot
import Derived.Test.YtdajfnonehianaaDrT
namespace Go.Proofs.Ytdajfnonehianaa
open Go.RowKit

/-- Only the cursor's block, then only what lies above what was there. -/
theorem Grew.thenQ {g : Nat} {w W W' : World} (h : Grew g w W) (k : Below w.heap.size W W') : Grew g w W' :=
  ⟨k.os.trans h.os, k.tape.trans h.tape, k.output.trans h.output, Nat.le_trans h.size k.size, fun i hi hn => (k.block i hi).trans (h.block i hi hn)⟩
theorem qbel (g : Nat) (v : Value) (n k : Nat) (i : Int) (hi : (k : Int) = i) (w : World) (hd : Dr w g v n) (h0 : 0 < k) (hk : k ≤ 1000000000) :
    Calls Try.prog 38 #[.pointer (some ⟨g, 0, none⟩), .int .i64 i] w fun e w' => ∃ r : Nat, r < k ∧ e = .returned (.int .i64 (r : Int)) ∧ Dr w' g v n ∧ Only g w w' := by
  subst hi
  exact below_dr g v n k w hd h0 hk
theorem qpick (g : Nat) (v : Value) (n : Nat) (w : World) (hd : Dr w g v n) (b cap k : Nat) (cs : Array Value) (zs : List Int) (hk : zs.length = k) (hcs : (zs.map (Value.int .i64)).toArray = cs) (hc : Cel w b 3 cs) (hb : b ≠ g) (h0 : 0 < k) (hl : k ≤ 1000) :
    Calls Try.prog 37 #[.pointer (some ⟨g, 0, none⟩), .slice (some ⟨b, 0, none⟩) k cap] w fun e w' => ∃ z : Int, z ∈ zs ∧ e = .returned (.int .i64 z) ∧ Dr w' g v n ∧ Only g w w' := by
  subst hk hcs
  exact (pick_int g v n w hd b cap zs hc hb h0 hl).mono fun _ _ ⟨j, h1, h2, h3⟩ => ⟨_, List.getElem_mem _, h1, h2, h3⟩
theorem qtext (g : Nat) (v : Value) (n k : Nat) (i : Int) (hi : (k : Int) = i) (w : World) (hd : Dr w g v n) (hk : k ≤ 5000) :
    Calls Try.prog 39 #[.pointer (some ⟨g, 0, none⟩), .int .i64 i] w fun e w' => ∃ s : ByteArray, s.size = k ∧ e = .returned (.string s) ∧ Dr w' g v n ∧ Grew g w w' := by
  subst hi
  exact draw_text g v n k w hd hk

/-- A draw of a buffer, under way: the cursor in block g, the buffer in block b, the result's block. -/
structure Qd (w W : World) (g : Nat) (v : Value) (n b : Nat) (x y z u : Value) : Prop where
  d : Dr W g v n
  gr : Grew g w W
  c : Cel W b 33 #[x, y, z, u]
  res : ∃ r0 r1 r2 r3, Cel W w.heap.size 33 #[r0, r1, r2, r3]
  hb : w.heap.size < b
  hg : g < w.heap.size
theorem Qd.grew {w W W' : World} {g n b : Nat} {v x y z u : Value} (h : Qd w W g v n b x y z u) (hG : Grew g W W') (hd : Dr W' g v n) : Qd w W' g v n b x y z u := by
  obtain ⟨r0, r1, r2, r3, hr⟩ := h.res
  have h1 := h.hb
  have h2 := h.hg
  exact ⟨hd, h.gr.trans hG, h.c.grew hG (by omega), ⟨r0, r1, r2, r3, hr.grew hG (by omega)⟩, h.hb, h.hg⟩
theorem Qd.only {w W W' : World} {g n b : Nat} {v x y z u : Value} (h : Qd w W g v n b x y z u) (ho : Only g W W') (hd : Dr W' g v n) : Qd w W' g v n b x y z u := h.grew ho.grew hd
theorem Qd.kept {w W W' : World} {g n b : Nat} {v x y z u : Value} (h : Qd w W g v n b x y z u) (hb : Below W.heap.size W W') : Qd w W' g v n b x y z u := h.grew (Grew.of_below hb (Nat.le_refl _)) (h.d.kept hb)
theorem Qd.drew {w W : World} {g n b : Nat} {v x y z u : Value} (h : Qd w W g v n b x y z u) : Qd w W.drew g v n b x y z u := h.kept (Below.refl _ _).drew
theorem Qd.all {w W : World} {g n b : Nat} {v x y z u : Value} (h : Qd w W g v n b x y z u) : W.cell? ⟨b, 0, none⟩ = some x ∧ W.cell? ⟨b, 1, none⟩ = some y ∧ W.cell? ⟨b, 2, none⟩ = some z ∧ W.cell? ⟨b, 3, none⟩ = some u := cel4 h.c
theorem Qd.fr {w W : World} {g n b : Nat} {v x y z u : Value} (h : Qd w W g v n b x y z u) (i : Nat) : W.frozen? ⟨b, i, none⟩ = false ∧ W.frozen? ⟨w.heap.size, i, none⟩ = false := by
  obtain ⟨r0, r1, r2, r3, hz⟩ := h.res
  exact ⟨h.c.frozen i, hz.frozen i⟩
theorem Qd.rs {w W : World} {g n b : Nat} {v x y z u : Value} (h : Qd w W g v n b x y z u) : ∃ r0 r1 r2 r3, W.cell? ⟨w.heap.size, 0, none⟩ = some r0 ∧ W.cell? ⟨w.heap.size, 1, none⟩ = some r1 ∧ W.cell? ⟨w.heap.size, 2, none⟩ = some r2 ∧ W.cell? ⟨w.heap.size, 3, none⟩ = some r3 := by
  obtain ⟨r0, r1, r2, r3, hz⟩ := h.res
  exact ⟨r0, r1, r2, r3, cel4 hz⟩
theorem Qd.far {w W : World} {g n b : Nat} {v x y z u : Value} (h : Qd w W g v n b x y z u) {k : Nat} (hk : w.heap.size ≤ k) (hne : k ≠ b) (hne2 : k ≠ w.heap.size) (i : Nat) (a : Value) : Qd w (W.setCell ⟨k, i, none⟩ a) g v n b x y z u := by
  obtain ⟨r0, r1, r2, r3, hr⟩ := h.res
  have hB : Below w.heap.size W (W.setCell ⟨k, i, none⟩ a) := (Below.refl _ _).setCell (p := ⟨k, i, none⟩) hk a
  exact ⟨h.d.below hB h.hg, h.gr.thenQ hB, h.c.other _ _ (by simp; omega), ⟨r0, r1, r2, r3, hr.other _ _ (by simp; omega)⟩, h.hb, h.hg⟩
theorem Qd.set {w W : World} {g n b : Nat} {v x y z u : Value} (h : Qd w W g v n b x y z u) (i : Nat) (a : Value) : Qd w (W.setCell ⟨b, i, none⟩ a) g v n b (if i = 0 then a else x) (if i = 1 then a else y) (if i = 2 then a else z) (if i = 3 then a else u) := by
  obtain ⟨r0, r1, r2, r3, hr⟩ := h.res
  have h1 := h.hb
  have hB : Below w.heap.size W (W.setCell ⟨b, i, none⟩ a) := (Below.refl _ _).setCell (p := ⟨b, i, none⟩) (by simp; omega) a
  refine ⟨h.d.below hB h.hg, h.gr.thenQ hB, ?_, ⟨r0, r1, r2, r3, hr.other _ _ (by simp; omega)⟩, h.hb, h.hg⟩
  have := h.c.set i a
  match i with
  | 0 => simpa using this
  | 1 => simpa using this
  | 2 => simpa using this
  | 3 => simpa using this
  | k + 4 => simpa using this
theorem Qd.put {w W : World} {g n b : Nat} {v x y z u : Value} (h : Qd w W g v n b x y z u) (a0 a1 a2 a3 : Value) : Qd w ((((W.setCell ⟨b, 0, none⟩ a0).setCell ⟨b, 1, none⟩ a1).setCell ⟨b, 2, none⟩ a2).setCell ⟨b, 3, none⟩ a3) g v n b a0 a1 a2 a3 := by
  have := (((h.set 0 a0).set 1 a1).set 2 a2).set 3 a3
  simpa using this
theorem Qd.give {w W : World} {g n b : Nat} {v x y z u : Value} (h : Qd w W g v n b x y z u) (a0 a1 a2 a3 : Value) : Cel ((((W.setCell ⟨w.heap.size, 0, none⟩ a0).setCell ⟨w.heap.size, 1, none⟩ a1).setCell ⟨w.heap.size, 2, none⟩ a2).setCell ⟨w.heap.size, 3, none⟩ a3) w.heap.size 33 #[a0, a1, a2, a3] ∧ Dr ((((W.setCell ⟨w.heap.size, 0, none⟩ a0).setCell ⟨w.heap.size, 1, none⟩ a1).setCell ⟨w.heap.size, 2, none⟩ a2).setCell ⟨w.heap.size, 3, none⟩ a3) g v n ∧ Grew g w ((((W.setCell ⟨w.heap.size, 0, none⟩ a0).setCell ⟨w.heap.size, 1, none⟩ a1).setCell ⟨w.heap.size, 2, none⟩ a2).setCell ⟨w.heap.size, 3, none⟩ a3) := by
  obtain ⟨r0, r1, r2, r3, hz⟩ := h.res
  have hB : Below w.heap.size W ((((W.setCell ⟨w.heap.size, 0, none⟩ a0).setCell ⟨w.heap.size, 1, none⟩ a1).setCell ⟨w.heap.size, 2, none⟩ a2).setCell ⟨w.heap.size, 3, none⟩ a3) := ((((Below.refl _ _).setCell (p := ⟨w.heap.size, 0, none⟩) (Nat.le_refl _) a0).setCell (p := ⟨w.heap.size, 1, none⟩) (Nat.le_refl _) a1).setCell (p := ⟨w.heap.size, 2, none⟩) (Nat.le_refl _) a2).setCell (p := ⟨w.heap.size, 3, none⟩) (Nat.le_refl _) a3
  refine ⟨?_, h.d.below hB h.hg, h.gr.thenQ hB⟩
  have := (((hz.set 0 a0).set 1 a1).set 2 a2).set 3 a3
  simpa using this

set_option linter.unusedSimpArgs false in
set_option maxRecDepth 100000 in
set_option maxHeartbeats 8000000 in
theorem out_dr (g : Nat) (v : Value) (n : Nat) (w : World) (hd : Dr w g v n) :
    Calls Try.prog 64 #[.pointer (some ⟨g, 0, none⟩)] w fun e w' => ∃ o : Ot, e = .returned (.agg #[.string o.text, .int .i64 o.base, .int .i64 o.sent, .int .i64 o.room]) ∧ o.Ok ∧ o.base ≤ 150 ∧ Dr w' g v n ∧ Grew g w w' := by
  have hg := hd.blk
  have hb0 := below_new w (.cells #[.string ⟨#[]⟩, .int .i64 0, .int .i64 0, .int .i64 0] 33)
  have hC0 := Cel.new w 33 #[.string ⟨#[]⟩, .int .i64 0, .int .i64 0, .int .i64 0]
  have c50 := fun W h => qbel g v n 50 50 rfl W h (by omega) (by omega)
  have c40 := fun W h => qbel g v n 40 40 rfl W h (by omega) (by omega)
  have c20 := fun W h => qbel g v n 20 20 rfl W h (by omega) (by omega)
  have c5 := fun W h => qbel g v n 5 5 rfl W h (by omega) (by omega)
  have c4 := fun W h => qbel g v n 4 4 rfl W h (by omega) (by omega)
  have H0 := Lib.hid (And.intro (hd.kept hb0) (And.intro (Grew.of_below (g := g) hb0 (Nat.le_refl _)) hC0))
  clear hb0 hC0 hd
  go_enter Try.func64, Try.ntmps64
  go_upto_region 1 with (fail)
  generalize w.alloc (.cells #[.string ⟨#[]⟩, .int .i64 0, .int .i64 0, .int .i64 0] 33) = w0 at *
  go_wp2_with (fail)
  with_reducible refine (c50 _ H0.out.1).mono ?_
  rintro e w1 ⟨r1, hr1, rfl, d1, o1⟩
  have hb2 := below_new w1 (.cells #[.int .i64 200, .int .i64 60, .int .i64 10, .int .i64 1] 3)
  have hz : g < w1.heap.size := d1.blk
  have cp := qpick g v n _ (d1.kept hb2) w1.heap.size 4 4 _ [200, 60, 10, 1] rfl rfl (Cel.new w1 3 #[.int .i64 200, .int .i64 60, .int .i64 10, .int .i64 1]) (by omega) (by omega) (by omega)
  have H1 := Lib.hid (And.intro ((H0.out.2.1.trans o1.grew).trans (Grew.of_below (g := g) hb2 (Nat.le_refl _))) ((H0.out.2.2.grew o1.grew (by omega)).kept hb2))
  clear H0 d1 o1 hb2 c50 hz
  go_wp2_with (fail)
  with_reducible refine cp.mono ?_
  rintro e w3 ⟨z, hz, rfl, d3, o3⟩
  have hz2 : 1 ≤ z ∧ z ≤ 200 := by
    simp only [List.mem_cons, List.not_mem_nil, or_false] at hz
    omega
  have hC3 := H1.out.2.grew o3.grew (by omega)
  have hG3 := H1.out.1.trans o3.grew
  have hlt3 := hC3.lt
  have hb4 := below_new w3 (.cells #[.string ⟨#[]⟩, .int .i64 (r1 : Int), .int .i64 0, .int .i64 z] 33)
  have Q4 : Qd w (w3.alloc (.cells #[.string ⟨#[]⟩, .int .i64 (r1 : Int), .int .i64 0, .int .i64 z] 33)) g v n w3.heap.size (.string ⟨#[]⟩) (.int .i64 (r1 : Int)) (.int .i64 0) (.int .i64 z) :=
    ⟨d3.kept hb4, hG3.trans (Grew.of_below (g := g) hb4 (Nat.le_refl _)), Cel.new _ _ _, ⟨_, _, _, _, hC3.kept hb4⟩, hlt3, hg⟩
  have H4 := Lib.hid Q4
  clear cp H1 hz d3 o3 hC3 hG3 hlt3 hb4 Q4
  go_upto_region 2 with (fail)
  obtain ⟨b, hb⟩ : ∃ b, w3.heap.size = b := ⟨_, rfl⟩
  rw [hb] at H4 ⊢
  generalize w3.alloc (.cells #[.string ⟨#[]⟩, .int .i64 (r1 : Int), .int .i64 0, .int .i64 z] 33) = w4 at *
  clear hb
  obtain ⟨a0, a1, a2, a3⟩ := H4.out.all
  have f0 := (H4.out.fr 0).1
  have f1 := (H4.out.fr 1).1
  have f2 := (H4.out.fr 2).1
  have f3 := (H4.out.fr 3).1
  have h5 := H4.out.set 2 (.int .i64 (r1 : Int))
  simp only [if_true, if_false, Nat.reduceEqDiff] at h5
  have H5 := Lib.hid h5
  clear H4 h5
  go_upto_region 3 with (fail)
  clear a0 a1 a2 a3 f0 f1 f2 f3
  generalize w4.setCell ⟨b, 2, none⟩ (.int .i64 (r1 : Int)) = w5 at *
  obtain ⟨o1, ho1⟩ : ∃ o1 : Ot, o1 = ⟨⟨#[]⟩, (r1 : Int), (r1 : Int), z⟩ := ⟨_, rfl⟩
  have H6 : Hid (Qd w w5 g v n b (.string o1.text) (.int .i64 o1.base) (.int .i64 o1.sent) (.int .i64 o1.room) ∧ o1.Ok ∧ o1.base ≤ 49) := by
    rw [ho1]
    refine Lib.hid ⟨H5.out, ?_, by simp only; omega⟩
    unfold Ot.Ok
    simp only
    have : (ByteArray.mk #[]).size = 0 := rfl
    omega
  clear H5 ho1 hz2 hr1
  go_wp2_with (fail)
  go_loopw [4] (fun i wr => ∃ (k : Nat) (o : Ot), k ≤ 4 ∧ i = .int .i64 (k : Int) ∧ o.Ok ∧ o.base ≤ 49 + 19 * (k : Int) ∧ Qd w wr g v n b (.string o.text) (.int .i64 o.base) (.int .i64 o.sent) (.int .i64 o.room)) (fun i _ => 10 - (intOf i).toNat)
  case atStart => exact ⟨0, o1, by omega, rfl, H6.out.2.1, by have := H6.out.2.2; omega, H6.out.1⟩
  case round =>
    clear H6
    obtain ⟨k, o, hk, rfl, hok, hbs, Q⟩ := hrel
    have H7 := Lib.hid Q
    clear Q
    go_wp2_with (fail)
    with_reducible refine (c5 _ H7.out.d).mono ?_
    rintro e w7 ⟨r, hr, rfl, d7, o7⟩
    have H8 := Lib.hid (H7.out.only o7 d7)
    clear H7 d7 o7
    by_cases hlt : k < r
    · have q1 : (k : Int) < (r : Int) := by omega
      have hts : (o.text.size : Int) ≤ 200 := by unfold Ot.Ok at hok; omega
      have cA := fun x W (hx : x.size ≤ 100000000000) => spec_accept o x W (by omega) hx
      have cW := fun W => spec_was o W (by omega)
      have cC := fun u W => spec_came o u W (by omega)
      have cN := fun W => spec_anew o W (by omega)
      have pA := fun x => acc_ok o x hok
      have pW := was_ok o hok
      have pC := fun u => came_ok o u hok (by omega)
      have pN := anw_ok o hok
      have HP := Lib.hid (And.intro hbs (And.intro pA (And.intro pW (And.intro pC pN))))
      have HP2 := Lib.hid (show 0 ≤ o.base ∧ o.base ≤ 1000 by unfold Ot.Ok at hok; omega)
      clear hok hts pA pW pC pN
      go_wp2_with (fail)
      with_reducible refine (c4 _ H8.out.d).mono ?_
      rintro e w8 ⟨q, hq, rfl, d8, o8⟩
      have H9 := Lib.hid (H8.out.only o8 d8)
      clear H8 d8 o8
      have e9 : IntKind.i64.wrap ((k : Int) + 1) = (k : Int) + 1 := IntWalk.i64_in _ (by omega)
      by_cases h0 : q = 0
      · have t0 : ((q : Int) == 0) = true := by simp [h0]
        clear h0
        go_upto_region 9 with (fail)
        have H9 := Lib.hid H9.out.drew
        refine wp_region_held_drew (S := fun W => True) (by kernel_rfl) trivial (fun hHeld => ?_)
        refine take_yes (i := 1) (oi := { dst := some 28, op := Op.move (Operand.tmp 0), type := 53, pos := "l10_sends.go:68", after := #[], guard := none }) (v := .pointer (some ⟨g, 0, none⟩)) rfl (by kernel_rfl) (by kernel_rfl) (by kernel_rfl) (fun _ _ _ h => h) (by rfl) (fun w hSw => by (try dsimp only at hSw); go_simp) (by assumption) ?_
        try simp only [Act.put, List.setIfInBounds_toArray, List.set_cons_zero, List.set_cons_succ]
        refine take_yes (i := 2) (oi := { dst := some 29, op := Op.move (Operand.tmp 0), type := 53, pos := "l10_sends.go:68", after := #[], guard := none }) (v := .pointer (some ⟨g, 0, none⟩)) rfl (by kernel_rfl) (by kernel_rfl) (by kernel_rfl) (fun _ _ _ h => h) (by rfl) (fun w hSw => by (try dsimp only at hSw); go_simp) (by assumption) ?_
        try simp only [Act.put, List.setIfInBounds_toArray, List.set_cons_zero, List.set_cons_succ]
        refine wpAnyH_ready (rs := [0, 3]) (by kernel_rfl) (by simp) ?_
        refine AllReadyH.cons (o := { dst := some 27, op := Op.load 33 (Operand.tmp 3), type := 33, pos := "l10_sends.go:68", after := #[], guard := none }) rfl (fun K hK => ?_) ?_
        · obtain ⟨a0, a1, a2, a3⟩ := H9.out.all
          go_simp
          clear a0 a1 a2 a3
          refine hK.out _ _ trivial (fun hHeldN => ?_)
          clear hK K hHeld
          have hHeld := hHeldN
          clear hHeldN
          try simp only [Act.put, List.setIfInBounds_toArray, List.set_cons_zero, List.set_cons_succ]
          refine wpAnyH_ready (rs := [3]) (by kernel_rfl) (by simp) ?_
          refine AllReadyH.cons (o := { dst := some 30, op := Op.call { callee := Callee.value (Operand.func 38), args := #[Operand.tmp 29, Operand.const (Value.int IntKind.i64 40)], argTypes := #[53, 3] }, type := 3, pos := "l10_sends.go:68", after := #[{ on := 2, ground := Ground.data }], guard := none }) rfl (fun K hK => ?_) AllReadyH.nil
          go_simp
          with_reducible refine (c40 _ H9.out.d).mono ?_
          rintro e wA ⟨m, hm, rfl, dA, oA⟩
          have HA := Lib.hid (H9.out.only oA dA)
          clear dA oA H9
          have ct := fun W h => qtext g v n m m rfl W h (by omega)
          generalize (m : Int) = mi at *
          refine hK.out _ _ trivial (fun hHeldN => ?_)
          clear hK K hHeld
          have hHeld := hHeldN
          clear hHeldN
          try simp only [Act.put, List.setIfInBounds_toArray, List.set_cons_zero, List.set_cons_succ]
          refine wpAnyH_ready (rs := [4]) (by kernel_rfl) (by simp) ?_
          refine AllReadyH.cons (o := { dst := some 31, op := Op.call { callee := Callee.value (Operand.func 39), args := #[Operand.tmp 28, Operand.tmp 30], argTypes := #[53, 3] }, type := 9, pos := "l10_sends.go:68", after := #[{ on := 1, ground := Ground.data }, { on := 3, ground := Ground.data }, { on := 3, ground := Ground.chain }], guard := none }) rfl (fun K hK => ?_) AllReadyH.nil
          go_simp
          with_reducible refine (ct _ HA.out.d).mono ?_
          rintro e wB ⟨x, hx, rfl, dB, oB⟩
          have HB := Lib.hid (HA.out.grew oB dB)
          clear dB oB HA ct
          refine hK.out _ _ trivial (fun hHeldN => ?_)
          clear hK K hHeld
          have hHeld := hHeldN
          clear hHeldN
          try simp only [Act.put, List.setIfInBounds_toArray, List.set_cons_zero, List.set_cons_succ]
          refine wpAnyH_ready (rs := [5]) (by kernel_rfl) (by simp) ?_
          refine AllReadyH.cons (o := { dst := some 32, op := Op.call { callee := Callee.value (Operand.func 28), args := #[Operand.tmp 27, Operand.tmp 31], argTypes := #[33, 9] }, type := 36, pos := "l10_sends.go:68", after := #[{ on := 0, ground := Ground.data }, { on := 4, ground := Ground.data }, { on := 4, ground := Ground.chain }], guard := none }) rfl (fun K hK => ?_) AllReadyH.nil
          go_simp
          with_reducible refine (cA x _ (by omega)).mono ?_
          rintro e wC ⟨rfl, hbC⟩
          have HC := Lib.hid (HB.out.kept hbC)
          have pa := Lib.hid (HP.out.2.1 x)
          have hb9 := HP.out.1
          generalize acc o x = ac at *
          obtain ⟨o2, n2⟩ := ac
          clear hbC HB cA
          refine hK.out _ _ trivial (fun hHeldN => ?_)
          clear hK K hHeld
          have hHeld := hHeldN
          clear hHeldN
          try simp only [Act.put, List.setIfInBounds_toArray, List.set_cons_zero, List.set_cons_succ]
          refine take_yes (i := 6) (oi := { dst := some 26, op := Op.move (Operand.tmp 32), type := 36, pos := "l10_sends.go:68", after := #[{ on := 5, ground := Ground.data }], guard := none }) (v := .tuple #[.agg #[.string o2.text, .int .i64 o2.base, .int .i64 o2.sent, .int .i64 o2.room], .int .i64 n2]) rfl (by kernel_rfl) (by kernel_rfl) (by kernel_rfl) (fun _ _ _ h => h) (by rfl) (fun w hSw => by (try dsimp only at hSw); go_simp) (by assumption) ?_
          try simp only [Act.put, List.setIfInBounds_toArray, List.set_cons_zero, List.set_cons_succ]
          refine take_yes (i := 7) (oi := { dst := some 33, op := Op.extract (Operand.tmp 26) 0, type := 33, pos := "l10_sends.go:68", after := #[{ on := 6, ground := Ground.data }], guard := none }) (v := .agg #[.string o2.text, .int .i64 o2.base, .int .i64 o2.sent, .int .i64 o2.room]) rfl (by kernel_rfl) (by kernel_rfl) (by kernel_rfl) (fun _ _ _ h => h) (by rfl) (fun w hSw => by (try dsimp only at hSw); go_simp) (by assumption) ?_
          try simp only [Act.put, List.setIfInBounds_toArray, List.set_cons_zero, List.set_cons_succ]
          refine take_yes (i := 8) (oi := { dst := some 34, op := Op.extract (Operand.tmp 26) 1, type := 3, pos := "l10_sends.go:68", after := #[{ on := 6, ground := Ground.data }, { on := 9, ground := Ground.gcOnly Departure.lateStores }], guard := none }) (v := .int .i64 n2) rfl (by kernel_rfl) (by kernel_rfl) (by kernel_rfl) (fun _ _ _ h => h) (by rfl) (fun w hSw => by (try dsimp only at hSw); go_simp) (by assumption) ?_
          try simp only [Act.put, List.setIfInBounds_toArray, List.set_cons_zero, List.set_cons_succ]
          refine wpAnyH_ready (rs := [9]) (by kernel_rfl) (by simp) ?_
          refine AllReadyH.cons (o := { dst := none, op := Op.store 33 (Operand.tmp 3) (Operand.tmp 33), type := 0, pos := "l10_sends.go:68", after := #[{ on := 7, ground := Ground.data }, { on := 5, ground := Ground.chain }, { on := 0, ground := Ground.phase }, { on := 1, ground := Ground.phase }, { on := 2, ground := Ground.phase }, { on := 3, ground := Ground.phase }, { on := 4, ground := Ground.phase }, { on := 5, ground := Ground.phase }, { on := 6, ground := Ground.phase }, { on := 7, ground := Ground.phase }, { on := 8, ground := Ground.textOnly Departure.lateStores }], guard := none }) rfl (fun K hK => ?_) AllReadyH.nil
          obtain ⟨a0, a1, a2, a3⟩ := HC.out.all
          have f0 := (HC.out.fr 0).1
          have f1 := (HC.out.fr 1).1
          have f2 := (HC.out.fr 2).1
          have f3 := (HC.out.fr 3).1
          go_simp
          have HD := Lib.hid (HC.out.put (.string o2.text) (.int .i64 o2.base) (.int .i64 o2.sent) (.int .i64 o2.room))
          clear HC a0 a1 a2 a3 f0 f1 f2 f3
          refine hK.out _ _ trivial (fun hHeldN => ?_)
          clear hK K hHeld
          have hHeld := hHeldN
          clear hHeldN
          try simp only [Act.put, List.setIfInBounds_toArray, List.set_cons_zero, List.set_cons_succ]
          refine wpAnyH_done (by kernel_rfl) ?_ _
          clear hHeld
          go_wp2_with (fail)
          go_roundw
          case rel => exact ⟨k + 1, o2, by omega, by go_num, pa.out.1, by have := pa.out.2; simp only at this; omega, HD.out⟩
          case measure => simp [intOf]; omega
        refine AllReadyH.cons (o := { dst := some 30, op := Op.call { callee := Callee.value (Operand.func 38), args := #[Operand.tmp 29, Operand.const (Value.int IntKind.i64 40)], argTypes := #[53, 3] }, type := 3, pos := "l10_sends.go:68", after := #[{ on := 2, ground := Ground.data }], guard := none }) rfl (fun K hK => ?_) AllReadyH.nil
        go_simp
        with_reducible refine (c40 _ H9.out.d).mono ?_
        rintro e wA ⟨m, hm, rfl, dA, oA⟩
        have HA := Lib.hid (H9.out.only oA dA)
        clear dA oA H9
        have ct := fun W h => qtext g v n m m rfl W h (by omega)
        generalize (m : Int) = mi at *
        refine hK.out _ _ trivial (fun hHeldN => ?_)
        clear hK K hHeld
        have hHeld := hHeldN
        clear hHeldN
        try simp only [Act.put, List.setIfInBounds_toArray, List.set_cons_zero, List.set_cons_succ]
        refine wpAnyH_ready (rs := [0, 4]) (by kernel_rfl) (by simp) ?_
        refine AllReadyH.cons (o := { dst := some 27, op := Op.load 33 (Operand.tmp 3), type := 33, pos := "l10_sends.go:68", after := #[], guard := none }) rfl (fun K hK => ?_) ?_
        · obtain ⟨a0, a1, a2, a3⟩ := HA.out.all
          go_simp
          clear a0 a1 a2 a3
          refine hK.out _ _ trivial (fun hHeldN => ?_)
          clear hK K hHeld
          have hHeld := hHeldN
          clear hHeldN
          try simp only [Act.put, List.setIfInBounds_toArray, List.set_cons_zero, List.set_cons_succ]
          refine wpAnyH_ready (rs := [4]) (by kernel_rfl) (by simp) ?_
          refine AllReadyH.cons (o := { dst := some 31, op := Op.call { callee := Callee.value (Operand.func 39), args := #[Operand.tmp 28, Operand.tmp 30], argTypes := #[53, 3] }, type := 9, pos := "l10_sends.go:68", after := #[{ on := 1, ground := Ground.data }, { on := 3, ground := Ground.data }, { on := 3, ground := Ground.chain }], guard := none }) rfl (fun K hK => ?_) AllReadyH.nil
          go_simp
          with_reducible refine (ct _ HA.out.d).mono ?_
          rintro e wB ⟨x, hx, rfl, dB, oB⟩
          have HB := Lib.hid (HA.out.grew oB dB)
          clear dB oB HA ct
          refine hK.out _ _ trivial (fun hHeldN => ?_)
          clear hK K hHeld
          have hHeld := hHeldN
          clear hHeldN
          try simp only [Act.put, List.setIfInBounds_toArray, List.set_cons_zero, List.set_cons_succ]
          refine wpAnyH_ready (rs := [5]) (by kernel_rfl) (by simp) ?_
          refine AllReadyH.cons (o := { dst := some 32, op := Op.call { callee := Callee.value (Operand.func 28), args := #[Operand.tmp 27, Operand.tmp 31], argTypes := #[33, 9] }, type := 36, pos := "l10_sends.go:68", after := #[{ on := 0, ground := Ground.data }, { on := 4, ground := Ground.data }, { on := 4, ground := Ground.chain }], guard := none }) rfl (fun K hK => ?_) AllReadyH.nil
          go_simp
          with_reducible refine (cA x _ (by omega)).mono ?_
          rintro e wC ⟨rfl, hbC⟩
          have HC := Lib.hid (HB.out.kept hbC)
          have pa := Lib.hid (HP.out.2.1 x)
          have hb9 := HP.out.1
          generalize acc o x = ac at *
          obtain ⟨o2, n2⟩ := ac
          clear hbC HB cA
          refine hK.out _ _ trivial (fun hHeldN => ?_)
          clear hK K hHeld
          have hHeld := hHeldN
          clear hHeldN
          try simp only [Act.put, List.setIfInBounds_toArray, List.set_cons_zero, List.set_cons_succ]
          refine take_yes (i := 6) (oi := { dst := some 26, op := Op.move (Operand.tmp 32), type := 36, pos := "l10_sends.go:68", after := #[{ on := 5, ground := Ground.data }], guard := none }) (v := .tuple #[.agg #[.string o2.text, .int .i64 o2.base, .int .i64 o2.sent, .int .i64 o2.room], .int .i64 n2]) rfl (by kernel_rfl) (by kernel_rfl) (by kernel_rfl) (fun _ _ _ h => h) (by rfl) (fun w hSw => by (try dsimp only at hSw); go_simp) (by assumption) ?_
          try simp only [Act.put, List.setIfInBounds_toArray, List.set_cons_zero, List.set_cons_succ]
          refine take_yes (i := 7) (oi := { dst := some 33, op := Op.extract (Operand.tmp 26) 0, type := 33, pos := "l10_sends.go:68", after := #[{ on := 6, ground := Ground.data }], guard := none }) (v := .agg #[.string o2.text, .int .i64 o2.base, .int .i64 o2.sent, .int .i64 o2.room]) rfl (by kernel_rfl) (by kernel_rfl) (by kernel_rfl) (fun _ _ _ h => h) (by rfl) (fun w hSw => by (try dsimp only at hSw); go_simp) (by assumption) ?_
          try simp only [Act.put, List.setIfInBounds_toArray, List.set_cons_zero, List.set_cons_succ]
          refine take_yes (i := 8) (oi := { dst := some 34, op := Op.extract (Operand.tmp 26) 1, type := 3, pos := "l10_sends.go:68", after := #[{ on := 6, ground := Ground.data }, { on := 9, ground := Ground.gcOnly Departure.lateStores }], guard := none }) (v := .int .i64 n2) rfl (by kernel_rfl) (by kernel_rfl) (by kernel_rfl) (fun _ _ _ h => h) (by rfl) (fun w hSw => by (try dsimp only at hSw); go_simp) (by assumption) ?_
          try simp only [Act.put, List.setIfInBounds_toArray, List.set_cons_zero, List.set_cons_succ]
          refine wpAnyH_ready (rs := [9]) (by kernel_rfl) (by simp) ?_
          refine AllReadyH.cons (o := { dst := none, op := Op.store 33 (Operand.tmp 3) (Operand.tmp 33), type := 0, pos := "l10_sends.go:68", after := #[{ on := 7, ground := Ground.data }, { on := 5, ground := Ground.chain }, { on := 0, ground := Ground.phase }, { on := 1, ground := Ground.phase }, { on := 2, ground := Ground.phase }, { on := 3, ground := Ground.phase }, { on := 4, ground := Ground.phase }, { on := 5, ground := Ground.phase }, { on := 6, ground := Ground.phase }, { on := 7, ground := Ground.phase }, { on := 8, ground := Ground.textOnly Departure.lateStores }], guard := none }) rfl (fun K hK => ?_) AllReadyH.nil
          obtain ⟨a0, a1, a2, a3⟩ := HC.out.all
          have f0 := (HC.out.fr 0).1
          have f1 := (HC.out.fr 1).1
          have f2 := (HC.out.fr 2).1
          have f3 := (HC.out.fr 3).1
          go_simp
          have HD := Lib.hid (HC.out.put (.string o2.text) (.int .i64 o2.base) (.int .i64 o2.sent) (.int .i64 o2.room))
          clear HC a0 a1 a2 a3 f0 f1 f2 f3
          refine hK.out _ _ trivial (fun hHeldN => ?_)
          clear hK K hHeld
          have hHeld := hHeldN
          clear hHeldN
          try simp only [Act.put, List.setIfInBounds_toArray, List.set_cons_zero, List.set_cons_succ]
          refine wpAnyH_done (by kernel_rfl) ?_ _
          clear hHeld
          go_wp2_with (fail)
          go_roundw
          case rel => exact ⟨k + 1, o2, by omega, by go_num, pa.out.1, by have := pa.out.2; simp only at this; omega, HD.out⟩
          case measure => simp [intOf]; omega
        refine AllReadyH.cons (o := { dst := some 31, op := Op.call { callee := Callee.value (Operand.func 39), args := #[Operand.tmp 28, Operand.tmp 30], argTypes := #[53, 3] }, type := 9, pos := "l10_sends.go:68", after := #[{ on := 1, ground := Ground.data }, { on := 3, ground := Ground.data }, { on := 3, ground := Ground.chain }], guard := none }) rfl (fun K hK => ?_) AllReadyH.nil
        go_simp
        with_reducible refine (ct _ HA.out.d).mono ?_
        rintro e wB ⟨x, hx, rfl, dB, oB⟩
        have HB := Lib.hid (HA.out.grew oB dB)
        clear dB oB HA ct
        refine hK.out _ _ trivial (fun hHeldN => ?_)
        clear hK K hHeld
        have hHeld := hHeldN
        clear hHeldN
        try simp only [Act.put, List.setIfInBounds_toArray, List.set_cons_zero, List.set_cons_succ]
        refine wpAnyH_ready (rs := [0]) (by kernel_rfl) (by simp) ?_
        refine AllReadyH.cons (o := { dst := some 27, op := Op.load 33 (Operand.tmp 3), type := 33, pos := "l10_sends.go:68", after := #[], guard := none }) rfl (fun K hK => ?_) AllReadyH.nil
        obtain ⟨a0, a1, a2, a3⟩ := HB.out.all
        go_simp
        clear a0 a1 a2 a3
        refine hK.out _ _ trivial (fun hHeldN => ?_)
        clear hK K hHeld
        have hHeld := hHeldN
        clear hHeldN
        try simp only [Act.put, List.setIfInBounds_toArray, List.set_cons_zero, List.set_cons_succ]
        refine wpAnyH_ready (rs := [5]) (by kernel_rfl) (by simp) ?_
        refine AllReadyH.cons (o := { dst := some 32, op := Op.call { callee := Callee.value (Operand.func 28), args := #[Operand.tmp 27, Operand.tmp 31], argTypes := #[33, 9] }, type := 36, pos := "l10_sends.go:68", after := #[{ on := 0, ground := Ground.data }, { on := 4, ground := Ground.data }, { on := 4, ground := Ground.chain }], guard := none }) rfl (fun K hK => ?_) AllReadyH.nil
        go_simp
        with_reducible refine (cA x _ (by omega)).mono ?_
        rintro e wC ⟨rfl, hbC⟩
        have HC := Lib.hid (HB.out.kept hbC)
        have pa := Lib.hid (HP.out.2.1 x)
        have hb9 := HP.out.1
        generalize acc o x = ac at *
        obtain ⟨o2, n2⟩ := ac
        clear hbC HB cA
        refine hK.out _ _ trivial (fun hHeldN => ?_)
        clear hK K hHeld
        have hHeld := hHeldN
        clear hHeldN
        try simp only [Act.put, List.setIfInBounds_toArray, List.set_cons_zero, List.set_cons_succ]
        refine take_yes (i := 6) (oi := { dst := some 26, op := Op.move (Operand.tmp 32), type := 36, pos := "l10_sends.go:68", after := #[{ on := 5, ground := Ground.data }], guard := none }) (v := .tuple #[.agg #[.string o2.text, .int .i64 o2.base, .int .i64 o2.sent, .int .i64 o2.room], .int .i64 n2]) rfl (by kernel_rfl) (by kernel_rfl) (by kernel_rfl) (fun _ _ _ h => h) (by rfl) (fun w hSw => by (try dsimp only at hSw); go_simp) (by assumption) ?_
        try simp only [Act.put, List.setIfInBounds_toArray, List.set_cons_zero, List.set_cons_succ]
        refine take_yes (i := 7) (oi := { dst := some 33, op := Op.extract (Operand.tmp 26) 0, type := 33, pos := "l10_sends.go:68", after := #[{ on := 6, ground := Ground.data }], guard := none }) (v := .agg #[.string o2.text, .int .i64 o2.base, .int .i64 o2.sent, .int .i64 o2.room]) rfl (by kernel_rfl) (by kernel_rfl) (by kernel_rfl) (fun _ _ _ h => h) (by rfl) (fun w hSw => by (try dsimp only at hSw); go_simp) (by assumption) ?_
        try simp only [Act.put, List.setIfInBounds_toArray, List.set_cons_zero, List.set_cons_succ]
        refine take_yes (i := 8) (oi := { dst := some 34, op := Op.extract (Operand.tmp 26) 1, type := 3, pos := "l10_sends.go:68", after := #[{ on := 6, ground := Ground.data }, { on := 9, ground := Ground.gcOnly Departure.lateStores }], guard := none }) (v := .int .i64 n2) rfl (by kernel_rfl) (by kernel_rfl) (by kernel_rfl) (fun _ _ _ h => h) (by rfl) (fun w hSw => by (try dsimp only at hSw); go_simp) (by assumption) ?_
        try simp only [Act.put, List.setIfInBounds_toArray, List.set_cons_zero, List.set_cons_succ]
        refine wpAnyH_ready (rs := [9]) (by kernel_rfl) (by simp) ?_
        refine AllReadyH.cons (o := { dst := none, op := Op.store 33 (Operand.tmp 3) (Operand.tmp 33), type := 0, pos := "l10_sends.go:68", after := #[{ on := 7, ground := Ground.data }, { on := 5, ground := Ground.chain }, { on := 0, ground := Ground.phase }, { on := 1, ground := Ground.phase }, { on := 2, ground := Ground.phase }, { on := 3, ground := Ground.phase }, { on := 4, ground := Ground.phase }, { on := 5, ground := Ground.phase }, { on := 6, ground := Ground.phase }, { on := 7, ground := Ground.phase }, { on := 8, ground := Ground.textOnly Departure.lateStores }], guard := none }) rfl (fun K hK => ?_) AllReadyH.nil
        obtain ⟨a0, a1, a2, a3⟩ := HC.out.all
        have f0 := (HC.out.fr 0).1
        have f1 := (HC.out.fr 1).1
        have f2 := (HC.out.fr 2).1
        have f3 := (HC.out.fr 3).1
        go_simp
        have HD := Lib.hid (HC.out.put (.string o2.text) (.int .i64 o2.base) (.int .i64 o2.sent) (.int .i64 o2.room))
        clear HC a0 a1 a2 a3 f0 f1 f2 f3
        refine hK.out _ _ trivial (fun hHeldN => ?_)
        clear hK K hHeld
        have hHeld := hHeldN
        clear hHeldN
        try simp only [Act.put, List.setIfInBounds_toArray, List.set_cons_zero, List.set_cons_succ]
        refine wpAnyH_done (by kernel_rfl) ?_ _
        clear hHeld
        go_wp2_with (fail)
        go_roundw
        case rel => exact ⟨k + 1, o2, by omega, by go_num, pa.out.1, by have := pa.out.2; simp only at this; omega, HD.out⟩
        case measure => simp [intOf]; omega
      · have t0 : ((q : Int) == 0) = false := by simp; omega
        by_cases h1 : q = 1
        · have t1 : ((q : Int) == 1) = true := by simp [h1]
          clear h0 h1
          obtain ⟨a0, a1, a2, a3⟩ := H9.out.all
          go_wp2_with (fail)
          with_reducible refine (cW _).mono ?_
          rintro e wA ⟨rfl, hbA⟩
          have HA := Lib.hid (H9.out.kept hbA)
          have pw := Lib.hid HP.out.2.2.1
          have hb9 := HP.out.1
          generalize was o = o2 at *
          clear hbA H9 a0 a1 a2 a3 cW
          obtain ⟨a0, a1, a2, a3⟩ := HA.out.all
          have f0 := (HA.out.fr 0).1
          have f1 := (HA.out.fr 1).1
          have f2 := (HA.out.fr 2).1
          have f3 := (HA.out.fr 3).1
          have HD := Lib.hid (HA.out.put (.string o2.text) (.int .i64 o2.base) (.int .i64 o2.sent) (.int .i64 o2.room))
          clear HA
          go_wp2_with (fail)
          go_roundw
          case rel => exact ⟨k + 1, o2, by omega, by go_num, pw.out.1, by rw [pw.out.2]; omega, HD.out⟩
          case measure => simp [intOf]; omega
        · have t1 : ((q : Int) == 1) = false := by simp; omega
          by_cases h2 : q = 2
          · have t2 : ((q : Int) == 2) = true := by simp [h2]
            clear h0 h1 h2
            go_upto_region 13 with (fail)
            have H9 := Lib.hid H9.out.drew
            refine wp_region_held_drew (S := fun W => True) (by kernel_rfl) trivial (fun hHeld => ?_)
            refine take_yes (i := 1) (oi := { dst := some 42, op := Op.fieldAddr 33 (Operand.tmp 3) 1, type := 0, pos := "l10_sends.go:72", after := #[], guard := none }) (v := .pointer (some ⟨b, 1, none⟩)) rfl (by kernel_rfl) (by kernel_rfl) (by kernel_rfl) (fun _ _ _ h => h) (by rfl) (fun w hSw => by (try dsimp only at hSw); go_simp) (by assumption) ?_
            try simp only [Act.put, List.setIfInBounds_toArray, List.set_cons_zero, List.set_cons_succ]
            refine take_yes (i := 3) (oi := { dst := some 44, op := Op.move (Operand.tmp 0), type := 53, pos := "l10_sends.go:72", after := #[], guard := none }) (v := .pointer (some ⟨g, 0, none⟩)) rfl (by kernel_rfl) (by kernel_rfl) (by kernel_rfl) (fun _ _ _ h => h) (by rfl) (fun w hSw => by (try dsimp only at hSw); go_simp) (by assumption) ?_
            try simp only [Act.put, List.setIfInBounds_toArray, List.set_cons_zero, List.set_cons_succ]
            refine wpAnyH_ready (rs := [0, 2, 4]) (by kernel_rfl) (by simp) ?_
            refine AllReadyH.cons (o := { dst := some 41, op := Op.load 33 (Operand.tmp 3), type := 33, pos := "l10_sends.go:72", after := #[], guard := none }) rfl (fun K hK => ?_) ?_
            · obtain ⟨a0, a1, a2, a3⟩ := H9.out.all
              go_simp
              clear a0 a1 a2 a3
              refine hK.out _ _ trivial (fun hHeldN => ?_)
              clear hK K hHeld
              have hHeld := hHeldN
              clear hHeldN
              try simp only [Act.put, List.setIfInBounds_toArray, List.set_cons_zero, List.set_cons_succ]
              refine wpAnyH_ready (rs := [2, 4]) (by kernel_rfl) (by simp) ?_
              refine AllReadyH.cons (o := { dst := some 43, op := Op.load 3 (Operand.tmp 42), type := 3, pos := "l10_sends.go:72", after := #[{ on := 1, ground := Ground.data }], guard := none }) rfl (fun K hK => ?_) ?_
              · obtain ⟨a0, a1, a2, a3⟩ := H9.out.all
                go_simp
                clear a0 a1 a2 a3
                refine hK.out _ _ trivial (fun hHeldN => ?_)
                clear hK K hHeld
                have hHeld := hHeldN
                clear hHeldN
                try simp only [Act.put, List.setIfInBounds_toArray, List.set_cons_zero, List.set_cons_succ]
                refine wpAnyH_ready (rs := [4]) (by kernel_rfl) (by simp) ?_
                refine AllReadyH.cons (o := { dst := some 45, op := Op.call { callee := Callee.value (Operand.func 38), args := #[Operand.tmp 44, Operand.const (Value.int IntKind.i64 20)], argTypes := #[53, 3] }, type := 3, pos := "l10_sends.go:72", after := #[{ on := 3, ground := Ground.data }], guard := none }) rfl (fun K hK => ?_) AllReadyH.nil
                go_simp
                with_reducible refine (c20 _ H9.out.d).mono ?_
                rintro e wA ⟨m, hm, rfl, dA, oA⟩
                have HA := Lib.hid (H9.out.only oA dA)
                clear dA oA H9
                refine hK.out _ _ trivial (fun hHeldN => ?_)
                clear hK K hHeld
                have hHeld := hHeldN
                clear hHeldN
                try simp only [Act.put, List.setIfInBounds_toArray, List.set_cons_zero, List.set_cons_succ]
                have hb9 := HP.out.1
                have e13 : IntKind.i64.wrap (o.base + (m : Int)) = o.base + (m : Int) := IntWalk.i64_in _ (by have := HP2.out; omega)
                refine take_yes (i := 5) (oi := { dst := some 46, op := Op.binOp BinOp.add 3 (Operand.tmp 43) (Operand.tmp 45) 3, type := 3, pos := "l10_sends.go:72", after := #[{ on := 2, ground := Ground.data }, { on := 4, ground := Ground.data }], guard := none }) (v := .int .i64 (o.base + (m : Int))) rfl (by kernel_rfl) (by kernel_rfl) (by kernel_rfl) (fun _ _ _ h => h) (by rfl) (fun w hSw => by (try dsimp only at hSw); go_simp) (by assumption) ?_
                try simp only [Act.put, List.setIfInBounds_toArray, List.set_cons_zero, List.set_cons_succ]
                refine wpAnyH_ready (rs := [6]) (by kernel_rfl) (by simp) ?_
                refine AllReadyH.cons (o := { dst := some 47, op := Op.call { callee := Callee.value (Operand.func 33), args := #[Operand.tmp 41, Operand.tmp 46], argTypes := #[33, 3] }, type := 33, pos := "l10_sends.go:72", after := #[{ on := 0, ground := Ground.data }, { on := 5, ground := Ground.data }, { on := 4, ground := Ground.chain }], guard := none }) rfl (fun K hK => ?_) AllReadyH.nil
                go_simp
                with_reducible refine (cC _ _).mono ?_
                rintro e wC ⟨rfl, hbC⟩
                have HC := Lib.hid (HA.out.kept hbC)
                have pc := Lib.hid (HP.out.2.2.2.1 (o.base + (m : Int)) (by omega))
                generalize came o (o.base + (m : Int)) = o2 at *
                clear hbC HA cC
                refine hK.out _ _ trivial (fun hHeldN => ?_)
                clear hK K hHeld
                have hHeld := hHeldN
                clear hHeldN
                try simp only [Act.put, List.setIfInBounds_toArray, List.set_cons_zero, List.set_cons_succ]
                refine wpAnyH_ready (rs := [7]) (by kernel_rfl) (by simp) ?_
                refine AllReadyH.cons (o := { dst := none, op := Op.store 33 (Operand.tmp 3) (Operand.tmp 47), type := 0, pos := "l10_sends.go:72", after := #[{ on := 6, ground := Ground.data }, { on := 6, ground := Ground.chain }, { on := 0, ground := Ground.phase }, { on := 1, ground := Ground.phase }, { on := 2, ground := Ground.phase }, { on := 3, ground := Ground.phase }, { on := 4, ground := Ground.phase }, { on := 5, ground := Ground.phase }, { on := 6, ground := Ground.phase }], guard := none }) rfl (fun K hK => ?_) AllReadyH.nil
                obtain ⟨a0, a1, a2, a3⟩ := HC.out.all
                have f0 := (HC.out.fr 0).1
                have f1 := (HC.out.fr 1).1
                have f2 := (HC.out.fr 2).1
                have f3 := (HC.out.fr 3).1
                go_simp
                have HD := Lib.hid (HC.out.put (.string o2.text) (.int .i64 o2.base) (.int .i64 o2.sent) (.int .i64 o2.room))
                clear HC a0 a1 a2 a3 f0 f1 f2 f3 e13
                refine hK.out _ _ trivial (fun hHeldN => ?_)
                clear hK K hHeld
                have hHeld := hHeldN
                clear hHeldN
                try simp only [Act.put, List.setIfInBounds_toArray, List.set_cons_zero, List.set_cons_succ]
                refine wpAnyH_done (by kernel_rfl) ?_ _
                clear hHeld
                go_wp2_with (fail)
                go_roundw
                case rel => exact ⟨k + 1, o2, by omega, by go_num, pc.out.1, by have := pc.out.2; omega, HD.out⟩
                case measure => simp [intOf]; omega
              refine AllReadyH.cons (o := { dst := some 45, op := Op.call { callee := Callee.value (Operand.func 38), args := #[Operand.tmp 44, Operand.const (Value.int IntKind.i64 20)], argTypes := #[53, 3] }, type := 3, pos := "l10_sends.go:72", after := #[{ on := 3, ground := Ground.data }], guard := none }) rfl (fun K hK => ?_) AllReadyH.nil
              go_simp
              with_reducible refine (c20 _ H9.out.d).mono ?_
              rintro e wA ⟨m, hm, rfl, dA, oA⟩
              have HA := Lib.hid (H9.out.only oA dA)
              clear dA oA H9
              refine hK.out _ _ trivial (fun hHeldN => ?_)
              clear hK K hHeld
              have hHeld := hHeldN
              clear hHeldN
              try simp only [Act.put, List.setIfInBounds_toArray, List.set_cons_zero, List.set_cons_succ]
              refine wpAnyH_ready (rs := [2]) (by kernel_rfl) (by simp) ?_
              refine AllReadyH.cons (o := { dst := some 43, op := Op.load 3 (Operand.tmp 42), type := 3, pos := "l10_sends.go:72", after := #[{ on := 1, ground := Ground.data }], guard := none }) rfl (fun K hK => ?_) AllReadyH.nil
              obtain ⟨a0, a1, a2, a3⟩ := HA.out.all
              go_simp
              clear a0 a1 a2 a3
              refine hK.out _ _ trivial (fun hHeldN => ?_)
              clear hK K hHeld
              have hHeld := hHeldN
              clear hHeldN
              try simp only [Act.put, List.setIfInBounds_toArray, List.set_cons_zero, List.set_cons_succ]
              have hb9 := HP.out.1
              have e13 : IntKind.i64.wrap (o.base + (m : Int)) = o.base + (m : Int) := IntWalk.i64_in _ (by have := HP2.out; omega)
              refine take_yes (i := 5) (oi := { dst := some 46, op := Op.binOp BinOp.add 3 (Operand.tmp 43) (Operand.tmp 45) 3, type := 3, pos := "l10_sends.go:72", after := #[{ on := 2, ground := Ground.data }, { on := 4, ground := Ground.data }], guard := none }) (v := .int .i64 (o.base + (m : Int))) rfl (by kernel_rfl) (by kernel_rfl) (by kernel_rfl) (fun _ _ _ h => h) (by rfl) (fun w hSw => by (try dsimp only at hSw); go_simp) (by assumption) ?_
              try simp only [Act.put, List.setIfInBounds_toArray, List.set_cons_zero, List.set_cons_succ]
              refine wpAnyH_ready (rs := [6]) (by kernel_rfl) (by simp) ?_
              refine AllReadyH.cons (o := { dst := some 47, op := Op.call { callee := Callee.value (Operand.func 33), args := #[Operand.tmp 41, Operand.tmp 46], argTypes := #[33, 3] }, type := 33, pos := "l10_sends.go:72", after := #[{ on := 0, ground := Ground.data }, { on := 5, ground := Ground.data }, { on := 4, ground := Ground.chain }], guard := none }) rfl (fun K hK => ?_) AllReadyH.nil
              go_simp
              with_reducible refine (cC _ _).mono ?_
              rintro e wC ⟨rfl, hbC⟩
              have HC := Lib.hid (HA.out.kept hbC)
              have pc := Lib.hid (HP.out.2.2.2.1 (o.base + (m : Int)) (by omega))
              generalize came o (o.base + (m : Int)) = o2 at *
              clear hbC HA cC
              refine hK.out _ _ trivial (fun hHeldN => ?_)
              clear hK K hHeld
              have hHeld := hHeldN
              clear hHeldN
              try simp only [Act.put, List.setIfInBounds_toArray, List.set_cons_zero, List.set_cons_succ]
              refine wpAnyH_ready (rs := [7]) (by kernel_rfl) (by simp) ?_
              refine AllReadyH.cons (o := { dst := none, op := Op.store 33 (Operand.tmp 3) (Operand.tmp 47), type := 0, pos := "l10_sends.go:72", after := #[{ on := 6, ground := Ground.data }, { on := 6, ground := Ground.chain }, { on := 0, ground := Ground.phase }, { on := 1, ground := Ground.phase }, { on := 2, ground := Ground.phase }, { on := 3, ground := Ground.phase }, { on := 4, ground := Ground.phase }, { on := 5, ground := Ground.phase }, { on := 6, ground := Ground.phase }], guard := none }) rfl (fun K hK => ?_) AllReadyH.nil
              obtain ⟨a0, a1, a2, a3⟩ := HC.out.all
              have f0 := (HC.out.fr 0).1
              have f1 := (HC.out.fr 1).1
              have f2 := (HC.out.fr 2).1
              have f3 := (HC.out.fr 3).1
              go_simp
              have HD := Lib.hid (HC.out.put (.string o2.text) (.int .i64 o2.base) (.int .i64 o2.sent) (.int .i64 o2.room))
              clear HC a0 a1 a2 a3 f0 f1 f2 f3 e13
              refine hK.out _ _ trivial (fun hHeldN => ?_)
              clear hK K hHeld
              have hHeld := hHeldN
              clear hHeldN
              try simp only [Act.put, List.setIfInBounds_toArray, List.set_cons_zero, List.set_cons_succ]
              refine wpAnyH_done (by kernel_rfl) ?_ _
              clear hHeld
              go_wp2_with (fail)
              go_roundw
              case rel => exact ⟨k + 1, o2, by omega, by go_num, pc.out.1, by have := pc.out.2; omega, HD.out⟩
              case measure => simp [intOf]; omega
            refine AllReadyH.cons (o := { dst := some 43, op := Op.load 3 (Operand.tmp 42), type := 3, pos := "l10_sends.go:72", after := #[{ on := 1, ground := Ground.data }], guard := none }) rfl (fun K hK => ?_) ?_
            · obtain ⟨a0, a1, a2, a3⟩ := H9.out.all
              go_simp
              clear a0 a1 a2 a3
              refine hK.out _ _ trivial (fun hHeldN => ?_)
              clear hK K hHeld
              have hHeld := hHeldN
              clear hHeldN
              try simp only [Act.put, List.setIfInBounds_toArray, List.set_cons_zero, List.set_cons_succ]
              refine wpAnyH_ready (rs := [0, 4]) (by kernel_rfl) (by simp) ?_
              refine AllReadyH.cons (o := { dst := some 41, op := Op.load 33 (Operand.tmp 3), type := 33, pos := "l10_sends.go:72", after := #[], guard := none }) rfl (fun K hK => ?_) ?_
              · obtain ⟨a0, a1, a2, a3⟩ := H9.out.all
                go_simp
                clear a0 a1 a2 a3
                refine hK.out _ _ trivial (fun hHeldN => ?_)
                clear hK K hHeld
                have hHeld := hHeldN
                clear hHeldN
                try simp only [Act.put, List.setIfInBounds_toArray, List.set_cons_zero, List.set_cons_succ]
                refine wpAnyH_ready (rs := [4]) (by kernel_rfl) (by simp) ?_
                refine AllReadyH.cons (o := { dst := some 45, op := Op.call { callee := Callee.value (Operand.func 38), args := #[Operand.tmp 44, Operand.const (Value.int IntKind.i64 20)], argTypes := #[53, 3] }, type := 3, pos := "l10_sends.go:72", after := #[{ on := 3, ground := Ground.data }], guard := none }) rfl (fun K hK => ?_) AllReadyH.nil
                go_simp
                with_reducible refine (c20 _ H9.out.d).mono ?_
                rintro e wA ⟨m, hm, rfl, dA, oA⟩
                have HA := Lib.hid (H9.out.only oA dA)
                clear dA oA H9
                refine hK.out _ _ trivial (fun hHeldN => ?_)
                clear hK K hHeld
                have hHeld := hHeldN
                clear hHeldN
                try simp only [Act.put, List.setIfInBounds_toArray, List.set_cons_zero, List.set_cons_succ]
                have hb9 := HP.out.1
                have e13 : IntKind.i64.wrap (o.base + (m : Int)) = o.base + (m : Int) := IntWalk.i64_in _ (by have := HP2.out; omega)
                refine take_yes (i := 5) (oi := { dst := some 46, op := Op.binOp BinOp.add 3 (Operand.tmp 43) (Operand.tmp 45) 3, type := 3, pos := "l10_sends.go:72", after := #[{ on := 2, ground := Ground.data }, { on := 4, ground := Ground.data }], guard := none }) (v := .int .i64 (o.base + (m : Int))) rfl (by kernel_rfl) (by kernel_rfl) (by kernel_rfl) (fun _ _ _ h => h) (by rfl) (fun w hSw => by (try dsimp only at hSw); go_simp) (by assumption) ?_
                try simp only [Act.put, List.setIfInBounds_toArray, List.set_cons_zero, List.set_cons_succ]
                refine wpAnyH_ready (rs := [6]) (by kernel_rfl) (by simp) ?_
                refine AllReadyH.cons (o := { dst := some 47, op := Op.call { callee := Callee.value (Operand.func 33), args := #[Operand.tmp 41, Operand.tmp 46], argTypes := #[33, 3] }, type := 33, pos := "l10_sends.go:72", after := #[{ on := 0, ground := Ground.data }, { on := 5, ground := Ground.data }, { on := 4, ground := Ground.chain }], guard := none }) rfl (fun K hK => ?_) AllReadyH.nil
                go_simp
                with_reducible refine (cC _ _).mono ?_
                rintro e wC ⟨rfl, hbC⟩
                have HC := Lib.hid (HA.out.kept hbC)
                have pc := Lib.hid (HP.out.2.2.2.1 (o.base + (m : Int)) (by omega))
                generalize came o (o.base + (m : Int)) = o2 at *
                clear hbC HA cC
                refine hK.out _ _ trivial (fun hHeldN => ?_)
                clear hK K hHeld
                have hHeld := hHeldN
                clear hHeldN
                try simp only [Act.put, List.setIfInBounds_toArray, List.set_cons_zero, List.set_cons_succ]
                refine wpAnyH_ready (rs := [7]) (by kernel_rfl) (by simp) ?_
                refine AllReadyH.cons (o := { dst := none, op := Op.store 33 (Operand.tmp 3) (Operand.tmp 47), type := 0, pos := "l10_sends.go:72", after := #[{ on := 6, ground := Ground.data }, { on := 6, ground := Ground.chain }, { on := 0, ground := Ground.phase }, { on := 1, ground := Ground.phase }, { on := 2, ground := Ground.phase }, { on := 3, ground := Ground.phase }, { on := 4, ground := Ground.phase }, { on := 5, ground := Ground.phase }, { on := 6, ground := Ground.phase }], guard := none }) rfl (fun K hK => ?_) AllReadyH.nil
                obtain ⟨a0, a1, a2, a3⟩ := HC.out.all
                have f0 := (HC.out.fr 0).1
                have f1 := (HC.out.fr 1).1
                have f2 := (HC.out.fr 2).1
                have f3 := (HC.out.fr 3).1
                go_simp
                have HD := Lib.hid (HC.out.put (.string o2.text) (.int .i64 o2.base) (.int .i64 o2.sent) (.int .i64 o2.room))
                clear HC a0 a1 a2 a3 f0 f1 f2 f3 e13
                refine hK.out _ _ trivial (fun hHeldN => ?_)
                clear hK K hHeld
                have hHeld := hHeldN
                clear hHeldN
                try simp only [Act.put, List.setIfInBounds_toArray, List.set_cons_zero, List.set_cons_succ]
                refine wpAnyH_done (by kernel_rfl) ?_ _
                clear hHeld
                go_wp2_with (fail)
                go_roundw
                case rel => exact ⟨k + 1, o2, by omega, by go_num, pc.out.1, by have := pc.out.2; omega, HD.out⟩
                case measure => simp [intOf]; omega
              refine AllReadyH.cons (o := { dst := some 45, op := Op.call { callee := Callee.value (Operand.func 38), args := #[Operand.tmp 44, Operand.const (Value.int IntKind.i64 20)], argTypes := #[53, 3] }, type := 3, pos := "l10_sends.go:72", after := #[{ on := 3, ground := Ground.data }], guard := none }) rfl (fun K hK => ?_) AllReadyH.nil
              go_simp
              with_reducible refine (c20 _ H9.out.d).mono ?_
              rintro e wA ⟨m, hm, rfl, dA, oA⟩
              have HA := Lib.hid (H9.out.only oA dA)
              clear dA oA H9
              refine hK.out _ _ trivial (fun hHeldN => ?_)
              clear hK K hHeld
              have hHeld := hHeldN
              clear hHeldN
              try simp only [Act.put, List.setIfInBounds_toArray, List.set_cons_zero, List.set_cons_succ]
              have hb9 := HP.out.1
              have e13 : IntKind.i64.wrap (o.base + (m : Int)) = o.base + (m : Int) := IntWalk.i64_in _ (by have := HP2.out; omega)
              refine take_yes (i := 5) (oi := { dst := some 46, op := Op.binOp BinOp.add 3 (Operand.tmp 43) (Operand.tmp 45) 3, type := 3, pos := "l10_sends.go:72", after := #[{ on := 2, ground := Ground.data }, { on := 4, ground := Ground.data }], guard := none }) (v := .int .i64 (o.base + (m : Int))) rfl (by kernel_rfl) (by kernel_rfl) (by kernel_rfl) (fun _ _ _ h => h) (by rfl) (fun w hSw => by (try dsimp only at hSw); go_simp) (by assumption) ?_
              try simp only [Act.put, List.setIfInBounds_toArray, List.set_cons_zero, List.set_cons_succ]
              refine wpAnyH_ready (rs := [0]) (by kernel_rfl) (by simp) ?_
              refine AllReadyH.cons (o := { dst := some 41, op := Op.load 33 (Operand.tmp 3), type := 33, pos := "l10_sends.go:72", after := #[], guard := none }) rfl (fun K hK => ?_) AllReadyH.nil
              obtain ⟨a0, a1, a2, a3⟩ := HA.out.all
              go_simp
              clear a0 a1 a2 a3
              refine hK.out _ _ trivial (fun hHeldN => ?_)
              clear hK K hHeld
              have hHeld := hHeldN
              clear hHeldN
              try simp only [Act.put, List.setIfInBounds_toArray, List.set_cons_zero, List.set_cons_succ]
              refine wpAnyH_ready (rs := [6]) (by kernel_rfl) (by simp) ?_
              refine AllReadyH.cons (o := { dst := some 47, op := Op.call { callee := Callee.value (Operand.func 33), args := #[Operand.tmp 41, Operand.tmp 46], argTypes := #[33, 3] }, type := 33, pos := "l10_sends.go:72", after := #[{ on := 0, ground := Ground.data }, { on := 5, ground := Ground.data }, { on := 4, ground := Ground.chain }], guard := none }) rfl (fun K hK => ?_) AllReadyH.nil
              go_simp
              with_reducible refine (cC _ _).mono ?_
              rintro e wC ⟨rfl, hbC⟩
              have HC := Lib.hid (HA.out.kept hbC)
              have pc := Lib.hid (HP.out.2.2.2.1 (o.base + (m : Int)) (by omega))
              generalize came o (o.base + (m : Int)) = o2 at *
              clear hbC HA cC
              refine hK.out _ _ trivial (fun hHeldN => ?_)
              clear hK K hHeld
              have hHeld := hHeldN
              clear hHeldN
              try simp only [Act.put, List.setIfInBounds_toArray, List.set_cons_zero, List.set_cons_succ]
              refine wpAnyH_ready (rs := [7]) (by kernel_rfl) (by simp) ?_
              refine AllReadyH.cons (o := { dst := none, op := Op.store 33 (Operand.tmp 3) (Operand.tmp 47), type := 0, pos := "l10_sends.go:72", after := #[{ on := 6, ground := Ground.data }, { on := 6, ground := Ground.chain }, { on := 0, ground := Ground.phase }, { on := 1, ground := Ground.phase }, { on := 2, ground := Ground.phase }, { on := 3, ground := Ground.phase }, { on := 4, ground := Ground.phase }, { on := 5, ground := Ground.phase }, { on := 6, ground := Ground.phase }], guard := none }) rfl (fun K hK => ?_) AllReadyH.nil
              obtain ⟨a0, a1, a2, a3⟩ := HC.out.all
              have f0 := (HC.out.fr 0).1
              have f1 := (HC.out.fr 1).1
              have f2 := (HC.out.fr 2).1
              have f3 := (HC.out.fr 3).1
              go_simp
              have HD := Lib.hid (HC.out.put (.string o2.text) (.int .i64 o2.base) (.int .i64 o2.sent) (.int .i64 o2.room))
              clear HC a0 a1 a2 a3 f0 f1 f2 f3 e13
              refine hK.out _ _ trivial (fun hHeldN => ?_)
              clear hK K hHeld
              have hHeld := hHeldN
              clear hHeldN
              try simp only [Act.put, List.setIfInBounds_toArray, List.set_cons_zero, List.set_cons_succ]
              refine wpAnyH_done (by kernel_rfl) ?_ _
              clear hHeld
              go_wp2_with (fail)
              go_roundw
              case rel => exact ⟨k + 1, o2, by omega, by go_num, pc.out.1, by have := pc.out.2; omega, HD.out⟩
              case measure => simp [intOf]; omega
            refine AllReadyH.cons (o := { dst := some 45, op := Op.call { callee := Callee.value (Operand.func 38), args := #[Operand.tmp 44, Operand.const (Value.int IntKind.i64 20)], argTypes := #[53, 3] }, type := 3, pos := "l10_sends.go:72", after := #[{ on := 3, ground := Ground.data }], guard := none }) rfl (fun K hK => ?_) AllReadyH.nil
            go_simp
            with_reducible refine (c20 _ H9.out.d).mono ?_
            rintro e wA ⟨m, hm, rfl, dA, oA⟩
            have HA := Lib.hid (H9.out.only oA dA)
            clear dA oA H9
            refine hK.out _ _ trivial (fun hHeldN => ?_)
            clear hK K hHeld
            have hHeld := hHeldN
            clear hHeldN
            try simp only [Act.put, List.setIfInBounds_toArray, List.set_cons_zero, List.set_cons_succ]
            refine wpAnyH_ready (rs := [0, 2]) (by kernel_rfl) (by simp) ?_
            refine AllReadyH.cons (o := { dst := some 41, op := Op.load 33 (Operand.tmp 3), type := 33, pos := "l10_sends.go:72", after := #[], guard := none }) rfl (fun K hK => ?_) ?_
            · obtain ⟨a0, a1, a2, a3⟩ := HA.out.all
              go_simp
              clear a0 a1 a2 a3
              refine hK.out _ _ trivial (fun hHeldN => ?_)
              clear hK K hHeld
              have hHeld := hHeldN
              clear hHeldN
              try simp only [Act.put, List.setIfInBounds_toArray, List.set_cons_zero, List.set_cons_succ]
              refine wpAnyH_ready (rs := [2]) (by kernel_rfl) (by simp) ?_
              refine AllReadyH.cons (o := { dst := some 43, op := Op.load 3 (Operand.tmp 42), type := 3, pos := "l10_sends.go:72", after := #[{ on := 1, ground := Ground.data }], guard := none }) rfl (fun K hK => ?_) AllReadyH.nil
              obtain ⟨a0, a1, a2, a3⟩ := HA.out.all
              go_simp
              clear a0 a1 a2 a3
              refine hK.out _ _ trivial (fun hHeldN => ?_)
              clear hK K hHeld
              have hHeld := hHeldN
              clear hHeldN
              try simp only [Act.put, List.setIfInBounds_toArray, List.set_cons_zero, List.set_cons_succ]
              have hb9 := HP.out.1
              have e13 : IntKind.i64.wrap (o.base + (m : Int)) = o.base + (m : Int) := IntWalk.i64_in _ (by have := HP2.out; omega)
              refine take_yes (i := 5) (oi := { dst := some 46, op := Op.binOp BinOp.add 3 (Operand.tmp 43) (Operand.tmp 45) 3, type := 3, pos := "l10_sends.go:72", after := #[{ on := 2, ground := Ground.data }, { on := 4, ground := Ground.data }], guard := none }) (v := .int .i64 (o.base + (m : Int))) rfl (by kernel_rfl) (by kernel_rfl) (by kernel_rfl) (fun _ _ _ h => h) (by rfl) (fun w hSw => by (try dsimp only at hSw); go_simp) (by assumption) ?_
              try simp only [Act.put, List.setIfInBounds_toArray, List.set_cons_zero, List.set_cons_succ]
              refine wpAnyH_ready (rs := [6]) (by kernel_rfl) (by simp) ?_
              refine AllReadyH.cons (o := { dst := some 47, op := Op.call { callee := Callee.value (Operand.func 33), args := #[Operand.tmp 41, Operand.tmp 46], argTypes := #[33, 3] }, type := 33, pos := "l10_sends.go:72", after := #[{ on := 0, ground := Ground.data }, { on := 5, ground := Ground.data }, { on := 4, ground := Ground.chain }], guard := none }) rfl (fun K hK => ?_) AllReadyH.nil
              go_simp
              with_reducible refine (cC _ _).mono ?_
              rintro e wC ⟨rfl, hbC⟩
              have HC := Lib.hid (HA.out.kept hbC)
              have pc := Lib.hid (HP.out.2.2.2.1 (o.base + (m : Int)) (by omega))
              generalize came o (o.base + (m : Int)) = o2 at *
              clear hbC HA cC
              refine hK.out _ _ trivial (fun hHeldN => ?_)
              clear hK K hHeld
              have hHeld := hHeldN
              clear hHeldN
              try simp only [Act.put, List.setIfInBounds_toArray, List.set_cons_zero, List.set_cons_succ]
              refine wpAnyH_ready (rs := [7]) (by kernel_rfl) (by simp) ?_
              refine AllReadyH.cons (o := { dst := none, op := Op.store 33 (Operand.tmp 3) (Operand.tmp 47), type := 0, pos := "l10_sends.go:72", after := #[{ on := 6, ground := Ground.data }, { on := 6, ground := Ground.chain }, { on := 0, ground := Ground.phase }, { on := 1, ground := Ground.phase }, { on := 2, ground := Ground.phase }, { on := 3, ground := Ground.phase }, { on := 4, ground := Ground.phase }, { on := 5, ground := Ground.phase }, { on := 6, ground := Ground.phase }], guard := none }) rfl (fun K hK => ?_) AllReadyH.nil
              obtain ⟨a0, a1, a2, a3⟩ := HC.out.all
              have f0 := (HC.out.fr 0).1
              have f1 := (HC.out.fr 1).1
              have f2 := (HC.out.fr 2).1
              have f3 := (HC.out.fr 3).1
              go_simp
              have HD := Lib.hid (HC.out.put (.string o2.text) (.int .i64 o2.base) (.int .i64 o2.sent) (.int .i64 o2.room))
              clear HC a0 a1 a2 a3 f0 f1 f2 f3 e13
              refine hK.out _ _ trivial (fun hHeldN => ?_)
              clear hK K hHeld
              have hHeld := hHeldN
              clear hHeldN
              try simp only [Act.put, List.setIfInBounds_toArray, List.set_cons_zero, List.set_cons_succ]
              refine wpAnyH_done (by kernel_rfl) ?_ _
              clear hHeld
              go_wp2_with (fail)
              go_roundw
              case rel => exact ⟨k + 1, o2, by omega, by go_num, pc.out.1, by have := pc.out.2; omega, HD.out⟩
              case measure => simp [intOf]; omega
            refine AllReadyH.cons (o := { dst := some 43, op := Op.load 3 (Operand.tmp 42), type := 3, pos := "l10_sends.go:72", after := #[{ on := 1, ground := Ground.data }], guard := none }) rfl (fun K hK => ?_) AllReadyH.nil
            obtain ⟨a0, a1, a2, a3⟩ := HA.out.all
            go_simp
            clear a0 a1 a2 a3
            refine hK.out _ _ trivial (fun hHeldN => ?_)
            clear hK K hHeld
            have hHeld := hHeldN
            clear hHeldN
            try simp only [Act.put, List.setIfInBounds_toArray, List.set_cons_zero, List.set_cons_succ]
            have hb9 := HP.out.1
            have e13 : IntKind.i64.wrap (o.base + (m : Int)) = o.base + (m : Int) := IntWalk.i64_in _ (by have := HP2.out; omega)
            refine take_yes (i := 5) (oi := { dst := some 46, op := Op.binOp BinOp.add 3 (Operand.tmp 43) (Operand.tmp 45) 3, type := 3, pos := "l10_sends.go:72", after := #[{ on := 2, ground := Ground.data }, { on := 4, ground := Ground.data }], guard := none }) (v := .int .i64 (o.base + (m : Int))) rfl (by kernel_rfl) (by kernel_rfl) (by kernel_rfl) (fun _ _ _ h => h) (by rfl) (fun w hSw => by (try dsimp only at hSw); go_simp) (by assumption) ?_
            try simp only [Act.put, List.setIfInBounds_toArray, List.set_cons_zero, List.set_cons_succ]
            refine wpAnyH_ready (rs := [0]) (by kernel_rfl) (by simp) ?_
            refine AllReadyH.cons (o := { dst := some 41, op := Op.load 33 (Operand.tmp 3), type := 33, pos := "l10_sends.go:72", after := #[], guard := none }) rfl (fun K hK => ?_) AllReadyH.nil
            obtain ⟨a0, a1, a2, a3⟩ := HA.out.all
            go_simp
            clear a0 a1 a2 a3
            refine hK.out _ _ trivial (fun hHeldN => ?_)
            clear hK K hHeld
            have hHeld := hHeldN
            clear hHeldN
            try simp only [Act.put, List.setIfInBounds_toArray, List.set_cons_zero, List.set_cons_succ]
            refine wpAnyH_ready (rs := [6]) (by kernel_rfl) (by simp) ?_
            refine AllReadyH.cons (o := { dst := some 47, op := Op.call { callee := Callee.value (Operand.func 33), args := #[Operand.tmp 41, Operand.tmp 46], argTypes := #[33, 3] }, type := 33, pos := "l10_sends.go:72", after := #[{ on := 0, ground := Ground.data }, { on := 5, ground := Ground.data }, { on := 4, ground := Ground.chain }], guard := none }) rfl (fun K hK => ?_) AllReadyH.nil
            go_simp
            with_reducible refine (cC _ _).mono ?_
            rintro e wC ⟨rfl, hbC⟩
            have HC := Lib.hid (HA.out.kept hbC)
            have pc := Lib.hid (HP.out.2.2.2.1 (o.base + (m : Int)) (by omega))
            generalize came o (o.base + (m : Int)) = o2 at *
            clear hbC HA cC
            refine hK.out _ _ trivial (fun hHeldN => ?_)
            clear hK K hHeld
            have hHeld := hHeldN
            clear hHeldN
            try simp only [Act.put, List.setIfInBounds_toArray, List.set_cons_zero, List.set_cons_succ]
            refine wpAnyH_ready (rs := [7]) (by kernel_rfl) (by simp) ?_
            refine AllReadyH.cons (o := { dst := none, op := Op.store 33 (Operand.tmp 3) (Operand.tmp 47), type := 0, pos := "l10_sends.go:72", after := #[{ on := 6, ground := Ground.data }, { on := 6, ground := Ground.chain }, { on := 0, ground := Ground.phase }, { on := 1, ground := Ground.phase }, { on := 2, ground := Ground.phase }, { on := 3, ground := Ground.phase }, { on := 4, ground := Ground.phase }, { on := 5, ground := Ground.phase }, { on := 6, ground := Ground.phase }], guard := none }) rfl (fun K hK => ?_) AllReadyH.nil
            obtain ⟨a0, a1, a2, a3⟩ := HC.out.all
            have f0 := (HC.out.fr 0).1
            have f1 := (HC.out.fr 1).1
            have f2 := (HC.out.fr 2).1
            have f3 := (HC.out.fr 3).1
            go_simp
            have HD := Lib.hid (HC.out.put (.string o2.text) (.int .i64 o2.base) (.int .i64 o2.sent) (.int .i64 o2.room))
            clear HC a0 a1 a2 a3 f0 f1 f2 f3 e13
            refine hK.out _ _ trivial (fun hHeldN => ?_)
            clear hK K hHeld
            have hHeld := hHeldN
            clear hHeldN
            try simp only [Act.put, List.setIfInBounds_toArray, List.set_cons_zero, List.set_cons_succ]
            refine wpAnyH_done (by kernel_rfl) ?_ _
            clear hHeld
            go_wp2_with (fail)
            go_roundw
            case rel => exact ⟨k + 1, o2, by omega, by go_num, pc.out.1, by have := pc.out.2; omega, HD.out⟩
            case measure => simp [intOf]; omega
          · have t2 : ((q : Int) == 2) = false := by simp; omega
            clear h0 h1 h2
            obtain ⟨a0, a1, a2, a3⟩ := H9.out.all
            go_wp2_with (fail)
            with_reducible refine (cN _).mono ?_
            rintro e wA ⟨rfl, hbA⟩
            have HA := Lib.hid (H9.out.kept hbA)
            have pn := Lib.hid HP.out.2.2.2.2
            have hb9 := HP.out.1
            generalize anw o = o2 at *
            clear hbA H9 a0 a1 a2 a3 cN
            obtain ⟨a0, a1, a2, a3⟩ := HA.out.all
            have f0 := (HA.out.fr 0).1
            have f1 := (HA.out.fr 1).1
            have f2 := (HA.out.fr 2).1
            have f3 := (HA.out.fr 3).1
            have HD := Lib.hid (HA.out.put (.string o2.text) (.int .i64 o2.base) (.int .i64 o2.sent) (.int .i64 o2.room))
            clear HA
            go_wp2_with (fail)
            go_roundw
            case rel => exact ⟨k + 1, o2, by omega, by go_num, pn.out.1, by rw [pn.out.2]; omega, HD.out⟩
            case measure => simp [intOf]; omega
    · have q1 : ¬ (k : Int) < (r : Int) := by omega
      obtain ⟨a0, a1, a2, a3⟩ := H8.out.all
      obtain ⟨r0, r1', r2, r3, b0, b1, b2, b3⟩ := H8.out.rs
      have f0 := (H8.out.fr 0).2
      have f1 := (H8.out.fr 1).2
      have f2 := (H8.out.fr 2).2
      have f3 := (H8.out.fr 3).2
      have HG := Lib.hid (And.intro (H8.out.give (.string o.text) (.int .i64 o.base) (.int .i64 o.sent) (.int .i64 o.room)) (And.intro hok hbs))
      clear H8 hok hbs
      go_wp2_with (fail)
      exact bodyPost_ret (out_result HG.out.1.1 rfl _ rfl) rfl ⟨o, rfl, HG.out.2.1, by have := HG.out.2.2; omega, HG.out.1.2.1, HG.out.1.2.2⟩
end Go.Proofs.Ytdajfnonehianaa
