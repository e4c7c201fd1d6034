import Derived.Test.YtgfkmnadbcbfkaaTmk
import Derived.Test.YtgfkmnadbcbfkaaGtb
import Derived.Test.YtgfkmnadbcbfkaaTsp
namespace Go.Proofs.Ytgfkmnadbcbfkaa
open Go.RowKit

/-! Keys: rows of integers. -/
theorem sz_keys (v : Value) (ms : List Int) (left : Int) (w : World) (hv : RdE intK w v ms) (hn : ms.length ≤ 9223372036854775807) (h0 : 0 ≤ left) (h1 : left ≤ 1048576) :
    Calls Try.prog 38 #[v, .int .i64 left] w fun e w' => e = .returned (.int .i64 (if left - (ms.length : Int) < 0 then -1 else left - (ms.length : Int))) ∧ w = w' := by
  obtain ⟨a, c, rfl⟩ := hv.form
  clear hv
  by_cases hl : left - (ms.length : Int) < 0
  · rw [if_pos hl]
    go_enter Try.func38, Try.ntmps38
    go_wp2_with (fail)
    go_ret
    exact ⟨rfl, rfl⟩
  · rw [if_neg hl]
    go_enter Try.func38, Try.ntmps38
    go_wp2_with (fail)
    go_ret
    exact ⟨rfl, rfl⟩
theorem to_keys (v : Value) (zs : List Int) (w : World) (hv : RdE intK w v zs) (hn : zs.length ≤ 1048576) :
    Calls Try.prog 41 #[v] w fun e w' => ∃ v', e = .returned v' ∧ OwnE intK w' w.heap.size w'.heap.size v' zs ∧ Below w.heap.size w w' := by
  refine (to_ints v zs w (rd_of_ints hv) hn).mono ?_
  rintro e w' ⟨v', rfl, h, hb⟩
  have h1 := irow_own h
  refine ⟨v', rfl, ⟨h1.1, fun g hg => ?_⟩, hb⟩
  rcases h1.1.2 with ⟨rfl, -⟩ | ⟨g', cap', cur, rfl, -, hh, -⟩
  · cases hg
  · simp [Value.ownBlock] at hg
    subst hg
    exact (Array.getElem?_eq_some_iff.1 hh).1
theorem eq_keys (v u : Value) (zs : List Int) (w : World) (hv : RdE intK w v zs) (hu : RdE intK w u zs) (hn : zs.length ≤ 1048577) :
    Calls Try.prog 43 #[v, u] w fun e w' => e = .returned (.bool true) ∧ Below w.heap.size w w' := by
  have hv0 := hv
  have hu0 := hu
  obtain ⟨a, c, rfl⟩ := hv.form
  obtain ⟨a', c', rfl⟩ := hu.form
  clear hv hu
  go_enter Try.func43, Try.ntmps43
  go_wp2_with (fail)
  go_loopw [5] (fun i wr => ∃ k : Nat, k ≤ zs.length ∧ i = .int .i64 k ∧ ∃ m, wr = w.drewN m) (fun i _ => zs.length - (intOf i).toNat)
  case atStart => exact ⟨0, by omega, rfl, 0, rfl⟩
  case round =>
    obtain ⟨k, hk, rfl, m, rfl⟩ := hrel
    by_cases hlt : k < zs.length
    · have q : (0 : Int) ≤ (k : Int) ∧ (k : Int) < (zs.length : Int) := by omega
      obtain ⟨b, off, ha, -, c0⟩ := int_at hv0 k hlt
      subst ha
      obtain ⟨b', off', ha, -, c1⟩ := int_at hu0 k hlt
      subst ha
      generalize zs[k] = x at *
      go_wp2_with (go_quiet (fail))
      go_roundw
      case rel => exact ⟨k + 1, by omega, by go_num, _, rfl⟩
      case measure => simp [intOf]; omega
    · obtain rfl : k = zs.length := by omega
      have q : ¬ (zs.length : Int) < (zs.length : Int) := by omega
      go_wp2_with (fail)
      go_ret
      exact ⟨rfl, below_drewE (Below.refl _ _)⟩

/-- Keys and tags, in blocks of one's own between B and C. -/
structure KnO (W : World) (B C : Nat) (ku tu : Value) (ks : List Int) (ts : List Tv) : Prop where
  k : OwnE intK W B C ku ks
  t : OwnT W B C tu ts
  sep : ∀ g, ku.ownBlock = some g → tu.ownBlock ≠ some g
/-- Keys and tags that can be read. -/
structure KnR (W : World) (ku tu : Value) (ks : List Int) (ts : List Tv) : Prop where
  k : RdE intK W ku ks
  t : RdT W tu ts
  z : ∀ a n c, tu = .slice a n c → n ≤ c
section
variable {W W' : World} {B C D : Nat} {ku tu : Value} {ks : List Int} {ts : List Tv}
theorem KnO.keep (h : KnO W B C ku tu ks ts) (hb : Below D W W') (hC : C ≤ D) : KnO W' B C ku tu ks ts := ⟨h.k.keep hb hC, h.t.keep hb hC, h.sep⟩
theorem KnO.full (h : KnO W B W.heap.size ku tu ks ts) (hb : Below W.heap.size W W') : KnO W' B W'.heap.size ku tu ks ts := ⟨h.k.full hb, h.t.full hb, h.sep⟩
theorem KnO.mono {B' C' : Nat} (h : KnO W B C ku tu ks ts) (hB : B' ≤ B) (hC : C ≤ C') : KnO W B' C' ku tu ks ts := ⟨h.k.mono hB hC, h.t.mono hB hC, h.sep⟩
theorem OwnE.capped {α : Type} {K : EK α} {v : Value} {xs : List α} (h : OwnE K W B C v xs) (a : Option Addr) (n c : Nat) (e : v = .slice a n c) : n ≤ c := by
  subst e
  obtain ⟨⟨h1, h2⟩, -⟩ := h
  rcases h2 with ⟨e, -⟩ | ⟨g, cap, cur, hv, hg, hh, r1, r2, r3, r4⟩
  · injection e with e1 e2 e3
    omega
  · injection hv with e1 e2 e3
    omega
theorem KnO.rd (h : KnO W B C ku tu ks ts) : KnR W ku tu ks ts := ⟨h.k.rd, h.t.rd, h.t.capped⟩
theorem KnR.below (h : KnR W ku tu ks ts) (hb : Below W.heap.size W W') : KnR W' ku tu ks ts := ⟨h.k.below hb, h.t.below hb, h.z⟩
theorem KnO.keepAt (h : KnO W B C ku tu ks ts) (hb : ∀ g, B ≤ g → g < C → W'.heap[g]? = W.heap[g]?) : KnO W' B C ku tu ks ts :=
  ⟨h.k.keepAt fun g hg => hb g (h.k.block g hg).1 (h.k.block g hg).2, h.t.keepAt fun g hg => hb g (h.t.block g hg).1 (h.t.block g hg).2, h.sep⟩
end
theorem cel2k {W : World} {g : Nat} {t : TypeId} {x0 x1 : Value} (h : Cel W g t #[x0, x1]) : W.cell? ⟨g, 0, none⟩ = some x0 ∧ W.cell? ⟨g, 1, none⟩ = some x1 := ⟨h.cell 0, h.cell 1⟩

set_option maxHeartbeats 1000000 in
theorem sz_known (ku tu : Value) (ks : List Int) (ts : List Tv) (w : World) (h : KnR w ku tu ks ts) (hk : ks.length ≤ 9223372036854775807) (ht : ts.length ≤ 9223372036854775807) :
    Calls Try.prog 23 #[.agg #[ku, tu], .int .i64 1048576] w fun e w' => ∃ r, e = .returned (.int .i64 r) ∧ (0 ≤ r → ks.length + ts.length ≤ 1048576) ∧ r ≤ 1048576 ∧ Below w.heap.size w w' := by
  obtain ⟨ka, kc, rfl⟩ := h.k.form
  obtain ⟨ta, tc, rfl⟩ := h.t.form
  have hb0 := below_new w (.cells #[.slice ka ks.length kc, .slice ta ts.length tc] 41)
  have h0 := h.below hb0
  obtain ⟨c0, c1⟩ := cel2k (Cel.new w 41 #[.slice ka ks.length kc, .slice ta ts.length tc])
  have z1 := sz_keys _ ks 1048576 _ h0.k hk (by omega) (by omega)
  by_cases hl : (1048576 : Int) - (ks.length : Int) < 0
  · rw [if_pos hl] at z1
    have HB := Lib.hid hb0
    clear hb0 h0 hl h
    go_enter Try.func23, Try.ntmps23
    go_wp2_with (fail)
    with_reducible refine z1.mono ?_
    rintro e w1 ⟨rfl, rfl⟩
    go_wp2_with (fail)
    go_ret
    exact ⟨_, rfl, fun h => absurd h (by decide), by decide, HB.out⟩
  · rw [if_neg hl] at z1
    have z2 := sz_tagS _ ts ((1048576 : Int) - (ks.length : Int)) _ h0.t ht (by omega) (by omega)
    by_cases hl2 : (1048576 : Int) - (ks.length : Int) - (ts.length : Int) < 0
    · rw [if_pos hl2] at z2
      have HB := Lib.hid hb0
      clear hb0 h0 hl2 h
      go_enter Try.func23, Try.ntmps23
      go_wp2_with (fail)
      with_reducible refine z1.mono ?_
      rintro e w1 ⟨rfl, rfl⟩
      go_wp2_with (fail)
      with_reducible refine z2.mono ?_
      rintro e w1 ⟨rfl, rfl⟩
      go_wp2_with (fail)
      go_ret
      exact ⟨_, rfl, fun h => absurd h (by decide), by decide, HB.out⟩
    · rw [if_neg hl2] at z2
      have HB := Lib.hid (And.intro hb0 hl2)
      clear hb0 h0 h
      go_enter Try.func23, Try.ntmps23
      go_wp2_with (fail)
      with_reducible refine z1.mono ?_
      rintro e w1 ⟨rfl, rfl⟩
      go_wp2_with (fail)
      with_reducible refine z2.mono ?_
      rintro e w1 ⟨rfl, rfl⟩
      go_wp2_with (fail)
      go_ret
      exact ⟨_, rfl, fun _ => by have := HB.out.2; omega, by omega, HB.out.1⟩

set_option maxRecDepth 100000 in
set_option maxHeartbeats 2000000 in
theorem to_known (ku tu : Value) (ks : List Int) (ts : List Tv) (w : World) (h : KnR w ku tu ks ts) (hl : ks.length + ts.length ≤ 1048576) :
    Calls Try.prog 25 #[.agg #[ku, tu]] w fun e w' => ∃ a c b d, e = .returned (.agg #[.slice a ks.length c, .slice b ts.length d]) ∧ KnO w' w.heap.size w'.heap.size (.slice a ks.length c) (.slice b ts.length d) ks ts ∧ Below w.heap.size w w' := by
  obtain ⟨ka, kc, rfl⟩ := h.k.form
  obtain ⟨ta, tc, rfl⟩ := h.t.form
  have cK := fun W h => to_keys (.slice ka ks.length kc) ks W h (by omega)
  have cT := fun W h => to_tagS (.slice ta ts.length tc) ts W h (by omega)
  have hA0 := ((Cel.new w 41 #[.slice ka ks.length kc, .slice ta ts.length tc]).alloc (.cells #[.slice none 0 0, .slice none 0 0] 27)).alloc (.cells #[.slice none 0 0, .slice none 0 0] 27)
  have hZ0 := (Cel.new (w.alloc (.cells #[.slice ka ks.length kc, .slice ta ts.length tc] 41)) 27 #[.slice none 0 0, .slice none 0 0]).alloc (.cells #[.slice none 0 0, .slice none 0 0] 27)
  have hO0 := Cel.new ((w.alloc (.cells #[.slice ka ks.length kc, .slice ta ts.length tc] 41)).alloc (.cells #[.slice none 0 0, .slice none 0 0] 27)) 27 #[.slice none 0 0, .slice none 0 0]
  have hB0 : Below w.heap.size w (((w.alloc (.cells #[.slice ka ks.length kc, .slice ta ts.length tc] 41)).alloc (.cells #[.slice none 0 0, .slice none 0 0] 27)).alloc (.cells #[.slice none 0 0, .slice none 0 0] 27)) := (((Below.refl _ _).alloc (Nat.le_refl _) _).alloc (by simp) _).alloc (by simp; omega) _
  have hz0 : (((w.alloc (.cells #[.slice ka ks.length kc, .slice ta ts.length tc] 41)).alloc (.cells #[.slice none 0 0, .slice none 0 0] 27)).alloc (.cells #[.slice none 0 0, .slice none 0 0] 27)).heap.size = w.heap.size + 3 := by simp
  simp only [World.size_alloc] at hZ0 hO0
  obtain ⟨W0, hW0⟩ : ∃ W0, (((w.alloc (.cells #[.slice ka ks.length kc, .slice ta ts.length tc] 41)).alloc (.cells #[.slice none 0 0, .slice none 0 0] 27)).alloc (.cells #[.slice none 0 0, .slice none 0 0] 27)) = W0 := ⟨_, rfl⟩
  rw [hW0] at hA0 hZ0 hO0 hB0 hz0
  have hR0 := h.below hB0
  have HR := Lib.hid h
  have HW := Lib.hid hW0
  have H0 := Lib.hid (And.intro hA0 (And.intro hZ0 (And.intro hO0 (And.intro hB0 (And.intro hz0 hR0)))))
  obtain ⟨c0, c1⟩ := cel2k hA0
  clear hA0 hZ0 hO0 hB0 hW0 hz0 hR0 h
  go_enter Try.func25, Try.ntmps25
  go_upto_region 2 with (fail)
  rw [HW.out]
  clear HW
  obtain ⟨g1, hg1⟩ : ∃ g1, w.heap.size + 1 = g1 := ⟨_, rfl⟩
  rw [hg1] at H0 ⊢
  obtain ⟨g2, hg2⟩ : ∃ g2, g1 + 1 = g2 := ⟨_, rfl⟩
  rw [hg2] at H0 ⊢
  have HG : Hid (w.heap.size + 1 = g1 ∧ w.heap.size + 2 = g2) := Lib.hid ⟨hg1, by omega⟩
  clear hg1 hg2
  go_wp2_with (fail)
  with_reducible refine (cK _ H0.out.2.2.2.2.2.k).mono ?_
  rintro e w4 ⟨v1, rfl, o4, b4⟩
  obtain ⟨a1, e1, rfl, -⟩ := o4.form
  have f4 := (H0.out.2.2.1.kept b4).frozen 0
  have x4 := (H0.out.2.2.1.kept b4).cell 0
  have H4 := Lib.hid (show Cel (w4.setCell ⟨g2, 0, none⟩ (.slice a1 ks.length e1)) w.heap.size 41 #[.slice ka ks.length kc, .slice ta ts.length tc] ∧ Cel (w4.setCell ⟨g2, 0, none⟩ (.slice a1 ks.length e1)) g1 27 #[.slice none 0 0, .slice none 0 0] ∧ Cel (w4.setCell ⟨g2, 0, none⟩ (.slice a1 ks.length e1)) g2 27 #[.slice a1 ks.length e1, .slice none 0 0] ∧ Below w.heap.size w (w4.setCell ⟨g2, 0, none⟩ (.slice a1 ks.length e1)) ∧ OwnE intK (w4.setCell ⟨g2, 0, none⟩ (.slice a1 ks.length e1)) (w.heap.size + 3) (w4.setCell ⟨g2, 0, none⟩ (.slice a1 ks.length e1)).heap.size (.slice a1 ks.length e1) ks ∧ w.heap.size + 3 ≤ (w4.setCell ⟨g2, 0, none⟩ (.slice a1 ks.length e1)).heap.size from by
    have hz := H0.out.2.2.2.2.1
    have hg := HG.out
    have o5 := own_other o4 (g := g2) (i := 0) (by omega) (.slice a1 ks.length e1)
    rw [hz] at o5
    have hb := (Below.then_ H0.out.2.2.2.1 b4).trans (esetC_below g2 w.heap.size (by omega) 0 [.slice a1 ks.length e1] w4)
    refine ⟨(H0.out.1.kept b4).other _ _ (by show w.heap.size ≠ g2; omega), (H0.out.2.1.kept b4).other _ _ (by show g1 ≠ g2; omega), (H0.out.2.2.1.kept b4).set 0 _, hb, ?_⟩
    rw [show (w4.setCell ⟨g2, 0, none⟩ (.slice a1 ks.length e1)).heap.size = w4.heap.size from esetC_size g2 0 [.slice a1 ks.length e1] w4]
    exact ⟨o5, by have := b4.size; omega⟩)
  clear o4
  go_upto_region 3 with (fail)
  generalize w4.setCell ⟨g2, 0, none⟩ (.slice a1 ks.length e1) = w5 at *
  clear H0 b4 f4 x4 c0 c1
  obtain ⟨c0, c1⟩ := cel2k H4.out.1
  go_wp2_with (fail)
  with_reducible refine (cT _ (HR.out.t.below H4.out.2.2.2.1)).mono ?_
  rintro e w6 ⟨rfl, o6, b6⟩
  have hl6 := o6.lt
  generalize hv2 : (some (⟨w5.heap.size, 0, none⟩ : Addr)) = a2 at *
  have f6 := (H4.out.2.2.1.kept b6).frozen 1
  have x6 := (H4.out.2.2.1.kept b6).cell 1
  have H6 := Lib.hid (show Cel (w6.setCell ⟨g2, 1, none⟩ (.slice a2 ts.length ts.length)) g1 27 #[.slice none 0 0, .slice none 0 0] ∧ Cel (w6.setCell ⟨g2, 1, none⟩ (.slice a2 ts.length ts.length)) g2 27 #[.slice a1 ks.length e1, .slice a2 ts.length ts.length] ∧ Below w.heap.size w (w6.setCell ⟨g2, 1, none⟩ (.slice a2 ts.length ts.length)) ∧ KnO (w6.setCell ⟨g2, 1, none⟩ (.slice a2 ts.length ts.length)) (w.heap.size + 3) (w6.setCell ⟨g2, 1, none⟩ (.slice a2 ts.length ts.length)).heap.size (.slice a1 ks.length e1) (.slice a2 ts.length ts.length) ks ts from by
    have hg := HG.out
    have hg2 := H4.out.2.2.1.lt
    have hz5 := b6.size
    have hk : OwnE intK w6 (w.heap.size + 3) w5.heap.size (.slice a1 ks.length e1) ks := H4.out.2.2.2.2.1.keep b6 (Nat.le_refl _)
    have hb := (Below.then_ H4.out.2.2.2.1 b6).trans (esetC_below g2 w.heap.size (by omega) 1 [.slice a2 ts.length ts.length] w6)
    have h3 : w.heap.size + 3 ≤ w5.heap.size := H4.out.2.2.2.2.2
    refine ⟨(H4.out.2.1.kept b6).other _ _ (by show g1 ≠ g2; omega), (H4.out.2.2.1.kept b6).set 1 _, hb, ?_⟩
    rw [show (w6.setCell ⟨g2, 1, none⟩ (.slice a2 ts.length ts.length)).heap.size = w6.heap.size from esetC_size g2 1 [.slice a2 ts.length ts.length] w6]
    refine ⟨(own_other hk (by omega) _).mono (Nat.le_refl _) hz5, (own_other o6 (by omega) _).mono h3 (by omega), fun g e1 e2 => ?_⟩
    have q1 := (hk.block g e1).2
    have q2 := (o6.block g e2).1
    omega)
  clear o6 hv2
  go_upto_region 4 with (fail)
  generalize w6.setCell ⟨g2, 1, none⟩ (.slice a2 ts.length ts.length) = w7 at *
  clear H4 b6 f6 x6 c0 c1 hl6
  obtain ⟨c0, c1⟩ := cel2k H6.out.2.1
  obtain ⟨d0, d1⟩ := cel2k H6.out.1
  have f0 := H6.out.1.frozen 0
  have f1 := H6.out.1.frozen 1
  go_wp2_with (fail)
  have e1' := (H6.out.1.set 0 (.slice a1 ks.length e1)).set 1 (.slice a2 ts.length ts.length)
  have hb9 : Below w.heap.size w7 ((w7.setCell ⟨g1, 0, none⟩ (.slice a1 ks.length e1)).setCell ⟨g1, 1, none⟩ (.slice a2 ts.length ts.length)) := esetC_below g1 w.heap.size (by have := HG.out; omega) 0 [.slice a1 ks.length e1, .slice a2 ts.length ts.length] w7
  have hz9 : ((w7.setCell ⟨g1, 0, none⟩ (.slice a1 ks.length e1)).setCell ⟨g1, 1, none⟩ (.slice a2 ts.length ts.length)).heap.size = w7.heap.size := esetC_size g1 0 [.slice a1 ks.length e1, .slice a2 ts.length ts.length] w7
  refine bodyPost_ret (Cel.result e1' rfl _ rfl Try.underlying27 rfl (by show _ = some 2; kernel_rfl)) rfl ⟨a1, e1, a2, ts.length, rfl, ?_, H6.out.2.2.1.trans hb9⟩
  rw [hz9]
  have ho := H6.out.2.2.2
  have hg := HG.out
  exact ⟨(own_other (own_other ho.k (by omega) _) (by omega) _).mono (by omega) (Nat.le_refl _), (own_other (own_other ho.t (by omega) _) (by omega) _).mono (by omega) (Nat.le_refl _), ho.sep⟩

set_option maxRecDepth 100000 in
set_option maxHeartbeats 2000000 in
theorem eq_known (ku tu ku' tu' : Value) (ks : List Int) (ts : List Tv) (w : World) (h : KnR w ku tu ks ts) (h' : KnR w ku' tu' ks ts) (hk : ks.length ≤ 1048577) (ht : ts.length ≤ 1048577) :
    Calls Try.prog 27 #[.agg #[ku, tu], .agg #[ku', tu']] w fun e w' => e = .returned (.bool true) ∧ Below w.heap.size w w' := by
  obtain ⟨ka, kc, rfl⟩ := h.k.form
  obtain ⟨ta, tc, rfl⟩ := h.t.form
  obtain ⟨ka', kc', rfl⟩ := h'.k.form
  obtain ⟨ta', tc', rfl⟩ := h'.t.form
  have cK := fun W h h' => eq_keys (.slice ka ks.length kc) (.slice ka' ks.length kc') ks W h h' hk
  have cT := fun W h h' => eq_tagS (.slice ta ts.length tc) (.slice ta' ts.length tc') ts W h h' (by omega)
  have hA0 := (Cel.new w 27 #[.slice ka ks.length kc, .slice ta ts.length tc]).alloc (.cells #[.slice ka' ks.length kc', .slice ta' ts.length tc'] 27)
  have hZ0 := Cel.new (w.alloc (.cells #[.slice ka ks.length kc, .slice ta ts.length tc] 27)) 27 #[.slice ka' ks.length kc', .slice ta' ts.length tc']
  have hB0 : Below w.heap.size w ((w.alloc (.cells #[.slice ka ks.length kc, .slice ta ts.length tc] 27)).alloc (.cells #[.slice ka' ks.length kc', .slice ta' ts.length tc'] 27)) := ((Below.refl _ _).alloc (Nat.le_refl _) _).alloc (by simp) _
  simp only [World.size_alloc] at hZ0
  obtain ⟨W0, hW0⟩ : ∃ W0, ((w.alloc (.cells #[.slice ka ks.length kc, .slice ta ts.length tc] 27)).alloc (.cells #[.slice ka' ks.length kc', .slice ta' ts.length tc'] 27)) = W0 := ⟨_, rfl⟩
  rw [hW0] at hA0 hZ0 hB0
  have h0 := h.below hB0
  have h0' := h'.below hB0
  have HW := Lib.hid hW0
  have H0 := Lib.hid (And.intro hA0 (And.intro hZ0 (And.intro hB0 (And.intro h0 h0'))))
  obtain ⟨c0, c1⟩ := cel2k hA0
  obtain ⟨d0, d1⟩ := cel2k hZ0
  clear hA0 hZ0 hB0 hW0 h0 h0' h h'
  go_enter Try.func27, Try.ntmps27
  go_upto_region 1 with (fail)
  rw [HW.out]
  clear HW
  go_wp2_with (fail)
  with_reducible refine (cK _ H0.out.2.2.2.1.k H0.out.2.2.2.2.k).mono ?_
  rintro e w1 ⟨rfl, b1⟩
  clear c0 c1 d0 d1
  obtain ⟨c0, c1⟩ := cel2k (H0.out.1.kept b1)
  obtain ⟨d0, d1⟩ := cel2k (H0.out.2.1.kept b1)
  have H1 := Lib.hid (And.intro (H0.out.2.2.2.1.below b1) (And.intro (H0.out.2.2.2.2.below b1) (Below.then_ H0.out.2.2.1 b1)))
  clear H0 b1
  go_wp2_with (fail)
  with_reducible refine (cT _ H1.out.1.t H1.out.2.1.t).mono ?_
  rintro e w2 ⟨rfl, b2⟩
  have H2 := Lib.hid (Below.then_ H1.out.2.2 b2)
  clear H1 b2 c0 c1 d0 d1
  go_wp2_with (fail)
  go_ret
  exact ⟨rfl, H2.out⟩

set_option maxRecDepth 100000 in
set_option maxHeartbeats 2000000 in
theorem mark_known (ku tu : Value) (ks : List Int) (ts : List Tv) (w : World) (B C : Nat) (h : KnO w B C ku tu ks ts) (hB : B ≤ w.heap.size) (hC : C ≤ w.heap.size) (hk : ks.length ≤ 1048577) (ht : ts.length ≤ 1048577) :
    Calls Try.prog 28 #[.agg #[ku, tu], .int .i64 1] w fun e w' => e = .returned (.int .i64 ((1 + ks.length + ts.length * 5 : Nat) : Int)) ∧ KnO w' B C ku tu (marks 1 ks.length) (markT (1 + ks.length) ts.length) ∧ Below B w w' ∧ ∀ i, i < w.heap.size → (i < B ∨ C ≤ i) → w'.heap[i]? = w.heap[i]? := by
  have hsep := h.sep
  obtain ⟨ka, kc, rfl, -⟩ := h.k.form
  obtain ⟨ta, tc, rfl, -⟩ := h.t.form
  have cK := fun W h => mark_ints2 (.slice ka ks.length kc) ks W B C 1 h (by omega) (by omega)
  simp only [show ((1 : Nat) : Int) = 1 from rfl] at cK
  have cT := fun W h => mark_tagS (.slice ta ts.length tc) ts W B C (1 + ks.length) h (by omega) (by omega)
  generalize ((1 + ks.length + ts.length * 5 : Nat) : Int) = r2 at *
  generalize ((1 + ks.length : Nat) : Int) = r1 at *
  have hb0 := below_new w (.cells #[.slice ka ks.length kc, .slice ta ts.length tc] 27)
  have hA0 := Cel.new w 27 #[.slice ka ks.length kc, .slice ta ts.length tc]
  obtain ⟨W0, hW0⟩ : ∃ W0, w.alloc (.cells #[.slice ka ks.length kc, .slice ta ts.length tc] 27) = W0 := ⟨_, rfl⟩
  have hz0 : W0.heap.size = w.heap.size + 1 := by rw [← hW0]; simp
  rw [hW0] at hb0 hA0
  have h0 := h.keep hb0 hC
  have HW := Lib.hid hW0
  have H0 := Lib.hid (And.intro hb0 (And.intro hA0 (And.intro h0 hz0)))
  obtain ⟨c0, c1⟩ := cel2k hA0
  clear hb0 hA0 h0 hW0 h hz0
  go_enter Try.func28, Try.ntmps28
  go_upto_region 1 with (fail)
  rw [HW.out]
  clear HW
  go_wp2_with (fail)
  with_reducible refine (cK _ H0.out.2.2.1.k).mono ?_
  rintro e w1 ⟨rfl, o1, b1, z1, r1⟩
  clear c0 c1
  obtain ⟨c0, c1⟩ := cel2k (show Cel w1 w.heap.size 27 #[.slice ka ks.length kc, .slice ta ts.length tc] from (r1 w.heap.size fun e => by have := (H0.out.2.2.1.k.block _ e).2; omega).trans H0.out.2.1)
  have t1 : OwnT w1 B C (.slice ta ts.length tc) ts := H0.out.2.2.1.t.keepAt fun g hg => r1 g fun e => hsep g e hg
  have H1 := Lib.hid (And.intro o1 (And.intro b1 (And.intro z1 (And.intro r1 t1))))
  clear o1 b1 z1 r1 t1
  go_wp2_with (fail)
  with_reducible refine (cT _ H1.out.2.2.2.2).mono ?_
  rintro e w2 ⟨rfl, o2, b2, z2, r2⟩
  have H2 := Lib.hid (show KnO w2 B C (.slice ka ks.length kc) (.slice ta ts.length tc) (marks 1 ks.length) (markT (1 + ks.length) ts.length) ∧ Below B w w2 ∧ ∀ i, i < w.heap.size → (i < B ∨ C ≤ i) → w2.heap[i]? = w.heap[i]? from by
    refine ⟨⟨H1.out.1.keepAt fun g hg => r2 g fun e => hsep g hg e, o2, hsep⟩, ((H0.out.1.mono hB).trans H1.out.2.1).trans b2, fun i hi ho => ?_⟩
    rw [r2 i fun e => by have := H0.out.2.2.1.t.block i e; omega, H1.out.2.2.2.1 i fun e => by have := H0.out.2.2.1.k.block i e; omega]
    exact H0.out.1.block i hi)
  clear H0 H1 o2 b2 z2 r2 c0 c1
  go_wp2_with (fail)
  go_ret
  exact ⟨rfl, H2.out⟩

set_option maxRecDepth 100000 in
set_option maxHeartbeats 2000000 in
theorem held_known (ku tu : Value) (n m : Nat) (w : World) (h : KnR w ku tu (marks 1 n) (markT (1 + n) m)) (hn : n ≤ 1048576) (hm : m ≤ 1048577) :
    Calls Try.prog 29 #[.agg #[ku, tu], .int .i64 1] w fun e w' => e = .returned (.int .i64 ((1 + n + m * 5 : Nat) : Int)) ∧ Below w.heap.size w w' := by
  obtain ⟨ka, kc, rfl⟩ : ∃ a c, ku = .slice a n c := by
    obtain ⟨a, c, h⟩ := h.k.form
    rw [marks_length] at h
    exact ⟨a, c, h⟩
  obtain ⟨ta, tc, rfl⟩ : ∃ a c, tu = .slice a m c := by
    obtain ⟨a, c, h⟩ := h.t.form
    rw [markT_length] at h
    exact ⟨a, c, h⟩
  have q1 : ¬ ((1 + n : Nat) : Int) < 0 := by omega
  have q2 : ¬ ((1 + n + m * 5 : Nat) : Int) < 0 := by omega
  have hb0 := below_new w (.cells #[.slice ka n kc, .slice ta m tc] 27)
  have hA0 := Cel.new w 27 #[.slice ka n kc, .slice ta m tc]
  have h0 := h.below hb0
  have cK := held_ints (.slice ka n kc) 1 n _ (rd_of_ints h0.k) hn (by omega)
  rw [show ((1 : Nat) : Int) = 1 from rfl] at cK
  have cT := held_tagS (.slice ta m tc) (1 + n) m _ h0.t (by omega) (by omega)
  obtain ⟨c0, c1⟩ := cel2k hA0
  generalize ((1 + n + m * 5 : Nat) : Int) = r2 at *
  generalize hr1 : ((1 + n : Nat) : Int) = r1 at *
  have HB := Lib.hid hb0
  clear hb0 hA0 h0 h hr1
  go_enter Try.func29, Try.ntmps29
  go_wp2_with (fail)
  with_reducible refine cK.mono ?_
  rintro e w1 ⟨rfl, rfl⟩
  go_wp2_with (fail)
  with_reducible refine cT.mono ?_
  rintro e w1 ⟨rfl, rfl⟩
  go_wp2_with (fail)
  go_ret
  exact ⟨rfl, HB.out⟩
end Go.Proofs.Ytgfkmnadbcbfkaa
