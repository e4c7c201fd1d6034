import Derived.Test.YtgfkmnadbcbfkaaTkn
import Derived.Test.YtgfkmnadbcbfkaaTif
import Derived.BigQuiet
namespace Go.Proofs.Ytgfkmnadbcbfkaa
open Go.RowKit

set_option maxRecDepth 100000 in
set_option maxHeartbeats 2000000 in
theorem same_ints (v u : Value) (zs : List Int) (w : World) (hv : RdE intK w v zs) (hu : RdE intK w u zs) (hn : zs.length ≤ 1048577) :
    Calls Try.prog 34 #[v, u] w fun e w' => e = .returned (.bool true) ∧ Below w.heap.size w w' := by
  have hv0 := hv
  have hu0 := hu
  obtain ⟨a, c, rfl⟩ := hv.form
  obtain ⟨a', c', rfl⟩ := hu.form
  clear hv hu
  go_enter Try.func34, Try.ntmps34
  go_wp2_with (fail)
  go_loopw [5] (fun i wr => ∃ k : Nat, k ≤ zs.length ∧ i = .int .i64 k ∧ ∃ m, wr = w.drewN m) (fun i _ => zs.length - (intOf i).toNat)
  case atStart => exact ⟨0, by omega, rfl, 0, rfl⟩
  case round =>
    obtain ⟨k, hk, rfl, m, rfl⟩ := hrel
    by_cases hlt : k < zs.length
    · have q : (0 : Int) ≤ (k : Int) ∧ (k : Int) < (zs.length : Int) := by omega
      obtain ⟨b, off, ha, -, c0⟩ := int_at hv0 k hlt
      subst ha
      obtain ⟨b', off', ha, -, c1⟩ := int_at hu0 k hlt
      subst ha
      generalize zs[k] = x at *
      go_wp2_with (go_quiet (fail))
      go_roundw
      case rel => exact ⟨k + 1, by omega, by go_num, _, rfl⟩
      case measure => simp [intOf]; omega
    · obtain rfl : k = zs.length := by omega
      have q : ¬ (zs.length : Int) < (zs.length : Int) := by omega
      go_wp2_with (fail)
      go_ret
      exact ⟨rfl, below_drewE (Below.refl _ _)⟩

set_option maxRecDepth 100000 in
set_option maxHeartbeats 2000000 in
theorem same_tags (v u : Value) (ms : List Tv) (w : World) (hv : RdT w v ms) (hu : RdT w u ms) (hn : ms.length ≤ 1048577) :
    Calls Try.prog 35 #[v, u] w fun e w' => e = .returned (.bool true) ∧ Below w.heap.size w w' := by
  have HV := Lib.hid (And.intro hv hu)
  obtain ⟨a, c, rfl⟩ := hv.form
  obtain ⟨a2, c2, rfl⟩ := hu.form
  clear hv hu
  go_enter Try.func35, Try.ntmps35
  go_wp2_with (fail)
  go_loopw [5] (fun i wr => ∃ k : Nat, k ≤ ms.length ∧ i = .int .i64 k ∧ RdT wr (.slice a ms.length c) ms ∧ RdT wr (.slice a2 ms.length c2) ms ∧ Below w.heap.size w wr) (fun i _ => ms.length - (intOf i).toNat)
  case atStart => exact ⟨0, by omega, rfl, HV.out.1, HV.out.2, Below.refl _ _⟩
  case round =>
    obtain ⟨k, hk, rfl, hR, hU, hB⟩ := hrel
    by_cases hlt : k < ms.length
    · have q : (0 : Int) ≤ (k : Int) ∧ (k : Int) < (ms.length : Int) := by omega
      obtain ⟨b, off, ha, -, k0, k1, k2, k3, k4, -⟩ := tv_at (P := Try.prog) hR k hlt
      subst ha
      obtain ⟨b2, off2, ha2, -, j0, j1, j2, j3, j4, -⟩ := tv_at (P := Try.prog) hU k hlt
      subst ha2
      generalize ms[k] = m at *
      have he := fun W => neq_tv m m W false (by simp)
      have HX := Lib.hid (And.intro hR (And.intro hU hB))
      clear hR hU hB
      go_wp2_with (fail)
      go_quiet (fail)
      go_wp2_with (fail)
      go_roundw
      case rel => exact ⟨k + 1, by omega, by go_num, HX.out.1.drewN, HX.out.2.1.drewN, Below.then_ HX.out.2.2 (below_drewE (Below.refl _ _))⟩
      case measure => simp [intOf]; omega
    · obtain rfl : k = ms.length := by omega
      have q : ¬ (ms.length : Int) < (ms.length : Int) := by omega
      have HX := Lib.hid hB
      clear hR hU hB
      go_wp2_with (fail)
      go_ret
      exact ⟨rfl, HX.out⟩

set_option maxRecDepth 100000 in
set_option maxHeartbeats 2000000 in
theorem same_known (ku tu ku' tu' : Value) (ks : List Int) (ts : List Tv) (w : World) (h : KnR w ku tu ks ts) (h' : KnR w ku' tu' ks ts) (hk : ks.length ≤ 1048577) (ht : ts.length ≤ 1048577) :
    Calls Try.prog 15 #[.agg #[ku, tu], .agg #[ku', tu']] w fun e w' => e = .returned (.bool true) ∧ Below w.heap.size w w' := by
  obtain ⟨ka, kc, rfl⟩ := h.k.form
  obtain ⟨ta, tc, rfl⟩ := h.t.form
  obtain ⟨ka', kc', rfl⟩ := h'.k.form
  obtain ⟨ta', tc', rfl⟩ := h'.t.form
  have cK := fun W h h' => same_ints (.slice ka ks.length kc) (.slice ka' ks.length kc') ks W h h' hk
  have cT := fun W h h' => same_tags (.slice ta ts.length tc) (.slice ta' ts.length tc') ts W h h' (by omega)
  have hA0 := (Cel.new w 27 #[.slice ka ks.length kc, .slice ta ts.length tc]).alloc (.cells #[.slice ka' ks.length kc', .slice ta' ts.length tc'] 27)
  have hZ0 := Cel.new (w.alloc (.cells #[.slice ka ks.length kc, .slice ta ts.length tc] 27)) 27 #[.slice ka' ks.length kc', .slice ta' ts.length tc']
  have hB0 : Below w.heap.size w ((w.alloc (.cells #[.slice ka ks.length kc, .slice ta ts.length tc] 27)).alloc (.cells #[.slice ka' ks.length kc', .slice ta' ts.length tc'] 27)) := ((Below.refl _ _).alloc (Nat.le_refl _) _).alloc (by simp) _
  simp only [World.size_alloc] at hZ0
  obtain ⟨W0, hW0⟩ : ∃ W0, ((w.alloc (.cells #[.slice ka ks.length kc, .slice ta ts.length tc] 27)).alloc (.cells #[.slice ka' ks.length kc', .slice ta' ts.length tc'] 27)) = W0 := ⟨_, rfl⟩
  rw [hW0] at hA0 hZ0 hB0
  have h0 := h.below hB0
  have h0' := h'.below hB0
  have HW := Lib.hid hW0
  have H0 := Lib.hid (And.intro hA0 (And.intro hZ0 (And.intro hB0 (And.intro h0 h0'))))
  obtain ⟨c0, c1⟩ := cel2k hA0
  obtain ⟨d0, d1⟩ := cel2k hZ0
  clear hA0 hZ0 hB0 hW0 h0 h0' h h'
  go_enter Try.func15, Try.ntmps15
  go_upto_region 1 with (fail)
  rw [HW.out]
  clear HW
  go_wp2_with (fail)
  with_reducible refine (cK _ H0.out.2.2.2.1.k H0.out.2.2.2.2.k).mono ?_
  rintro e w1 ⟨rfl, b1⟩
  clear c0 c1 d0 d1
  obtain ⟨c0, c1⟩ := cel2k (H0.out.1.kept b1)
  obtain ⟨d0, d1⟩ := cel2k (H0.out.2.1.kept b1)
  have H1 := Lib.hid (And.intro (H0.out.2.2.2.1.below b1) (And.intro (H0.out.2.2.2.2.below b1) (Below.then_ H0.out.2.2.1 b1)))
  clear H0 b1
  go_wp2_with (fail)
  with_reducible refine (cT _ H1.out.1.t H1.out.2.1.t).mono ?_
  rintro e w2 ⟨rfl, b2⟩
  have H2 := Lib.hid (Below.then_ H1.out.2.2 b2)
  clear H1 b2 c0 c1 d0 d1
  go_wp2_with (fail)
  go_ret
  exact ⟨rfl, H2.out⟩
end Go.Proofs.Ytgfkmnadbcbfkaa
