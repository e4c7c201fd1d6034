import Derived.Test.YtjnobggefofjcaaMru
import Derived.Test.YtjnobggefofjcaaMdi
import Derived.Deep.RegionLawGrows
namespace Go.Proofs.Ytjnobggefofjcaa
open Go.RowKit

theorem keepc {W W' : World} {b o : Nat} {v : Value} (h : W.cell? ⟨b, o, none⟩ = some v) (hb : Below W.heap.size W W') : W'.cell? ⟨b, o, none⟩ = some v := by
  rw [hb.cell (p := ⟨b, o, none⟩) (World.block_lt_of_cell? _ _ h)]
  exact h

theorem seven_keep {w W W' : World} {g g' h k : Nat} {v x y z x' y' z' : Value} (a : W.cell? ⟨g, 0, none⟩ = some v ∧ W.cell? ⟨g', k * 3, none⟩ = some x ∧ W.cell? ⟨g', k * 3 + 1, none⟩ = some y ∧ W.cell? ⟨g', k * 3 + 2, none⟩ = some z ∧ W.cell? ⟨h, 0, none⟩ = some x' ∧ W.cell? ⟨h, 1, none⟩ = some y' ∧ W.cell? ⟨h, 2, none⟩ = some z' ∧ Below w.heap.size w W) (hb : Below W.heap.size W W') :
    W'.cell? ⟨g, 0, none⟩ = some v ∧ W'.cell? ⟨g', k * 3, none⟩ = some x ∧ W'.cell? ⟨g', k * 3 + 1, none⟩ = some y ∧ W'.cell? ⟨g', k * 3 + 2, none⟩ = some z ∧ W'.cell? ⟨h, 0, none⟩ = some x' ∧ W'.cell? ⟨h, 1, none⟩ = some y' ∧ W'.cell? ⟨h, 2, none⟩ = some z' ∧ Below w.heap.size w W' :=
  ⟨keepc a.1 hb, keepc a.2.1 hb, keepc a.2.2.1 hb, keepc a.2.2.2.1 hb, keepc a.2.2.2.2.1 hb, keepc a.2.2.2.2.2.1 hb, keepc a.2.2.2.2.2.2.1 hb, Below.then_ a.2.2.2.2.2.2.2 hb⟩

theorem flat_setLen (l : List Mp) (i : Nat) (h : i < l.length) (x : Int) : (flat l).set (i * 3 + 2) (.int .i64 x) = flat (l.set i ⟨l[i].sub, l[i].seq, x⟩) := by
  induction l generalizing i with
  | nil => simp at h
  | cons m r ih =>
    cases i with
    | zero => simp [flat]
    | succ i =>
      rw [show (i + 1) * 3 + 2 = i * 3 + 2 + 3 by omega]
      simp only [flat, List.set_cons_succ, List.getElem_cons_succ]
      rw [ih i (by simpa using h)]

/-- The length of one mapping of one's own turned. -/
theorem OwnM.putLen {W : World} {B C g n cap : Nat} {ms : List Mp} (h : OwnM W B C (.slice (some ⟨g, 0, none⟩) n cap) ms) (i : Nat) (hi : i < ms.length) (x : Int) :
    OwnM (W.setCell ⟨g, i * 3 + 2, none⟩ (.int .i64 x)) B C (.slice (some ⟨g, 0, none⟩) n cap) (ms.set i ⟨ms[i].sub, ms[i].seq, x⟩) := by
  obtain ⟨⟨h1, h2⟩, h3⟩ := h
  rcases h2 with ⟨h2, _⟩ | ⟨g', cap', cur, hv, hg, hh, r1, r2, r3, r4⟩
  · cases h2
  · injection hv with e1 e2 e3
    injection e1 with e1
    injection e1 with e1
    subst e1 e2 e3
    refine ⟨⟨by rw [flat_length], .inr ⟨g, cap, cur.setIfInBounds (i * 3 + 2) (.int .i64 x), by simp, hg, Cel.set (show Cel W g _ cur from hh) _ _, by simpa using r1, r2, by simpa using r3, ?_⟩⟩, h3⟩
    rw [Array.toList_setIfInBounds, List.length_set, List.take_set, r4, flat_setLen _ _ hi]

/-- A new slice stored in the variable. -/
theorem var_set {w W W2 : World} {B g : Nat} {v v' : Value} {ms : List Mp} (hC : Cel W g 50 #[v]) (hg : W.grownBy W2 v.ownBlock) (hne : v.ownBlock ≠ some g) (hO : OwnM W2 B W2.heap.size v' ms) (hB : Below B w W2) (hBg : B ≤ g) :
    Cel (W2.setCell ⟨g, 0, none⟩ v') g 50 #[v'] ∧ OwnM (W2.setCell ⟨g, 0, none⟩ v') B (W2.setCell ⟨g, 0, none⟩ v').heap.size v' ms ∧ Below B w (W2.setCell ⟨g, 0, none⟩ v') ∧ W2.cell? ⟨g, 0, none⟩ = some v ∧ W2.frozen? ⟨g, 0, none⟩ = false := by
  have hC2 : Cel W2 g 50 #[v] := hC.grown hg (fun e => hne e.symm)
  refine ⟨hC2.set 0 v', ?_, hB.setCell (p := ⟨g, 0, none⟩) hBg _, hC2.cell 0, hC2.frozen 0⟩
  exact (hO.keepAt fun k hk => Below.heap_setCell _ _ _ _ (own_var hO hC2 k hk)).mono (Nat.le_refl _) (by simp)

set_option maxRecDepth 100000 in
set_option maxHeartbeats 4000000 in
theorem impl_join (g : Nat) (v : Value) (acc : List Mp) (m : Mp) (B : Nat) (w : World) (hg : Cel w g 50 #[v]) (hBg : B ≤ g) (hv : OwnM w B w.heap.size v acc) (hf : ∀ m ∈ acc, m.fine) (hm : m.fine) (hn : acc.length ≤ 1048576) :
    Calls Try.prog 34 #[.pointer (some ⟨g, 0, none⟩), .agg m.cells] w fun e w' => e = .returned (.tuple #[]) ∧ (∃ v', Cel w' g 50 #[v'] ∧ OwnM w' B w'.heap.size v' (joinM acc m)) ∧ Below B w w' := by
  have hbx := below_box w m
  have hB0 : B ≤ w.heap.size := Nat.le_trans hBg (Nat.le_of_lt hg.lt)
  have hgl := hg.lt
  have hne : v.ownBlock ≠ some g := fun e => own_var hv hg _ e rfl
  have c0 := (hg.kept hbx).cell 0
  rw [show (#[v] : Array Value)[0]? = some v from rfl] at c0
  obtain ⟨va, vc, rfl, hform⟩ := hv.form
  by_cases h0 : acc.length = 0
  · obtain rfl : acc = [] := List.eq_nil_of_length_eq_zero h0
    have hj : joinM [] m = [m] := rfl
    rw [hj]
    have q0 : IntKind.i64.wrap (((0 : Nat) : Int) - 1) = -1 := by decide
    have HH := Lib.hid (And.intro hg (And.intro hv (And.intro hbx hne)))
    unfold Mp.cells
    clear hj hg hv hbx hne h0 hf hform
    go_enter Try.func34, Try.ntmps34
    go_wp2_with (fail)
    go_quiet (fail)
    go_wp2_with (fail)
    have hW1 : Cel (((w.alloc (.cells #[.int .i64 m.sub, .int .i64 m.seq, .int .i64 m.len] 26)).drewN nq).alloc (.cells #[.int .i64 m.sub, .int .i64 m.seq, .int .i64 m.len] 26)).drew g 50 #[(.slice va 0 vc)] := ((HH.out.1.kept HH.out.2.2.1).drewN nq).alloc _
    have hW2 : OwnM (((w.alloc (.cells #[.int .i64 m.sub, .int .i64 m.seq, .int .i64 m.len] 26)).drewN nq).alloc (.cells #[.int .i64 m.sub, .int .i64 m.seq, .int .i64 m.len] 26)).drew B (((w.alloc (.cells #[.int .i64 m.sub, .int .i64 m.seq, .int .i64 m.len] 26)).drewN nq).alloc (.cells #[.int .i64 m.sub, .int .i64 m.seq, .int .i64 m.len] 26)).drew.heap.size (.slice va 0 vc) [] := own_alloc (own_drewN (own_alloc HH.out.2.1 _)) _
    have hW3 : Below w.heap.size w (((w.alloc (.cells #[.int .i64 m.sub, .int .i64 m.seq, .int .i64 m.len] 26)).drewN nq).alloc (.cells #[.int .i64 m.sub, .int .i64 m.seq, .int .i64 m.len] 26)).drew := ((below_drewN HH.out.2.2.1).alloc (by have := HH.out.2.2.1.size; simp at this ⊢) _).drew
    have hW4 : B ≤ (((w.alloc (.cells #[.int .i64 m.sub, .int .i64 m.seq, .int .i64 m.len] 26)).drewN nq).alloc (.cells #[.int .i64 m.sub, .int .i64 m.seq, .int .i64 m.len] 26)).drew.heap.size := Nat.le_trans hB0 hW3.size
    have hrd : RdM (((w.alloc (.cells #[.int .i64 m.sub, .int .i64 m.seq, .int .i64 m.len] 26)).drewN nq).alloc (.cells #[.int .i64 m.sub, .int .i64 m.seq, .int .i64 m.len] 26)).drew (.slice (some ⟨w.heap.size + 1, 0, none⟩) 1 1) [m] := by
      have := rd_one ((w.alloc (.cells #[.int .i64 m.sub, .int .i64 m.seq, .int .i64 m.len] 26)).drewN nq) m
      rw [show ((w.alloc (.cells #[.int .i64 m.sub, .int .i64 m.seq, .int .i64 m.len] 26)).drewN nq).heap.size = w.heap.size + 1 by simp] at this
      exact this
    have HW := Lib.hid (And.intro hW1 (And.intro hW2 (And.intro hW3 (And.intro hW4 hrd))))
    clear hW1 hW2 hW3 hW4 hrd
    go_region_law (first
      | (refine step_append_maps (by rfl) _ _ 50 50 (by rfl) uL uL B (.slice va 0 vc) _ [] [m] (by rfl) (by rfl) HW.out.2.1 HW.out.2.2.2.1 HW.out.2.2.2.2 (by simp) ?_
         intro v' w9 hown hgrow _
         obtain ⟨va', vc', rfl, -⟩ := hown.form
         obtain ⟨r1, r2, r3, r4, r5⟩ := var_set (w := w) HW.out.1 hgrow HH.out.2.2.2 hown ((HW.out.2.2.1.mono hB0).grown hgrow HW.out.2.2.2.1 (fun k hk => (HW.out.2.1.block k hk).1)) hBg
         have HN := Lib.hid (And.intro r1 (And.intro r2 r3))
         clear r1 r2 r3 hown hgrow))
    all_goals
      go_wp2_with (fail)
      exact bodyPost_end (v := .tuple #[]) (by simp [results, Try.results34, go_sem]) rfl ⟨rfl, ⟨_, HN.out.1, HN.out.2.1⟩, HN.out.2.2⟩
  · have hln : acc.length - 1 < acc.length := by omega
    obtain ⟨k, hk⟩ : ∃ k, acc.length - 1 = k := ⟨_, rfl⟩
    obtain ⟨g', rfl, hg1, hg2⟩ := hform (by omega)
    have hjm := joinM_at acc m (by omega)
    have hlast : (acc[acc.length - 1]'hln).fine := hf _ (List.getElem_mem hln)
    simp only [hk] at hjm hlast hln
    have hO1 := hv.keep hbx (Nat.le_refl _)
    obtain ⟨k0, k1, k2, -, hgw, -⟩ := hO1.at k hln
    generalize hl : acc[k] = l at *
    have q0 : IntKind.i64.wrap ((acc.length : Int) - 1) = (k : Int) := by rw [IntWalk.i64_in _ (by omega)]; omega
    have q1 : (0 : Int) ≤ (k : Int) ∧ (k : Int) < (acc.length : Int) := by omega
    have q2 : decide ((0 : Int) ≤ (k : Int)) = true := decide_eq_true q1.1
    have cc := fun W => impl_contBy l m W hlast hm
    obtain ⟨b0, b1, b2⟩ := cel3 (Cel.new w 26 #[.int .i64 m.sub, .int .i64 m.seq, .int .i64 m.len])
    have hS : (w.alloc (.cells #[.int .i64 m.sub, .int .i64 m.seq, .int .i64 m.len] 26)).drew.cell? ⟨g, 0, none⟩ = some (.slice (some ⟨g', 0, none⟩) acc.length vc) ∧ (w.alloc (.cells #[.int .i64 m.sub, .int .i64 m.seq, .int .i64 m.len] 26)).drew.cell? ⟨g', k * 3, none⟩ = some (.int .i64 l.sub) ∧ (w.alloc (.cells #[.int .i64 m.sub, .int .i64 m.seq, .int .i64 m.len] 26)).drew.cell? ⟨g', k * 3 + 1, none⟩ = some (.int .i64 l.seq) ∧ (w.alloc (.cells #[.int .i64 m.sub, .int .i64 m.seq, .int .i64 m.len] 26)).drew.cell? ⟨g', k * 3 + 2, none⟩ = some (.int .i64 l.len) ∧ (w.alloc (.cells #[.int .i64 m.sub, .int .i64 m.seq, .int .i64 m.len] 26)).drew.cell? ⟨w.heap.size, 0, none⟩ = some (.int .i64 m.sub) ∧ (w.alloc (.cells #[.int .i64 m.sub, .int .i64 m.seq, .int .i64 m.len] 26)).drew.cell? ⟨w.heap.size, 1, none⟩ = some (.int .i64 m.seq) ∧ (w.alloc (.cells #[.int .i64 m.sub, .int .i64 m.seq, .int .i64 m.len] 26)).drew.cell? ⟨w.heap.size, 2, none⟩ = some (.int .i64 m.len) ∧ Below w.heap.size w (w.alloc (.cells #[.int .i64 m.sub, .int .i64 m.seq, .int .i64 m.len] 26)).drew :=
      ⟨c0, k0, k1, k2, b0, b1, b2, hbx.drew⟩
    have hsum : 0 ≤ l.len ∧ l.len ≤ 100000 ∧ 0 ≤ m.len ∧ m.len ≤ 100000 := by unfold Mp.fine at hlast hm; omega
    have e3 : IntKind.i64.wrap (l.len + m.len) = l.len + m.len := IntWalk.i64_in _ (by omega)
    have HH := Lib.hid (And.intro hg (And.intro hv (And.intro hbx (And.intro hne (And.intro hjm hl)))))
    unfold Mp.cells at *
    clear hg hv hbx hne hO1 hform hlast hm hf h0 hjm hl hk k0 k1 k2 b0 b1 b2
    go_enter Try.func34, Try.ntmps34
    go_wp2_with (fail)
    clear c0
    go_region_held3 (fun W => W.cell? ⟨g, 0, none⟩ = some (.slice (some ⟨g', 0, none⟩) acc.length vc) ∧ W.cell? ⟨g', k * 3, none⟩ = some (.int .i64 l.sub) ∧ W.cell? ⟨g', k * 3 + 1, none⟩ = some (.int .i64 l.seq) ∧ W.cell? ⟨g', k * 3 + 2, none⟩ = some (.int .i64 l.len) ∧ W.cell? ⟨w.heap.size, 0, none⟩ = some (.int .i64 m.sub) ∧ W.cell? ⟨w.heap.size, 1, none⟩ = some (.int .i64 m.seq) ∧ W.cell? ⟨w.heap.size, 2, none⟩ = some (.int .i64 m.len) ∧ Below w.heap.size w W)
      (first | exact hS | exact seven_keep (by assumption) (by assumption) | go_keep)
      (first | (go_at_call 45; (with_reducible refine (cc _).mono ?_); rintro e w1 ⟨rfl, hb1⟩))
    rename_i hHH
    obtain ⟨c4, k0, k1, k2, b0, b1, b2, hB1⟩ := hHH
    have hC1 : Cel w1 g 50 #[.slice (some ⟨g', 0, none⟩) acc.length vc] := HH.out.1.kept hB1
    have hO1 : OwnM w1 B w.heap.size (.slice (some ⟨g', 0, none⟩) acc.length vc) acc := HH.out.2.1.keep hB1 (Nat.le_refl _)
    have hgw1 := hC1.lt
    clear hS hb1 cc
    by_cases hgo : l.goesOn m
    · have d := decide_eq_true hgo
      have hjm : joinM acc m = acc.set k ⟨l.sub, l.seq, l.len + m.len⟩ := by rw [HH.out.2.2.2.2.1, if_pos hgo]
      have hp := hO1.putLen k hln (l.len + m.len)
      have hff := (hO1.at k hln).2.2.2.1 (k * 3 + 2)
      rw [show acc[k] = l from HH.out.2.2.2.2.2, ← hjm] at hp
      have hC2 : Cel (w1.setCell ⟨g', k * 3 + 2, none⟩ (.int .i64 (l.len + m.len))) g 50 #[.slice (some ⟨g', 0, none⟩) acc.length vc] := hC1.other _ _ (fun e => HH.out.2.2.2.1 (by simp [Value.ownBlock] at e ⊢; exact e.symm))
      have hB2 : Below B w (w1.setCell ⟨g', k * 3 + 2, none⟩ (.int .i64 (l.len + m.len))) := (hB1.mono hB0).setCell (p := ⟨g', k * 3 + 2, none⟩) hg1 _
      have hO2 : OwnM (w1.setCell ⟨g', k * 3 + 2, none⟩ (.int .i64 (l.len + m.len))) B (w1.setCell ⟨g', k * 3 + 2, none⟩ (.int .i64 (l.len + m.len))).heap.size (.slice (some ⟨g', 0, none⟩) acc.length vc) (joinM acc m) := hp.mono (Nat.le_refl _) (by have := hB1.size; simp; omega)
      have HN := Lib.hid (And.intro hC2 (And.intro hO2 hB2))
      clear hjm hp hC1 hO1 hC2 hB2 hO2 hB1
      go_wp2_with (fail)
      refine wp_region_still_tail 12 (by kernel_rfl) (by kernel_rfl) ?_
      change wpStill _ _ w1.drew (fun a' => wpList _ _ _ _ a' w1.drew) _ _
      simp only [List.take_succ_cons, List.take_zero, List.drop_succ_cons, List.drop_zero]
      iterate 12 still_step
      refine wpStill_nil ?_
      go_wp2_with (fail)
      exact bodyPost_ret (v := .tuple #[]) (by simp [results, Try.results34, go_sem]) rfl ⟨rfl, ⟨_, HN.out.1, HN.out.2.1⟩, below_drewN (n := 1) HN.out.2.2⟩
    · have d := decide_eq_false hgo
      have hjm : joinM acc m = acc ++ [m] := by rw [HH.out.2.2.2.2.1, if_neg hgo]
      have hW1 : Cel (w1.alloc (.cells #[.int .i64 m.sub, .int .i64 m.seq, .int .i64 m.len] 26)).drew g 50 #[.slice (some ⟨g', 0, none⟩) acc.length vc] := hC1.alloc _
      have hW2 : OwnM (w1.alloc (.cells #[.int .i64 m.sub, .int .i64 m.seq, .int .i64 m.len] 26)).drew B (w1.alloc (.cells #[.int .i64 m.sub, .int .i64 m.seq, .int .i64 m.len] 26)).drew.heap.size (.slice (some ⟨g', 0, none⟩) acc.length vc) acc := own_alloc (hO1.mono (Nat.le_refl _) hB1.size) _
      have hW3 : Below w.heap.size w (w1.alloc (.cells #[.int .i64 m.sub, .int .i64 m.seq, .int .i64 m.len] 26)).drew := (hB1.alloc hB1.size _).drew
      have hW4 : B ≤ (w1.alloc (.cells #[.int .i64 m.sub, .int .i64 m.seq, .int .i64 m.len] 26)).drew.heap.size := Nat.le_trans hB0 hW3.size
      have hrd : RdM (w1.alloc (.cells #[.int .i64 m.sub, .int .i64 m.seq, .int .i64 m.len] 26)).drew (.slice (some ⟨w1.heap.size, 0, none⟩) 1 1) [m] := rd_one w1 m
      have HW := Lib.hid (And.intro hW1 (And.intro hW2 (And.intro hW3 (And.intro hW4 (And.intro hrd hjm)))))
      clear hW1 hW2 hW3 hW4 hrd hjm hC1 hO1 hB1 hsum e3
      go_wp2_with (fail)
      go_region_law (first
        | (refine step_append_maps (by rfl) _ _ 50 50 (by rfl) uL uL B (.slice (some ⟨g', 0, none⟩) acc.length vc) _ acc [m] (by rfl) (by rfl) HW.out.2.1 HW.out.2.2.2.1 HW.out.2.2.2.2.1 (by simp; omega) ?_
           intro v' w9 hown hgrow _
           obtain ⟨va', vc', hvv, -⟩ := hown.form
           rw [List.length_append, List.length_singleton] at hvv
           subst hvv
           obtain ⟨r1, r2, r3, r4, r5⟩ := var_set (w := w) HW.out.1 hgrow HH.out.2.2.2.1 hown ((HW.out.2.2.1.mono hB0).grown hgrow HW.out.2.2.2.1 (fun k hk => (HW.out.2.1.block k hk).1)) hBg
           have HN := Lib.hid (And.intro r1 (And.intro r2 r3))
           clear r1 r2 r3 hown hgrow))
      all_goals
        go_wp2_with (fail)
        exact bodyPost_end (v := .tuple #[]) (by simp [results, Try.results34, go_sem]) rfl ⟨rfl, ⟨_, HN.out.1, by have := HN.out.2.1; rw [← HW.out.2.2.2.2.2] at this; exact this⟩, HN.out.2.2⟩
end Go.Proofs.Ytjnobggefofjcaa
