import Derived.Test.YtgfkmnadbcbfkaaTcv
import Derived.Test.YtgfkmnadbcbfkaaRto
import Derived.StillTailTactics
import Derived.Deep.RegionHeld3
import Derived.Deep.Cut
namespace Go.Proofs.Ytgfkmnadbcbfkaa
open Go.RowKit

set_option maxRecDepth 100000 in
set_option maxHeartbeats 2000000 in
theorem to_tag_x (m : Tv) (w : World) :
    Calls Try.prog 26 #[.agg #[.int .i64 m.kind, .int .i64 m.one, .int .i64 m.two, .int .i64 m.a, .int .i64 m.b]] w fun e w' => e = .returned (.agg #[.int .i64 m.kind, .int .i64 m.one, .int .i64 m.two, .int .i64 m.a, .int .i64 m.b]) ∧ w' = (((w.alloc (.cells #[.int .i64 m.kind, .int .i64 m.one, .int .i64 m.two, .int .i64 m.a, .int .i64 m.b] 42)).alloc (.cells #[.int .i64 m.kind, .int .i64 m.one, .int .i64 m.two, .int .i64 m.a, .int .i64 m.b] 29)).alloc (.cells #[.int .i64 m.kind, .int .i64 m.one, .int .i64 m.two, .int .i64 m.a, .int .i64 m.b] 29)) := by
  obtain ⟨wf, hwf⟩ : ∃ wf, wf = (((w.alloc (.cells #[.int .i64 m.kind, .int .i64 m.one, .int .i64 m.two, .int .i64 m.a, .int .i64 m.b] 42)).alloc (.cells #[.int .i64 m.kind, .int .i64 m.one, .int .i64 m.two, .int .i64 m.a, .int .i64 m.b] 29)).alloc (.cells #[.int .i64 m.kind, .int .i64 m.one, .int .i64 m.two, .int .i64 m.a, .int .i64 m.b] 29)) := ⟨_, rfl⟩
  rw [← hwf]
  have HW := Lib.hid hwf
  clear hwf
  go_enter Try.func26, Try.ntmps26
  go_wp2_with (fail)
  exact bodyPost_ret (v := .agg #[.int .i64 m.kind, .int .i64 m.one, .int .i64 m.two, .int .i64 m.a, .int .i64 m.b]) (by simp [results, Try.results26, go_sem]) rfl ⟨rfl, HW.out.symm⟩
theorem to_tag_below (m : Tv) (w : World) : Below w.heap.size w (((w.alloc (.cells #[.int .i64 m.kind, .int .i64 m.one, .int .i64 m.two, .int .i64 m.a, .int .i64 m.b] 42)).alloc (.cells #[.int .i64 m.kind, .int .i64 m.one, .int .i64 m.two, .int .i64 m.a, .int .i64 m.b] 29)).alloc (.cells #[.int .i64 m.kind, .int .i64 m.one, .int .i64 m.two, .int .i64 m.a, .int .i64 m.b] 29)) := ((((Below.refl _ _).alloc (Nat.le_refl _) _).alloc (by simp) _).alloc (by simp; omega) _)
theorem to_tag (m : Tv) (w : World) :
    Calls Try.prog 26 #[.agg #[.int .i64 m.kind, .int .i64 m.one, .int .i64 m.two, .int .i64 m.a, .int .i64 m.b]] w fun e w' => e = .returned (.agg #[.int .i64 m.kind, .int .i64 m.one, .int .i64 m.two, .int .i64 m.a, .int .i64 m.b]) ∧ Below w.heap.size w w' :=
  (to_tag_x m w).mono fun _ _ h => ⟨h.1, by rw [h.2]; exact to_tag_below m w⟩

set_option maxRecDepth 100000 in
set_option maxHeartbeats 2000000 in
theorem eq_tag_x (m : Tv) (w : World) :
    Calls Try.prog 21 #[.agg #[.int .i64 m.kind, .int .i64 m.one, .int .i64 m.two, .int .i64 m.a, .int .i64 m.b], .agg #[.int .i64 m.kind, .int .i64 m.one, .int .i64 m.two, .int .i64 m.a, .int .i64 m.b]] w fun e w' => e = .returned (.bool true) ∧ w' = ((w.alloc (.cells #[.int .i64 m.kind, .int .i64 m.one, .int .i64 m.two, .int .i64 m.a, .int .i64 m.b] 29)).alloc (.cells #[.int .i64 m.kind, .int .i64 m.one, .int .i64 m.two, .int .i64 m.a, .int .i64 m.b] 29)) := by
  obtain ⟨wf, hwf⟩ : ∃ wf, wf = ((w.alloc (.cells #[.int .i64 m.kind, .int .i64 m.one, .int .i64 m.two, .int .i64 m.a, .int .i64 m.b] 29)).alloc (.cells #[.int .i64 m.kind, .int .i64 m.one, .int .i64 m.two, .int .i64 m.a, .int .i64 m.b] 29)) := ⟨_, rfl⟩
  rw [← hwf]
  have HW := Lib.hid hwf
  clear hwf
  go_enter Try.func21, Try.ntmps21
  go_wp2_with (fail)
  go_ret
  exact ⟨rfl, HW.out.symm⟩
theorem eq_tag (m : Tv) (w : World) :
    Calls Try.prog 21 #[.agg #[.int .i64 m.kind, .int .i64 m.one, .int .i64 m.two, .int .i64 m.a, .int .i64 m.b], .agg #[.int .i64 m.kind, .int .i64 m.one, .int .i64 m.two, .int .i64 m.a, .int .i64 m.b]] w fun e w' => e = .returned (.bool true) ∧ Below w.heap.size w w' :=
  (eq_tag_x m w).mono fun _ _ h => ⟨h.1, by rw [h.2]; exact (((Below.refl _ _).alloc (Nat.le_refl _) _).alloc (by simp) _)⟩

attribute [-go_sem] loadCells loadCellsFrom

theorem sz_tagS (v : Value) (ms : List Tv) (left : Int) (w : World) (hv : RdT w v ms) (hn : ms.length ≤ 9223372036854775807) (h0 : 0 ≤ left) (h1 : left ≤ 1048576) :
    Calls Try.prog 39 #[v, .int .i64 left] w fun e w' => e = .returned (.int .i64 (if left - (ms.length : Int) < 0 then -1 else left - (ms.length : Int))) ∧ w = w' := by
  obtain ⟨a, c, rfl⟩ := hv.form
  clear hv
  by_cases hl : left - (ms.length : Int) < 0
  · rw [if_pos hl]
    go_enter Try.func39, Try.ntmps39
    go_wp2_with (fail)
    go_ret
    exact ⟨rfl, rfl⟩
  · rw [if_neg hl]
    go_enter Try.func39, Try.ntmps39
    go_wp2_with (fail)
    go_ret
    exact ⟨rfl, rfl⟩

set_option maxRecDepth 100000 in
set_option maxHeartbeats 2000000 in
theorem to_tagS (v : Value) (ms : List Tv) (w : World) (hv : RdT w v ms) (hn : ms.length ≤ 1048576) :
    Calls Try.prog 42 #[v] w fun e w' => e = .returned (.slice (some ⟨w.heap.size, 0, none⟩) ms.length ms.length) ∧ OwnT w' w.heap.size (w.heap.size + 1) (.slice (some ⟨w.heap.size, 0, none⟩) ms.length ms.length) ms ∧ Below w.heap.size w w' := by
  have hmk := emake tvK 25 uTv ms.length hn w
  have hB0 := below_new w (.cells (tvK.flat (List.replicate ms.length tvK.zero)).toArray tvK.t)
  have hO0 : OwnT (w.alloc (.cells (tvK.flat (List.replicate ms.length tvK.zero)).toArray tvK.t)) w.heap.size (w.heap.size + 1) (.slice (some ⟨w.heap.size, 0, none⟩) ms.length ms.length) (List.replicate ms.length tvK.zero) := by
    have := OwnE.of_cel (xs := List.replicate ms.length tvK.zero) (Cel.new w tvK.t _) (Nat.le_refl _) (Nat.lt_succ_self _) (by rw [List.length_replicate]; unfold maxLen; omega)
    rwa [List.length_replicate] at this
  obtain ⟨va, vc, rfl⟩ := hv.form
  generalize w.alloc (.cells (tvK.flat (List.replicate ms.length tvK.zero)).toArray tvK.t) = W1 at *
  go_enter Try.func42, Try.ntmps42
  go_wp2_with (fail)
  go_loopw [4] (fun i wr => ∃ k : Nat, k ≤ ms.length ∧ i = .int .i64 k ∧ OwnT wr w.heap.size (w.heap.size + 1) (.slice (some ⟨w.heap.size, 0, none⟩) ms.length ms.length) (ms.take k ++ List.replicate (ms.length - k) tvK.zero) ∧ Below w.heap.size w wr) (fun i _ => ms.length - (intOf i).toNat)
  case atStart => exact ⟨0, by omega, rfl, by simpa using hO0, hB0⟩
  case round =>
    clear hO0 hB0 hmk
    obtain ⟨k, hk, rfl, hO, hB⟩ := hrel
    by_cases hlt : k < ms.length
    · have q : (k : Int) < (ms.length : Int) := by omega
      have q2 : (0 : Int) ≤ (k : Int) := by omega
      obtain ⟨b, off, ha, -, -, -, -, -, -, ld⟩ := tv_at (P := Try.prog) (hv.below hB) k hlt
      subst ha
      have ct := to_tag ms[k] wr
      have hl : k < (ms.take k ++ List.replicate (ms.length - k) tvK.zero).length := by simp; omega
      have hset : (ms.take k ++ List.replicate (ms.length - k) tvK.zero).set k ms[k] = ms.take (k + 1) ++ List.replicate (ms.length - (k + 1)) tvK.zero := by
        have e : ms.length - k = (ms.length - (k + 1)) + 1 := by omega
        rw [e, List.replicate_succ, List.set_append_right _ _ (by rw [List.length_take]; omega), List.length_take, Nat.min_eq_left (by omega), Nat.sub_self, List.set_cons_zero, List.take_succ_eq_append_getElem hlt, List.append_assoc]
        rfl
      generalize ms[k] = m at *
      generalize ms.take k ++ List.replicate (ms.length - k) tvK.zero = cur at *
      have HS := Lib.hid hset
      clear hset
      go_wp2_with (fail)
      with_reducible refine ct.mono ?_
      rintro e w2 ⟨rfl, hb2⟩
      have hlw : w.heap.size < wr.heap.size := (tv_own hO k hl).2.2.2.2.2.2.1
      have hO2 := hO.keep hb2 (by omega)
      have hB2 := Below.then_ hB hb2
      have hth : w2.there w.heap.size (k * 5) (#[Value.int .i64 m.kind, .int .i64 m.one, .int .i64 m.two, .int .i64 m.a, .int .i64 m.b]).size := (tv_own hO2 k hl).2.2.2.2.2.2.2
      have one : (#[Value.int .i64 m.kind, .int .i64 m.one, .int .i64 m.two, .int .i64 m.a, .int .i64 m.b]).all (·.oneCell') = true := by simp [Value.oneCell']
      have hO3 := tv_putC hO2 k hl m
      have hB3 := hB2.trans (esetC_below w.heap.size w.heap.size (Nat.le_refl _) (k * 5) [.int .i64 m.kind, .int .i64 m.one, .int .i64 m.two, .int .i64 m.a, .int .i64 m.b] w2)
      have HO := Lib.hid hO3
      clear ld ct hO hO2 hO3 hB hB2 hl
      go_upto_region 4 with (with_reducible refine wpList_store_mid rfl 29 _ _ rfl w.heap.size (k * 5) _ rfl rfl hth (sizeTv _) one ?_)
      clear hth one
      generalize w2.setCells w.heap.size (k * 5) [.int .i64 m.kind, .int .i64 m.one, .int .i64 m.two, .int .i64 m.a, .int .i64 m.b] = W5 at *
      go_wp2_with (fail)
      go_roundw
      case rel => exact ⟨k + 1, by omega, by go_num, by rw [← HS.out]; exact HO.out, hB3⟩
      case measure => simp [intOf]; omega
    · obtain rfl : k = ms.length := by omega
      have q : ¬ (ms.length : Int) < (ms.length : Int) := by omega
      go_wp2_with (fail)
      go_ret
      exact ⟨rfl, by simpa using hO, hB⟩

set_option maxRecDepth 100000 in
set_option maxHeartbeats 1000000 in
theorem eq_tagS (v u : Value) (ms : List Tv) (w : World) (hv : RdT w v ms) (hu : RdT w u ms) (hn : ms.length ≤ 9223372036854775807) :
    Calls Try.prog 44 #[v, u] w fun e w' => e = .returned (.bool true) ∧ Below w.heap.size w w' := by
  have hv0 := hv
  have hu0 := hu
  obtain ⟨a, c, rfl⟩ := hv.form
  obtain ⟨a', c', rfl⟩ := hu.form
  clear hv hu
  go_enter Try.func44, Try.ntmps44
  go_wp2_with (fail)
  go_loopw [5] (fun i wr => ∃ k : Nat, k ≤ ms.length ∧ i = .int .i64 k ∧ RdT wr (.slice a ms.length c) ms ∧ RdT wr (.slice a' ms.length c') ms ∧ Below w.heap.size w wr) (fun i _ => ms.length - (intOf i).toNat)
  case atStart => exact ⟨0, by omega, rfl, hv0, hu0, Below.refl _ _⟩
  case round =>
    clear hv0 hu0
    obtain ⟨k, hk, rfl, hR, hU, hB⟩ := hrel
    by_cases hlt : k < ms.length
    · have q : (k : Int) < (ms.length : Int) := by omega
      have q2 : (0 : Int) ≤ (k : Int) := by omega
      obtain ⟨b, off, ha, -, -, -, -, -, -, ld⟩ := tv_at (P := Try.prog) hR.drew k hlt
      subst ha
      obtain ⟨b', off', ha, -, -, -, -, -, -, ld'⟩ := tv_at (P := Try.prog) hU.drew k hlt
      subst ha
      have ce0 := eq_tag ms[k] wr.drew
      generalize ms[k] = m at *
      go_wp2_with (fail)
      refine wp_region_still_tail 8 (by kernel_rfl) (by kernel_rfl) ?_
      change wpStill _ _ wr.drew (fun a' => wpList _ _ _ _ a' wr.drew) _ _
      have hR2 : RdT wr.drew _ ms := hR
      have hU2 : RdT wr.drew _ ms := hU
      have hB := hB.drew
      clear hR hU
      generalize wr.drew = W4 at *
      simp only [List.take_succ_cons, List.take_zero, List.drop_succ_cons, List.drop_zero]
      iterate 8 still_step
      refine wpStill_nil ?_
      go_wp2_with (fail)
      with_reducible refine ce0.mono ?_
      rintro e w2 ⟨rfl, hb2⟩
      have hR3 := hR2.below hb2
      have hU3 := hU2.below hb2
      have hB3 := Below.then_ hB hb2
      clear ld ld' ce0 hR2 hU2 hB hb2
      go_wp2_with (fail)
      go_roundw
      case rel => exact ⟨k + 1, by omega, by go_num, hR3, hU3, hB3⟩
      case measure => simp [intOf]; omega
    · obtain rfl : k = ms.length := by omega
      have q : ¬ (ms.length : Int) < (ms.length : Int) := by omega
      clear hR hU
      go_wp2_with (fail)
      go_ret
      exact ⟨rfl, hB⟩


end Go.Proofs.Ytgfkmnadbcbfkaa
