import Derived.Test.YtoeflkmhofkiaaaHcv
import Derived.Test.YtoeflkmhofkiaaaRto
import Derived.StillTailTactics
import Derived.Deep.RegionHeld3
import Derived.Deep.Cut
namespace Go.Proofs.Ytoeflkmhofkiaaa
open Go.RowKit
set_option maxRecDepth 100000

set_option maxRecDepth 100000 in
set_option maxHeartbeats 2000000 in
theorem to_road_x (m : Rv) (w : World) :
    Calls Try.prog 40 #[.agg #[.int .i64 m.own, .int .i64 m.far, .int .i64 m.port]] w fun e w' => e = .returned (.agg #[.int .i64 m.own, .int .i64 m.far, .int .i64 m.port]) ∧ w' = (((w.alloc (.cells #[.int .i64 m.own, .int .i64 m.far, .int .i64 m.port] 53)).alloc (.cells #[.int .i64 m.own, .int .i64 m.far, .int .i64 m.port] 26)).alloc (.cells #[.int .i64 m.own, .int .i64 m.far, .int .i64 m.port] 26)) := by
  obtain ⟨wf, hwf⟩ : ∃ wf, wf = (((w.alloc (.cells #[.int .i64 m.own, .int .i64 m.far, .int .i64 m.port] 53)).alloc (.cells #[.int .i64 m.own, .int .i64 m.far, .int .i64 m.port] 26)).alloc (.cells #[.int .i64 m.own, .int .i64 m.far, .int .i64 m.port] 26)) := ⟨_, rfl⟩
  rw [← hwf]
  have HW := Lib.hid hwf
  clear hwf
  go_enter Try.func40, Try.ntmps40
  go_wp2_with (fail)
  exact bodyPost_ret (v := .agg #[.int .i64 m.own, .int .i64 m.far, .int .i64 m.port]) (by simp [results, Try.results40, go_sem]) rfl ⟨rfl, HW.out.symm⟩
theorem to_road_below (m : Rv) (w : World) : Below w.heap.size w (((w.alloc (.cells #[.int .i64 m.own, .int .i64 m.far, .int .i64 m.port] 53)).alloc (.cells #[.int .i64 m.own, .int .i64 m.far, .int .i64 m.port] 26)).alloc (.cells #[.int .i64 m.own, .int .i64 m.far, .int .i64 m.port] 26)) := ((((Below.refl _ _).alloc (Nat.le_refl _) _).alloc (by simp) _).alloc (by simp; omega) _)

set_option maxRecDepth 100000 in
set_option maxHeartbeats 2000000 in
theorem eq_road_x (m : Rv) (w : World) :
    Calls Try.prog 37 #[.agg #[.int .i64 m.own, .int .i64 m.far, .int .i64 m.port], .agg #[.int .i64 m.own, .int .i64 m.far, .int .i64 m.port]] w fun e w' => e = .returned (.bool true) ∧ w' = ((w.alloc (.cells #[.int .i64 m.own, .int .i64 m.far, .int .i64 m.port] 26)).alloc (.cells #[.int .i64 m.own, .int .i64 m.far, .int .i64 m.port] 26)) := by
  obtain ⟨wf, hwf⟩ : ∃ wf, wf = ((w.alloc (.cells #[.int .i64 m.own, .int .i64 m.far, .int .i64 m.port] 26)).alloc (.cells #[.int .i64 m.own, .int .i64 m.far, .int .i64 m.port] 26)) := ⟨_, rfl⟩
  rw [← hwf]
  have HW := Lib.hid hwf
  clear hwf
  go_enter Try.func37, Try.ntmps37
  go_wp2_with (fail)
  go_ret
  exact ⟨rfl, HW.out.symm⟩

set_option maxRecDepth 100000 in
set_option maxHeartbeats 2000000 in
theorem to_half_x (m : Hv) (w : World) :
    Calls Try.prog 31 #[.agg #[.int .i64 m.road.own, .int .i64 m.road.far, .int .i64 m.road.port, .int .i64 m.theirs, .int .i64 m.mine, .int .i64 m.give, .int .i64 m.take, .int .i64 m.till]] w fun e w' => e = .returned (.agg #[.int .i64 m.road.own, .int .i64 m.road.far, .int .i64 m.road.port, .int .i64 m.theirs, .int .i64 m.mine, .int .i64 m.give, .int .i64 m.take, .int .i64 m.till]) ∧ w' = ((((((w.alloc (.cells #[.int .i64 m.road.own, .int .i64 m.road.far, .int .i64 m.road.port, .int .i64 m.theirs, .int .i64 m.mine, .int .i64 m.give, .int .i64 m.take, .int .i64 m.till] 55)).alloc (.cells #[.int .i64 m.road.own, .int .i64 m.road.far, .int .i64 m.road.port, .int .i64 m.theirs, .int .i64 m.mine, .int .i64 m.give, .int .i64 m.take, .int .i64 m.till] 28)).alloc (.cells #[.int .i64 m.road.own, .int .i64 m.road.far, .int .i64 m.road.port, .int .i64 m.theirs, .int .i64 m.mine, .int .i64 m.give, .int .i64 m.take, .int .i64 m.till] 28)).alloc (.cells #[.int .i64 m.road.own, .int .i64 m.road.far, .int .i64 m.road.port] 53)).alloc (.cells #[.int .i64 m.road.own, .int .i64 m.road.far, .int .i64 m.road.port] 26)).alloc (.cells #[.int .i64 m.road.own, .int .i64 m.road.far, .int .i64 m.road.port] 26)) := by
  have c0 := fun W => to_road_x m.road W
  obtain ⟨wf, hwf⟩ : ∃ wf, wf = ((((((w.alloc (.cells #[.int .i64 m.road.own, .int .i64 m.road.far, .int .i64 m.road.port, .int .i64 m.theirs, .int .i64 m.mine, .int .i64 m.give, .int .i64 m.take, .int .i64 m.till] 55)).alloc (.cells #[.int .i64 m.road.own, .int .i64 m.road.far, .int .i64 m.road.port, .int .i64 m.theirs, .int .i64 m.mine, .int .i64 m.give, .int .i64 m.take, .int .i64 m.till] 28)).alloc (.cells #[.int .i64 m.road.own, .int .i64 m.road.far, .int .i64 m.road.port, .int .i64 m.theirs, .int .i64 m.mine, .int .i64 m.give, .int .i64 m.take, .int .i64 m.till] 28)).alloc (.cells #[.int .i64 m.road.own, .int .i64 m.road.far, .int .i64 m.road.port] 53)).alloc (.cells #[.int .i64 m.road.own, .int .i64 m.road.far, .int .i64 m.road.port] 26)).alloc (.cells #[.int .i64 m.road.own, .int .i64 m.road.far, .int .i64 m.road.port] 26)) := ⟨_, rfl⟩
  rw [← hwf]
  have HW := Lib.hid hwf
  clear hwf
  go_enter Try.func31, Try.ntmps31
  go_wp2_with (fail)
  with_reducible refine (c0 _).mono ?_
  rintro e w1 ⟨rfl, rfl⟩
  go_wp2_with (fail)
  exact bodyPost_ret (v := .agg #[.int .i64 m.road.own, .int .i64 m.road.far, .int .i64 m.road.port, .int .i64 m.theirs, .int .i64 m.mine, .int .i64 m.give, .int .i64 m.take, .int .i64 m.till]) (by simp [results, Try.results31, go_sem]) rfl ⟨rfl, HW.out.symm⟩
theorem to_half_below (m : Hv) (w : World) : Below w.heap.size w ((((((w.alloc (.cells #[.int .i64 m.road.own, .int .i64 m.road.far, .int .i64 m.road.port, .int .i64 m.theirs, .int .i64 m.mine, .int .i64 m.give, .int .i64 m.take, .int .i64 m.till] 55)).alloc (.cells #[.int .i64 m.road.own, .int .i64 m.road.far, .int .i64 m.road.port, .int .i64 m.theirs, .int .i64 m.mine, .int .i64 m.give, .int .i64 m.take, .int .i64 m.till] 28)).alloc (.cells #[.int .i64 m.road.own, .int .i64 m.road.far, .int .i64 m.road.port, .int .i64 m.theirs, .int .i64 m.mine, .int .i64 m.give, .int .i64 m.take, .int .i64 m.till] 28)).alloc (.cells #[.int .i64 m.road.own, .int .i64 m.road.far, .int .i64 m.road.port] 53)).alloc (.cells #[.int .i64 m.road.own, .int .i64 m.road.far, .int .i64 m.road.port] 26)).alloc (.cells #[.int .i64 m.road.own, .int .i64 m.road.far, .int .i64 m.road.port] 26)) := (((((((Below.refl _ _).alloc (Nat.le_refl _) _).alloc (by simp) _).alloc (by simp; omega) _).alloc (by simp; omega) _).alloc (by simp; omega) _).alloc (by simp; omega) _)
theorem to_half (m : Hv) (w : World) :
    Calls Try.prog 31 #[.agg #[.int .i64 m.road.own, .int .i64 m.road.far, .int .i64 m.road.port, .int .i64 m.theirs, .int .i64 m.mine, .int .i64 m.give, .int .i64 m.take, .int .i64 m.till]] w fun e w' => e = .returned (.agg #[.int .i64 m.road.own, .int .i64 m.road.far, .int .i64 m.road.port, .int .i64 m.theirs, .int .i64 m.mine, .int .i64 m.give, .int .i64 m.take, .int .i64 m.till]) ∧ Below w.heap.size w w' :=
  (to_half_x m w).mono fun _ _ h => ⟨h.1, by rw [h.2]; exact to_half_below m w⟩

set_option maxRecDepth 100000 in
set_option maxHeartbeats 2000000 in
theorem eq_half_x (m : Hv) (w : World) :
    Calls Try.prog 59 #[.agg #[.int .i64 m.road.own, .int .i64 m.road.far, .int .i64 m.road.port, .int .i64 m.theirs, .int .i64 m.mine, .int .i64 m.give, .int .i64 m.take, .int .i64 m.till], .agg #[.int .i64 m.road.own, .int .i64 m.road.far, .int .i64 m.road.port, .int .i64 m.theirs, .int .i64 m.mine, .int .i64 m.give, .int .i64 m.take, .int .i64 m.till]] w fun e w' => e = .returned (.bool true) ∧ w' = ((((w.alloc (.cells #[.int .i64 m.road.own, .int .i64 m.road.far, .int .i64 m.road.port, .int .i64 m.theirs, .int .i64 m.mine, .int .i64 m.give, .int .i64 m.take, .int .i64 m.till] 28)).alloc (.cells #[.int .i64 m.road.own, .int .i64 m.road.far, .int .i64 m.road.port, .int .i64 m.theirs, .int .i64 m.mine, .int .i64 m.give, .int .i64 m.take, .int .i64 m.till] 28)).alloc (.cells #[.int .i64 m.road.own, .int .i64 m.road.far, .int .i64 m.road.port] 26)).alloc (.cells #[.int .i64 m.road.own, .int .i64 m.road.far, .int .i64 m.road.port] 26)) := by
  have c0 := fun W => eq_road_x m.road W
  obtain ⟨wf, hwf⟩ : ∃ wf, wf = ((((w.alloc (.cells #[.int .i64 m.road.own, .int .i64 m.road.far, .int .i64 m.road.port, .int .i64 m.theirs, .int .i64 m.mine, .int .i64 m.give, .int .i64 m.take, .int .i64 m.till] 28)).alloc (.cells #[.int .i64 m.road.own, .int .i64 m.road.far, .int .i64 m.road.port, .int .i64 m.theirs, .int .i64 m.mine, .int .i64 m.give, .int .i64 m.take, .int .i64 m.till] 28)).alloc (.cells #[.int .i64 m.road.own, .int .i64 m.road.far, .int .i64 m.road.port] 26)).alloc (.cells #[.int .i64 m.road.own, .int .i64 m.road.far, .int .i64 m.road.port] 26)) := ⟨_, rfl⟩
  rw [← hwf]
  have HW := Lib.hid hwf
  clear hwf
  go_enter Try.func59, Try.ntmps59
  go_wp2_with (fail)
  with_reducible refine (c0 _).mono ?_
  rintro e w1 ⟨rfl, rfl⟩
  go_wp2_with (fail)
  go_ret
  exact ⟨rfl, HW.out.symm⟩
theorem eq_half (m : Hv) (w : World) :
    Calls Try.prog 59 #[.agg #[.int .i64 m.road.own, .int .i64 m.road.far, .int .i64 m.road.port, .int .i64 m.theirs, .int .i64 m.mine, .int .i64 m.give, .int .i64 m.take, .int .i64 m.till], .agg #[.int .i64 m.road.own, .int .i64 m.road.far, .int .i64 m.road.port, .int .i64 m.theirs, .int .i64 m.mine, .int .i64 m.give, .int .i64 m.take, .int .i64 m.till]] w fun e w' => e = .returned (.bool true) ∧ Below w.heap.size w w' :=
  (eq_half_x m w).mono fun _ _ h => ⟨h.1, by rw [h.2]; exact (((((Below.refl _ _).alloc (Nat.le_refl _) _).alloc (by simp) _).alloc (by simp; omega) _).alloc (by simp; omega) _)⟩

attribute [-go_sem] loadCells loadCellsFrom

theorem sz_halfS (v : Value) (ms : List Hv) (left : Int) (w : World) (hv : RdH w v ms) (hn : ms.length ≤ 9223372036854775807) (h0 : 0 ≤ left) (h1 : left ≤ 1048576) :
    Calls Try.prog 27 #[v, .int .i64 left] w fun e w' => e = .returned (.int .i64 (if left - (ms.length : Int) < 0 then -1 else left - (ms.length : Int))) ∧ w = w' := by
  obtain ⟨a, c, rfl⟩ := hv.form
  clear hv
  by_cases hl : left - (ms.length : Int) < 0
  · rw [if_pos hl]
    go_enter Try.func27, Try.ntmps27
    go_wp2_with (fail)
    go_ret
    exact ⟨rfl, rfl⟩
  · rw [if_neg hl]
    go_enter Try.func27, Try.ntmps27
    go_wp2_with (fail)
    go_ret
    exact ⟨rfl, rfl⟩

set_option maxRecDepth 100000 in
set_option maxHeartbeats 2000000 in
theorem to_halfS (v : Value) (ms : List Hv) (w : World) (hv : RdH w v ms) (hn : ms.length ≤ 1048576) :
    Calls Try.prog 28 #[v] w fun e w' => e = .returned (.slice (some ⟨w.heap.size, 0, none⟩) ms.length ms.length) ∧ OwnH w' w.heap.size (w.heap.size + 1) (.slice (some ⟨w.heap.size, 0, none⟩) ms.length ms.length) ms ∧ Below w.heap.size w w' := by
  have hmk := emake hvK 24 uHv ms.length hn w
  have hB0 := below_new w (.cells (hvK.flat (List.replicate ms.length hvK.zero)).toArray hvK.t)
  have hO0 : OwnH (w.alloc (.cells (hvK.flat (List.replicate ms.length hvK.zero)).toArray hvK.t)) w.heap.size (w.heap.size + 1) (.slice (some ⟨w.heap.size, 0, none⟩) ms.length ms.length) (List.replicate ms.length hvK.zero) := by
    have := OwnE.of_cel (xs := List.replicate ms.length hvK.zero) (Cel.new w hvK.t _) (Nat.le_refl _) (Nat.lt_succ_self _) (by rw [List.length_replicate]; unfold maxLen; omega)
    rwa [List.length_replicate] at this
  obtain ⟨va, vc, rfl⟩ := hv.form
  generalize w.alloc (.cells (hvK.flat (List.replicate ms.length hvK.zero)).toArray hvK.t) = W1 at *
  go_enter Try.func28, Try.ntmps28
  go_wp2_with (fail)
  go_loopw [4] (fun i wr => ∃ k : Nat, k ≤ ms.length ∧ i = .int .i64 k ∧ OwnH wr w.heap.size (w.heap.size + 1) (.slice (some ⟨w.heap.size, 0, none⟩) ms.length ms.length) (ms.take k ++ List.replicate (ms.length - k) hvK.zero) ∧ Below w.heap.size w wr) (fun i _ => ms.length - (intOf i).toNat)
  case atStart => exact ⟨0, by omega, rfl, by simpa using hO0, hB0⟩
  case round =>
    clear hO0 hB0 hmk
    obtain ⟨k, hk, rfl, hO, hB⟩ := hrel
    by_cases hlt : k < ms.length
    · have q : (k : Int) < (ms.length : Int) := by omega
      have q2 : (0 : Int) ≤ (k : Int) := by omega
      obtain ⟨b, off, ha, -, -, -, -, -, -, -, -, -, ld⟩ := hv_at (P := Try.prog) (hv.below hB) k hlt
      subst ha
      have ct := to_half ms[k] wr
      have hl : k < (ms.take k ++ List.replicate (ms.length - k) hvK.zero).length := by simp; omega
      have hset : (ms.take k ++ List.replicate (ms.length - k) hvK.zero).set k ms[k] = ms.take (k + 1) ++ List.replicate (ms.length - (k + 1)) hvK.zero := by
        have e : ms.length - k = (ms.length - (k + 1)) + 1 := by omega
        rw [e, List.replicate_succ, List.set_append_right _ _ (by rw [List.length_take]; omega), List.length_take, Nat.min_eq_left (by omega), Nat.sub_self, List.set_cons_zero, List.take_succ_eq_append_getElem hlt, List.append_assoc]
        rfl
      generalize ms[k] = m at *
      generalize ms.take k ++ List.replicate (ms.length - k) hvK.zero = cur at *
      have HS := Lib.hid hset
      clear hset
      go_wp2_with (fail)
      with_reducible refine ct.mono ?_
      rintro e w2 ⟨rfl, hb2⟩
      have hlw : w.heap.size < wr.heap.size := (hv_own hO k hl).2.2.2.2.2.2.2.2.2.1
      have hO2 := hO.keep hb2 (by omega)
      have hB2 := Below.then_ hB hb2
      have hth : w2.there w.heap.size (k * 8) (#[Value.int .i64 m.road.own, .int .i64 m.road.far, .int .i64 m.road.port, .int .i64 m.theirs, .int .i64 m.mine, .int .i64 m.give, .int .i64 m.take, .int .i64 m.till]).size := (hv_own hO2 k hl).2.2.2.2.2.2.2.2.2.2
      have one : (#[Value.int .i64 m.road.own, .int .i64 m.road.far, .int .i64 m.road.port, .int .i64 m.theirs, .int .i64 m.mine, .int .i64 m.give, .int .i64 m.take, .int .i64 m.till]).all (·.oneCell') = true := by simp [Value.oneCell']
      have hO3 := hv_putC hO2 k hl m
      have hB3 := hB2.trans (esetC_below w.heap.size w.heap.size (Nat.le_refl _) (k * 8) [.int .i64 m.road.own, .int .i64 m.road.far, .int .i64 m.road.port, .int .i64 m.theirs, .int .i64 m.mine, .int .i64 m.give, .int .i64 m.take, .int .i64 m.till] w2)
      have HO := Lib.hid hO3
      clear ld ct hO hO2 hO3 hB hB2 hl
      go_upto_region 4 with (with_reducible refine wpList_store_mid rfl 28 _ _ rfl w.heap.size (k * 8) _ rfl rfl hth (sizeHv _) one ?_)
      clear hth one
      generalize w2.setCells w.heap.size (k * 8) [.int .i64 m.road.own, .int .i64 m.road.far, .int .i64 m.road.port, .int .i64 m.theirs, .int .i64 m.mine, .int .i64 m.give, .int .i64 m.take, .int .i64 m.till] = W5 at *
      go_wp2_with (fail)
      go_roundw
      case rel => exact ⟨k + 1, by omega, by go_num, by rw [← HS.out]; exact HO.out, hB3⟩
      case measure => simp [intOf]; omega
    · obtain rfl : k = ms.length := by omega
      have q : ¬ (ms.length : Int) < (ms.length : Int) := by omega
      go_wp2_with (fail)
      go_ret
      exact ⟨rfl, by simpa using hO, hB⟩

set_option maxRecDepth 100000 in
set_option maxHeartbeats 1000000 in
theorem eq_halfS (v u : Value) (ms : List Hv) (w : World) (hv : RdH w v ms) (hu : RdH w u ms) (hn : ms.length ≤ 9223372036854775807) :
    Calls Try.prog 29 #[v, u] w fun e w' => e = .returned (.bool true) ∧ Below w.heap.size w w' := by
  have hv0 := hv
  have hu0 := hu
  obtain ⟨a, c, rfl⟩ := hv.form
  obtain ⟨a', c', rfl⟩ := hu.form
  clear hv hu
  go_enter Try.func29, Try.ntmps29
  go_wp2_with (fail)
  go_loopw [5] (fun i wr => ∃ k : Nat, k ≤ ms.length ∧ i = .int .i64 k ∧ RdH wr (.slice a ms.length c) ms ∧ RdH wr (.slice a' ms.length c') ms ∧ Below w.heap.size w wr) (fun i _ => ms.length - (intOf i).toNat)
  case atStart => exact ⟨0, by omega, rfl, hv0, hu0, Below.refl _ _⟩
  case round =>
    clear hv0 hu0
    obtain ⟨k, hk, rfl, hR, hU, hB⟩ := hrel
    by_cases hlt : k < ms.length
    · have q : (k : Int) < (ms.length : Int) := by omega
      have q2 : (0 : Int) ≤ (k : Int) := by omega
      obtain ⟨b, off, ha, -, -, -, -, -, -, -, -, -, ld⟩ := hv_at (P := Try.prog) hR.drew k hlt
      subst ha
      obtain ⟨b', off', ha, -, -, -, -, -, -, -, -, -, ld'⟩ := hv_at (P := Try.prog) hU.drew k hlt
      subst ha
      have ce0 := eq_half ms[k] wr.drew
      generalize ms[k] = m at *
      go_wp2_with (fail)
      refine wp_region_still_tail 8 (by kernel_rfl) (by kernel_rfl) ?_
      change wpStill _ _ wr.drew (fun a' => wpList _ _ _ _ a' wr.drew) _ _
      have hR2 : RdH wr.drew _ ms := hR
      have hU2 : RdH wr.drew _ ms := hU
      have hB := hB.drew
      clear hR hU
      generalize wr.drew = W4 at *
      simp only [List.take_succ_cons, List.take_zero, List.drop_succ_cons, List.drop_zero]
      iterate 8 still_step
      refine wpStill_nil ?_
      go_wp2_with (fail)
      with_reducible refine ce0.mono ?_
      rintro e w2 ⟨rfl, hb2⟩
      have hR3 := hR2.below hb2
      have hU3 := hU2.below hb2
      have hB3 := Below.then_ hB hb2
      clear ld ld' ce0 hR2 hU2 hB hb2
      go_wp2_with (fail)
      go_roundw
      case rel => exact ⟨k + 1, by omega, by go_num, hR3, hU3, hB3⟩
      case measure => simp [intOf]; omega
    · obtain rfl : k = ms.length := by omega
      have q : ¬ (ms.length : Int) < (ms.length : Int) := by omega
      clear hR hU
      go_wp2_with (fail)
      go_ret
      exact ⟨rfl, hB⟩


end Go.Proofs.Ytoeflkmhofkiaaa
