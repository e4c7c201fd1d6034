import Derived.Test.YtmfbhejclmelaaaAto
import Derived.Laws.StructEq
namespace Go.Proofs.Ytmfbhejclmelaaa
open Go.RowKit

set_option maxRecDepth 100000 in
theorem eql_av (o p : Av) (W : World) (b : Bool) (hb : b = true ↔ o = p) :
    (binOp .eql 26 (.agg #[.int .i64 o.id, .int .i64 o.addr, .bool o.spare, .bool o.told]) (.agg #[.int .i64 p.id, .int .i64 p.addr, .bool p.spare, .bool p.told])).run Try.prog W = .ok (.bool b) W := by
  have u3 := Try.underlying3
  have a3 := Try.isAgg3
  have z3 := Try.sizeOf3
  have u4 := Try.underlying4
  have a4 := Try.isAgg4
  have z4 := Try.sizeOf4
  have hS : Try.prog.underlying 26 = some (.struct (Try.prog.fieldsOf 26)) := by kernel_rfl
  have hp : Try.prog.stoodInHeld 26 = false := by kernel_rfl
  rw [run_eql_struct, show (10000 : Nat) = 9999 + 1 from rfl, run_equalIn_agg W 9999 26 _ _ hS hp]
  simp only [Program.fieldsOf, Try.underlying26]
  obtain ⟨t1, b1, s1, r1⟩ := o
  obtain ⟨t2, b2, s2, r2⟩ := p
  simp only [Av.mk.injEq] at hb
  go_simp
  by_cases h1 : t1 = t2 <;> by_cases h2 : b1 = b2 <;> by_cases h3 : s1 = s2 <;> by_cases h4 : r1 = r2 <;> simp_all
set_option maxRecDepth 100000 in
theorem neq_av (o p : Av) (W : World) (b : Bool) (hb : b = true ↔ ¬ o = p) :
    (binOp .neq 26 (.agg #[.int .i64 o.id, .int .i64 o.addr, .bool o.spare, .bool o.told]) (.agg #[.int .i64 p.id, .int .i64 p.addr, .bool p.spare, .bool p.told])).run Try.prog W = .ok (.bool b) W := by
  have u3 := Try.underlying3
  have a3 := Try.isAgg3
  have z3 := Try.sizeOf3
  have u4 := Try.underlying4
  have a4 := Try.isAgg4
  have z4 := Try.sizeOf4
  have hS : Try.prog.underlying 26 = some (.struct (Try.prog.fieldsOf 26)) := by kernel_rfl
  have hp : Try.prog.stoodInHeld 26 = false := by kernel_rfl
  rw [run_neq_struct, show (10000 : Nat) = 9999 + 1 from rfl, run_equalIn_agg W 9999 26 _ _ hS hp]
  simp only [Program.fieldsOf, Try.underlying26]
  obtain ⟨t1, b1, s1, r1⟩ := o
  obtain ⟨t2, b2, s2, r2⟩ := p
  simp only [Av.mk.injEq] at hb
  go_simp
  by_cases h1 : t1 = t2 <;> by_cases h2 : b1 = b2 <;> by_cases h3 : s1 = s2 <;> by_cases h4 : r1 = r2 <;> simp_all
set_option maxRecDepth 100000 in
theorem eql_kv (o p : Kk) (W : World) (b : Bool) (hb : b = true ↔ o = p) :
    (binOp .eql 71 (.agg #[.int .i64 o.1, .int .i64 (o.2 : Int)]) (.agg #[.int .i64 p.1, .int .i64 (p.2 : Int)])).run Try.prog W = .ok (.bool b) W := by
  have u3 := Try.underlying3
  have a3 := Try.isAgg3
  have z3 := Try.sizeOf3
  have hS : Try.prog.underlying 71 = some (.struct (Try.prog.fieldsOf 71)) := by kernel_rfl
  have hp : Try.prog.stoodInHeld 71 = false := by kernel_rfl
  rw [run_eql_struct, show (10000 : Nat) = 9999 + 1 from rfl, run_equalIn_agg W 9999 71 _ _ hS hp]
  simp only [Program.fieldsOf, Try.underlying71]
  obtain ⟨t1, b1⟩ := o
  obtain ⟨t2, b2⟩ := p
  simp only [Prod.mk.injEq] at hb
  go_simp
  by_cases h1 : t1 = t2 <;> by_cases h2 : b1 = b2 <;> simp_all <;> omega

theorem impl_within (a b c : Int) (w : World) :
    Calls Try.prog 43 #[.int .i64 a, .int .i64 b, .int .i64 c] w fun e w' => e = .returned (.bool (decide (b ≤ a ∧ a ≤ c))) ∧ w = w' := by
  by_cases h1 : b ≤ a
  · by_cases h2 : a ≤ c
    · rw [decide_eq_true ⟨h1, h2⟩]
      go_enter Try.func43, Try.ntmps43
      go_wp2_with (fail)
      go_ret
      exact ⟨rfl, rfl⟩
    · rw [decide_eq_false (fun h => h2 h.2)]
      go_enter Try.func43, Try.ntmps43
      go_wp2_with (fail)
      go_ret
      exact ⟨rfl, rfl⟩
  · rw [decide_eq_false (fun h => h1 h.1)]
    go_enter Try.func43, Try.ntmps43
    go_wp2_with (fail)
    go_ret
    exact ⟨rfl, rfl⟩
theorem spec_in (a b c : Int) (w : World) :
    Calls Try.prog 41 #[.int .i64 a, .int .i64 b, .int .i64 c] w fun e w' => e = .returned (.bool (decide (b ≤ a ∧ a ≤ c))) ∧ w = w' := by
  by_cases h1 : b ≤ a
  · by_cases h2 : a ≤ c
    · rw [decide_eq_true ⟨h1, h2⟩]
      go_enter Try.func41, Try.ntmps41
      go_wp2_with (fail)
      go_ret
      exact ⟨rfl, rfl⟩
    · rw [decide_eq_false (fun h => h2 h.2)]
      go_enter Try.func41, Try.ntmps41
      go_wp2_with (fail)
      go_ret
      exact ⟨rfl, rfl⟩
  · rw [decide_eq_false (fun h => h1 h.1)]
    go_enter Try.func41, Try.ntmps41
    go_wp2_with (fail)
    go_ret
    exact ⟨rfl, rfl⟩

/-- The first place at which p holds. -/
def idxP (p : Av → Bool) (xs : List Av) : Int := if xs.findIdx p < xs.length then (xs.findIdx p : Int) else -1

set_option maxRecDepth 100000 in
theorem clo_id (m : Av) (s : Int) (B : Nat) (w : World) (hc : w.cell? ⟨B, 0, none⟩ = some (.int .i64 s)) :
    Calls Try.prog 40 #[.agg #[.int .i64 m.id, .int .i64 m.addr, .bool m.spare, .bool m.told], .pointer (some ⟨B, 0, none⟩)] w fun e w' => e = .returned (.bool (decide (m.id = s))) ∧ Below w.heap.size w w' := by
  have hb0 := below_av w m
  have hcc := keepc' hc hb0
  have HB := Lib.hid hb0
  have hd : (m.id == s) = decide (m.id = s) := by
    by_cases h : m.id = s
    · rw [decide_eq_true h]; simp [h]
    · rw [decide_eq_false h]; simp [h]
  generalize decide (m.id = s) = r at *
  clear hc hb0
  go_enter Try.func40, Try.ntmps40
  go_wp2_with (fail)
  go_ret
  exact ⟨by first | rfl | rw [hd] | simp [hd], HB.out⟩

set_option maxRecDepth 100000 in
set_option maxHeartbeats 2000000 in
theorem index_id (v : Value) (ms : List Av) (s : Int) (B : Nat) (w : World) (hv : RdV w v ms) (hc : w.cell? ⟨B, 0, none⟩ = some (.int .i64 s)) (hn : ms.length ≤ 1048577) :
    Calls Try.prog 39 #[v, .func (.func 40) #[] #[.pointer (some ⟨B, 0, none⟩)]] w fun e w' => e = .returned (.int .i64 (idxP (fun m => decide (m.id = s)) ms)) ∧ Below w.heap.size w w' := by
  obtain ⟨a, c, rfl⟩ := hv.form
  have hBw := World.block_lt_of_cell? _ _ hc
  unfold idxP
  generalize hres : (if ms.findIdx (fun m => decide (m.id = s)) < ms.length then (ms.findIdx (fun m => decide (m.id = s)) : Int) else -1) = res
  generalize hg : ms.findIdx (fun m => decide (m.id = s)) = g at hres
  have HG := Lib.hid hg
  have HRES := Lib.hid hres
  clear hg hres
  go_enter Try.func39, Try.ntmps39
  go_wp2_with (fail)
  go_loopw [8] (fun i wr => ∃ k : Nat, k ≤ ms.length ∧ i = .int .i64 k ∧ (ms.drop k).findIdx (fun m => decide (m.id = s)) + k = g ∧ Below w.heap.size w wr) (fun i _ => ms.length - (intOf i).toNat)
  case atStart => exact ⟨0, by omega, rfl, by rw [List.drop_zero]; exact HG.out, Below.refl _ _⟩
  case round =>
    clear HG
    obtain ⟨k, hk, rfl, hr, hB⟩ := hrel
    have hR := hv.below hB
    have hcc : wr.cell? ⟨B, 0, none⟩ = some (.int .i64 s) := by rw [hB.cell (p := ⟨B, 0, none⟩) hBw]; exact hc
    by_cases hlt : k < ms.length
    · have q : (k : Int) < (ms.length : Int) := by omega
      have q2 : (0 : Int) ≤ (k : Int) := by omega
      obtain ⟨b, off, ha, hb, k0, k1, k2, k3, -⟩ := av_at (P := Try.prog) hR k hlt
      subst ha
      rw [List.drop_eq_getElem_cons hlt, List.findIdx_cons] at hr
      have cc := clo_id ms[k] s B wr hcc
      generalize ms[k] = m at *
      have HB := Lib.hid hB
      clear hR hB hcc
      cases hp : decide (m.id = s) with
      | true =>
        rw [hp] at hr cc
        have hr2 : k = g := by simpa using hr
        subst hr2
        clear hr hp
        obtain rfl : (k : Int) = res := by have := HRES.out; rwa [if_pos hlt] at this
        go_wp2_with (fail)
        with_reducible refine cc.mono ?_
        rintro e w1 ⟨rfl, hb1⟩
        go_wp2_with (fail)
        go_ret
        exact ⟨rfl, Below.then_ HB.out hb1⟩
      | false =>
        rw [hp] at hr cc
        have HR := Lib.hid hr
        clear hr hp
        go_wp2_with (fail)
        with_reducible refine cc.mono ?_
        rintro e w1 ⟨rfl, hb1⟩
        clear cc k0 k1 k2 k3
        go_wp2_with (fail)
        go_roundw
        case rel => exact ⟨k + 1, by omega, by go_num, by have := HR.out; simp only [cond_false] at this; omega, Below.then_ HB.out hb1⟩
        case measure => simp [intOf]; omega
    · obtain rfl : k = ms.length := by omega
      have q : ¬ (ms.length : Int) < (ms.length : Int) := by omega
      rw [List.drop_length] at hr
      have hr2 : ms.length = g := by simpa using hr
      obtain rfl : (-1 : Int) = res := by have := HRES.out; rwa [if_neg (by omega)] at this
      clear hR hr hcc
      go_wp2_with (fail)
      go_ret
      exact ⟨rfl, hB⟩

set_option maxRecDepth 100000 in
theorem clo_ad (m : Av) (s : Int) (B : Nat) (w : World) (hc : w.cell? ⟨B, 0, none⟩ = some (.int .i64 s)) :
    Calls Try.prog 52 #[.agg #[.int .i64 m.id, .int .i64 m.addr, .bool m.spare, .bool m.told], .pointer (some ⟨B, 0, none⟩)] w fun e w' => e = .returned (.bool (decide (m.addr = s))) ∧ Below w.heap.size w w' := by
  have hb0 := below_av w m
  have hcc := keepc' hc hb0
  have HB := Lib.hid hb0
  have hd : (m.addr == s) = decide (m.addr = s) := by
    by_cases h : m.addr = s
    · rw [decide_eq_true h]; simp [h]
    · rw [decide_eq_false h]; simp [h]
  generalize decide (m.addr = s) = r at *
  clear hc hb0
  go_enter Try.func52, Try.ntmps52
  go_wp2_with (fail)
  go_ret
  exact ⟨by first | rfl | rw [hd] | simp [hd], HB.out⟩

set_option maxRecDepth 100000 in
set_option maxHeartbeats 2000000 in
theorem index_ad (v : Value) (ms : List Av) (s : Int) (B : Nat) (w : World) (hv : RdV w v ms) (hc : w.cell? ⟨B, 0, none⟩ = some (.int .i64 s)) (hn : ms.length ≤ 1048577) :
    Calls Try.prog 39 #[v, .func (.func 52) #[] #[.pointer (some ⟨B, 0, none⟩)]] w fun e w' => e = .returned (.int .i64 (idxP (fun m => decide (m.addr = s)) ms)) ∧ Below w.heap.size w w' := by
  obtain ⟨a, c, rfl⟩ := hv.form
  have hBw := World.block_lt_of_cell? _ _ hc
  unfold idxP
  generalize hres : (if ms.findIdx (fun m => decide (m.addr = s)) < ms.length then (ms.findIdx (fun m => decide (m.addr = s)) : Int) else -1) = res
  generalize hg : ms.findIdx (fun m => decide (m.addr = s)) = g at hres
  have HG := Lib.hid hg
  have HRES := Lib.hid hres
  clear hg hres
  go_enter Try.func39, Try.ntmps39
  go_wp2_with (fail)
  go_loopw [8] (fun i wr => ∃ k : Nat, k ≤ ms.length ∧ i = .int .i64 k ∧ (ms.drop k).findIdx (fun m => decide (m.addr = s)) + k = g ∧ Below w.heap.size w wr) (fun i _ => ms.length - (intOf i).toNat)
  case atStart => exact ⟨0, by omega, rfl, by rw [List.drop_zero]; exact HG.out, Below.refl _ _⟩
  case round =>
    clear HG
    obtain ⟨k, hk, rfl, hr, hB⟩ := hrel
    have hR := hv.below hB
    have hcc : wr.cell? ⟨B, 0, none⟩ = some (.int .i64 s) := by rw [hB.cell (p := ⟨B, 0, none⟩) hBw]; exact hc
    by_cases hlt : k < ms.length
    · have q : (k : Int) < (ms.length : Int) := by omega
      have q2 : (0 : Int) ≤ (k : Int) := by omega
      obtain ⟨b, off, ha, hb, k0, k1, k2, k3, -⟩ := av_at (P := Try.prog) hR k hlt
      subst ha
      rw [List.drop_eq_getElem_cons hlt, List.findIdx_cons] at hr
      have cc := clo_ad ms[k] s B wr hcc
      generalize ms[k] = m at *
      have HB := Lib.hid hB
      clear hR hB hcc
      cases hp : decide (m.addr = s) with
      | true =>
        rw [hp] at hr cc
        have hr2 : k = g := by simpa using hr
        subst hr2
        clear hr hp
        obtain rfl : (k : Int) = res := by have := HRES.out; rwa [if_pos hlt] at this
        go_wp2_with (fail)
        with_reducible refine cc.mono ?_
        rintro e w1 ⟨rfl, hb1⟩
        go_wp2_with (fail)
        go_ret
        exact ⟨rfl, Below.then_ HB.out hb1⟩
      | false =>
        rw [hp] at hr cc
        have HR := Lib.hid hr
        clear hr hp
        go_wp2_with (fail)
        with_reducible refine cc.mono ?_
        rintro e w1 ⟨rfl, hb1⟩
        clear cc k0 k1 k2 k3
        go_wp2_with (fail)
        go_roundw
        case rel => exact ⟨k + 1, by omega, by go_num, by have := HR.out; simp only [cond_false] at this; omega, Below.then_ HB.out hb1⟩
        case measure => simp [intOf]; omega
    · obtain rfl : k = ms.length := by omega
      have q : ¬ (ms.length : Int) < (ms.length : Int) := by omega
      rw [List.drop_length] at hr
      have hr2 : ms.length = g := by simpa using hr
      obtain rfl : (-1 : Int) = res := by have := HRES.out; rwa [if_neg (by omega)] at this
      clear hR hr hcc
      go_wp2_with (fail)
      go_ret
      exact ⟨rfl, hB⟩

theorem idx_at (xs : List Av) (id : Int) : idxP (fun m => decide (m.id = id)) xs = atInt xs id := by
  unfold idxP atInt
  induction xs with
  | nil => rfl
  | cons x r ih =>
    unfold atA
    rw [List.findIdx_cons]
    by_cases h : x.id = id
    · rw [decide_eq_true h, if_pos h]
      simp
    · rw [decide_eq_false h, if_neg h]
      simp only [cond_false, List.length_cons]
      cases hr : atA id r with
      | none =>
        rw [hr] at ih
        simp only [Option.map_none]
        by_cases hf : r.findIdx (fun m => decide (m.id = id)) < r.length
        · rw [if_pos hf] at ih; simp only at ih; omega
        · rw [if_neg (by omega)]
      | some i =>
        rw [hr] at ih
        simp only [Option.map_some]
        by_cases hf : r.findIdx (fun m => decide (m.id = id)) < r.length
        · rw [if_pos hf] at ih; rw [if_pos (by omega)]; simp only at ih; omega
        · rw [if_neg hf] at ih; simp only at ih; omega
theorem idx_has (xs : List Av) (a : Int) : decide (0 ≤ idxP (fun m => decide (m.addr = a)) xs) = decide (a ∈ xs.map (·.addr)) := by
  unfold idxP
  by_cases h : xs.findIdx (fun m => decide (m.addr = a)) < xs.length
  · rw [if_pos h, decide_eq_true (by omega)]
    symm
    refine decide_eq_true ?_
    rw [List.findIdx_lt_length] at h
    obtain ⟨x, hx, he⟩ := h
    exact List.mem_map.2 ⟨x, hx, by simpa using he⟩
  · rw [if_neg h, decide_eq_false (by omega)]
    symm
    refine decide_eq_false (fun hm => h ?_)
    obtain ⟨x, hx, he⟩ := List.mem_map.1 hm
    rw [List.findIdx_lt_length]
    exact ⟨x, hx, by simpa using he⟩

theorem below_int (w : World) (n : Int) : Below w.heap.size w (w.alloc (.cells #[.int .i64 n] 3)) ∧ (w.alloc (.cells #[.int .i64 n] 3)).cell? ⟨w.heap.size, 0, none⟩ = some (.int .i64 n) := ⟨below_new _ _, (Cel.new w 3 #[.int .i64 n]).cell 0⟩

set_option maxRecDepth 100000 in
theorem impl_addrAt (v : Value) (ms : List Av) (s : Int) (w : World) (hv : RdV w v ms) (hn : ms.length ≤ 1048577) :
    Calls Try.prog 13 #[v, .int .i64 s] w fun e w' => e = .returned (.int .i64 (atInt ms s)) ∧ Below w.heap.size w w' := by
  obtain ⟨hb, hc⟩ := below_int w s
  have c1 := index_id v ms s w.heap.size _ (hv.below hb) hc hn
  rw [idx_at] at c1
  obtain ⟨a, c, rfl⟩ := hv.form
  generalize atInt ms s = r at *
  have HB := Lib.hid hb
  clear hv hb hc
  go_enter Try.func13, Try.ntmps13
  go_wp2_with (fail)
  with_reducible refine c1.mono ?_
  rintro e w1 ⟨rfl, hb1⟩
  have HB1 := Lib.hid (Below.then_ HB.out hb1)
  clear c1 hb1
  go_wp2_with (fail)
  go_ret
  exact ⟨rfl, HB1.out⟩

set_option maxRecDepth 100000 in
theorem impl_containsAddr (v : Value) (ms : List Av) (s : Int) (B : Nat) (w : World) (hv : RdV w v ms) (hc : w.cell? ⟨B, 0, none⟩ = some (.int .i64 s)) (hn : ms.length ≤ 1048577) :
    Calls Try.prog 51 #[v, .func (.func 52) #[] #[.pointer (some ⟨B, 0, none⟩)]] w fun e w' => e = .returned (.bool (decide (s ∈ ms.map (·.addr)))) ∧ Below w.heap.size w w' := by
  have c1 := index_ad v ms s B w hv hc hn
  rw [← idx_has]
  obtain ⟨a, c, rfl⟩ := hv.form
  generalize idxP (fun m => decide (m.addr = s)) ms = r at *
  clear hv hc
  go_enter Try.func51, Try.ntmps51
  go_wp2_with (fail)
  with_reducible refine c1.mono ?_
  rintro e w1 ⟨rfl, hb1⟩
  have HB1 := Lib.hid hb1
  clear c1 hb1
  go_wp2_with (fail)
  go_ret
  exact ⟨rfl, HB1.out⟩

set_option maxRecDepth 100000 in
theorem impl_hasAddr (v : Value) (ms : List Av) (s : Int) (w : World) (hv : RdV w v ms) (hn : ms.length ≤ 1048577) :
    Calls Try.prog 44 #[v, .int .i64 s] w fun e w' => e = .returned (.bool (decide (s ∈ ms.map (·.addr)))) ∧ Below w.heap.size w w' := by
  obtain ⟨hb, hc⟩ := below_int w s
  have c1 := impl_containsAddr v ms s w.heap.size _ (hv.below hb) hc hn
  obtain ⟨a, c, rfl⟩ := hv.form
  generalize decide (s ∈ ms.map (·.addr)) = r at *
  have HB := Lib.hid hb
  clear hv hb hc
  go_enter Try.func44, Try.ntmps44
  go_wp2_with (fail)
  with_reducible refine c1.mono ?_
  rintro e w1 ⟨rfl, hb1⟩
  have HB1 := Lib.hid (Below.then_ HB.out hb1)
  clear c1 hb1
  go_wp2_with (fail)
  go_ret
  exact ⟨rfl, HB1.out⟩
end Go.Proofs.Ytmfbhejclmelaaa
