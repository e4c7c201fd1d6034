import Derived.Test.YtmokepopmfcdnaaRto
import Derived.Laws.StructEq
import Derived.BigQuiet
import Derived.Deep.QuietTactic
namespace Go.Proofs.Ytmokepopmfcdnaa
open Go.RowKit

set_option maxRecDepth 100000 in
theorem eql_rv (o p : Rv) (W : World) (b : Bool) (hb : b = true ↔ o = p) :
    (binOp .eql 34 (.agg #[.int .i64 o.own, .int .i64 o.far, .int .i64 o.port]) (.agg #[.int .i64 p.own, .int .i64 p.far, .int .i64 p.port])).run Try.prog W = .ok (.bool b) W := by
  have u3 := Try.underlying3
  have a3 := Try.isAgg3
  have z3 := Try.sizeOf3
  have hS : Try.prog.underlying 34 = some (.struct (Try.prog.fieldsOf 34)) := by kernel_rfl
  have hp : Try.prog.stoodInHeld 34 = false := by kernel_rfl
  rw [run_eql_struct, show (10000 : Nat) = 9999 + 1 from rfl, run_equalIn_agg W 9999 34 _ _ hS hp]
  simp only [Program.fieldsOf, Try.underlying34]
  obtain ⟨t1, b1, s1⟩ := o
  obtain ⟨t2, b2, s2⟩ := p
  simp only [Rv.mk.injEq] at hb
  go_simp
  by_cases h1 : t1 = t2 <;> by_cases h2 : b1 = b2 <;> by_cases h3 : s1 = s2 <;> simp_all
set_option maxRecDepth 100000 in
theorem neq_rv (o p : Rv) (W : World) (b : Bool) (hb : b = true ↔ ¬ o = p) :
    (binOp .neq 34 (.agg #[.int .i64 o.own, .int .i64 o.far, .int .i64 o.port]) (.agg #[.int .i64 p.own, .int .i64 p.far, .int .i64 p.port])).run Try.prog W = .ok (.bool b) W := by
  have u3 := Try.underlying3
  have a3 := Try.isAgg3
  have z3 := Try.sizeOf3
  have hS : Try.prog.underlying 34 = some (.struct (Try.prog.fieldsOf 34)) := by kernel_rfl
  have hp : Try.prog.stoodInHeld 34 = false := by kernel_rfl
  rw [run_neq_struct, show (10000 : Nat) = 9999 + 1 from rfl, run_equalIn_agg W 9999 34 _ _ hS hp]
  simp only [Program.fieldsOf, Try.underlying34]
  obtain ⟨t1, b1, s1⟩ := o
  obtain ⟨t2, b2, s2⟩ := p
  simp only [Rv.mk.injEq] at hb
  go_simp
  by_cases h1 : t1 = t2 <;> by_cases h2 : b1 = b2 <;> by_cases h3 : s1 = s2 <;> simp_all

theorem dN_rbelow (W : World) (n : Nat) : Below W.heap.size W (W.drewN n) := ⟨rfl, rfl, rfl, Nat.le_refl _, fun _ _ => rfl⟩

set_option maxRecDepth 100000 in
set_option maxHeartbeats 2000000 in
theorem index_road (v : Value) (ks : List Rv) (x : Rv) (w : World) (hv : RdE rvK w v ks) (hn : ks.length ≤ 1048577) :
    Calls Try.prog 49 #[v, .agg #[.int .i64 x.own, .int .i64 x.far, .int .i64 x.port]] w fun e w' => ∃ r : Int, e = .returned (.int .i64 r) ∧ (0 ≤ r ↔ x ∈ ks) ∧ Below w.heap.size w w' := by
  have hbx := below_rv w x
  have hC0 := Cel.new w 34 #[.int .i64 x.own, .int .i64 x.far, .int .i64 x.port]
  have hv0 := hv.below hbx
  obtain ⟨a, c, rfl⟩ := hv.form
  clear hv
  go_enter Try.func49, Try.ntmps49
  go_wp2_with (fail)
  go_loopw [8] (fun i wr => ∃ k : Nat, k ≤ ks.length ∧ i = .int .i64 k ∧ (∀ j (_ : j < k) (h : j < ks.length), ks[j] ≠ x) ∧ RdE rvK wr (.slice a ks.length c) ks ∧ Cel wr w.heap.size 34 #[.int .i64 x.own, .int .i64 x.far, .int .i64 x.port] ∧ Below w.heap.size w wr) (fun i _ => ks.length - (intOf i).toNat)
  case atStart => exact ⟨0, by omega, rfl, fun j hj => by omega, hv0, hC0, hbx⟩
  case round =>
    clear hv0 hC0 hbx
    obtain ⟨k, hk, rfl, hne, hR, hC, hB⟩ := hrel
    by_cases hlt : k < ks.length
    · have q : (0 : Int) ≤ (k : Int) ∧ (k : Int) < (ks.length : Int) := by omega
      obtain ⟨b, off, ha, -, k0, k1, k2, -⟩ := rv_at (P := Try.prog) hR k hlt
      subst ha
      obtain ⟨c0, c1, c2⟩ := cel3r hC
      obtain ⟨y, hy⟩ : ∃ y, ks[k] = y := ⟨_, rfl⟩
      rw [hy] at k0 k1 k2
      have HX := Lib.hid (And.intro hy (And.intro hne (And.intro hR (And.intro hC hB))))
      clear hy hne hR hC hB
      by_cases hxy : x = y
      · have he := fun W => eql_rv x y W true (by simp [hxy])
        have hm : x ∈ ks := by rw [hxy, ← HX.out.1]; exact List.getElem_mem _
        have HM := Lib.hid hm
        clear hxy hm
        go_wp2_with (fail)
        go_quiet (fail)
        go_wp2_with (fail)
        go_ret
        exact ⟨_, rfl, by first | exact ⟨fun _ => HM.out, fun _ => by omega⟩ | (rw [decide_eq_true HM.out, decide_eq_true (by omega)]), Below.then_ HX.out.2.2.2.2 (dN_rbelow _ _)⟩
      · have he := fun W => eql_rv x y W false (by simp [hxy])
        have HM := Lib.hid hxy
        clear hxy
        go_wp2_with (fail)
        go_quiet (fail)
        go_wp2_with (fail)
        go_roundw
        case rel =>
          refine ⟨k + 1, by omega, by go_num, fun j hj hl => ?_, HX.out.2.2.1.drewN, HX.out.2.2.2.1.drewN _, Below.then_ HX.out.2.2.2.2 (dN_rbelow _ _)⟩
          by_cases hjk : j = k
          · subst hjk
            rw [HX.out.1]
            exact fun e => HM.out e.symm
          · exact HX.out.2.1 j (by omega) hl
        case measure => simp [intOf]; omega
    · obtain rfl : k = ks.length := by omega
      have q : ¬ (ks.length : Int) < (ks.length : Int) := by omega
      have hm : x ∉ ks := fun hm => by
        obtain ⟨i, hi, he⟩ := List.mem_iff_getElem.1 hm
        exact hne i hi hi he
      have HM := Lib.hid (And.intro hm hB)
      clear hR hC hne hm hB
      go_wp2_with (fail)
      go_ret
      exact ⟨_, rfl, ⟨fun h => absurd h (by decide), fun h => absurd h HM.out.1⟩, HM.out.2⟩

set_option maxRecDepth 100000 in
theorem contains_road (v : Value) (ks : List Rv) (x : Rv) (w : World) (hv : RdE rvK w v ks) (hn : ks.length ≤ 1048577) :
    Calls Try.prog 37 #[v, .agg #[.int .i64 x.own, .int .i64 x.far, .int .i64 x.port]] w fun e w' => e = .returned (.bool (decide (x ∈ ks))) ∧ Below w.heap.size w w' := by
  have hbx := below_rv w x
  have hC0 := Cel.new w 34 #[.int .i64 x.own, .int .i64 x.far, .int .i64 x.port]
  have c1 := fun W (h : Below (w.alloc (.cells #[.int .i64 x.own, .int .i64 x.far, .int .i64 x.port] 34)).heap.size (w.alloc (.cells #[.int .i64 x.own, .int .i64 x.far, .int .i64 x.port] 34)) W) => index_road v ks x W ((hv.below hbx).below h) hn
  obtain ⟨c0, c1', c2'⟩ := cel3r hC0
  obtain ⟨a, c, rfl⟩ := hv.form
  generalize hd : decide (x ∈ ks) = d
  have HD := Lib.hid (And.intro hd hbx)
  clear hv hbx hC0 hd
  go_enter Try.func37, Try.ntmps37
  go_wp2_with (fail)
  with_reducible refine (c1 _ (Below.refl _ _)).mono ?_
  rintro e w2 ⟨r, rfl, hr, hb⟩
  have HB := Lib.hid (Below.then_ HD.out.2 hb)
  have hr2 : decide (0 ≤ r) = d := by rw [← HD.out.1]; exact decide_eq_decide.2 hr
  clear c1 hb hr c0 c1' c2'
  go_wp2_with (fail)
  go_ret
  exact ⟨by first | rfl | rw [hr2] | simp [hr2], HB.out⟩


set_option maxRecDepth 100000 in
set_option maxHeartbeats 2000000 in
theorem spec_has (v : Value) (ks : List Rv) (x : Rv) (w : World) (hv : RdE rvK w v ks) (hn : ks.length ≤ 1048577) :
    Calls Try.prog 40 #[v, .agg #[.int .i64 x.own, .int .i64 x.far, .int .i64 x.port]] w fun e w' => e = .returned (.bool (decide (x ∈ ks))) ∧ Below w.heap.size w w' := by
  have hbx := below_rv w x
  have hC0 := Cel.new w 34 #[.int .i64 x.own, .int .i64 x.far, .int .i64 x.port]
  have hv0 := hv.below hbx
  obtain ⟨a, c, rfl⟩ := hv.form
  generalize hd : decide (x ∈ ks) = d
  have HD := Lib.hid hd
  clear hv hd
  go_enter Try.func40, Try.ntmps40
  go_wp2_with (fail)
  go_loopw [5] (fun i wr => ∃ k : Nat, k ≤ ks.length ∧ i = .int .i64 k ∧ (∀ j (_ : j < k) (h : j < ks.length), ks[j] ≠ x) ∧ RdE rvK wr (.slice a ks.length c) ks ∧ Cel wr w.heap.size 34 #[.int .i64 x.own, .int .i64 x.far, .int .i64 x.port] ∧ Below w.heap.size w wr) (fun i _ => ks.length - (intOf i).toNat)
  case atStart => exact ⟨0, by omega, rfl, fun j hj => by omega, hv0, hC0, hbx⟩
  case round =>
    clear hv0 hC0 hbx
    obtain ⟨k, hk, rfl, hne, hR, hC, hB⟩ := hrel
    by_cases hlt : k < ks.length
    · have q : (0 : Int) ≤ (k : Int) ∧ (k : Int) < (ks.length : Int) := by omega
      obtain ⟨b, off, ha, -, k0, k1, k2, -⟩ := rv_at (P := Try.prog) hR k hlt
      subst ha
      obtain ⟨c0, c1, c2⟩ := cel3r hC
      obtain ⟨y, hy⟩ : ∃ y, ks[k] = y := ⟨_, rfl⟩
      rw [hy] at k0 k1 k2
      have HX := Lib.hid (And.intro hy (And.intro hne (And.intro hR (And.intro hC hB))))
      clear hy hne hR hC hB
      by_cases hxy : y = x
      · have he := fun W => eql_rv y x W true (by simp [hxy])
        have hm : x ∈ ks := by rw [← hxy, ← HX.out.1]; exact List.getElem_mem _
        obtain rfl : true = d := by rw [← HD.out]; exact (decide_eq_true hm).symm
        clear hxy hm HD
        go_wp2_with (fail)
        go_quiet (fail)
        go_wp2_with (fail)
        go_ret
        exact ⟨rfl, Below.then_ HX.out.2.2.2.2 (dN_rbelow _ _)⟩
      · have he := fun W => eql_rv y x W false (by simp [hxy])
        have HM := Lib.hid hxy
        clear hxy
        go_wp2_with (fail)
        go_quiet (fail)
        go_wp2_with (fail)
        go_roundw
        case rel =>
          refine ⟨k + 1, by omega, by go_num, fun j hj hl => ?_, HX.out.2.2.1.drewN, HX.out.2.2.2.1.drewN _, Below.then_ HX.out.2.2.2.2 (dN_rbelow _ _)⟩
          by_cases hjk : j = k
          · subst hjk
            rw [HX.out.1]
            exact HM.out
          · exact HX.out.2.1 j (by omega) hl
        case measure => simp [intOf]; omega
    · obtain rfl : k = ks.length := by omega
      have q : ¬ (ks.length : Int) < (ks.length : Int) := by omega
      have hm : x ∉ ks := fun hm => by
        obtain ⟨i, hi, he⟩ := List.mem_iff_getElem.1 hm
        exact hne i hi hi he
      obtain rfl : false = d := by rw [← HD.out]; exact (decide_eq_false hm).symm
      have HM := Lib.hid hB
      clear hR hC hne hm hB HD
      go_wp2_with (fail)
      go_ret
      exact ⟨rfl, HM.out⟩
end Go.Proofs.Ytmokepopmfcdnaa
