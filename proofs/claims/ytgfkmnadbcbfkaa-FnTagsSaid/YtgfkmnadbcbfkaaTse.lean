import Derived.Test.YtgfkmnadbcbfkaaTms
import Derived.Test.YtgfkmnadbcbfkaaGtb
namespace Go.Proofs.Ytgfkmnadbcbfkaa
open Go.RowKit Go.Maps

theorem set_more {κ : Type} [DecidableEq κ] {K : SK κ} {W : World} {b n k : Nat} {xs : List κ} {y : κ} (hk : k < xs.length) (hy : xs[k] = y) (h : SetAt K W b n (fun z => decide (z = y) || decide (z ∈ xs.take k))) : SetAt K W b n (fun z => decide (z ∈ xs.take (k + 1))) :=
  h.of_eq fun z _ => by
    rw [List.take_succ_eq_append_getElem hk, hy]
    by_cases h1 : z = y <;> by_cases h2 : z ∈ xs.take k <;> simp [h1, h2]
theorem below_turned {B : Nat} {w W W' : World} {b : Nat} (h : Below B w W) (hg : W.grownBy W' (some b)) (hB : B ≤ W.heap.size) (hb : B ≤ b) : Below B w W' := h.grown hg hB (fun k hk => by injection hk with hk; omega)

set_option maxRecDepth 100000 in
set_option maxHeartbeats 2000000 in
theorem impl_setI (v : Value) (zs : List Int) (w : World) (hv : RdE intK w v zs) (hn : zs.length ≤ 9223372036854775807) (hw : ∀ n ∈ zs, IntW n) :
    Calls Try.prog 36 #[v] w fun e w' => ∃ b, e = .returned (.map (some b)) ∧ SetAt intS w' b zs.length (fun z => decide (z ∈ zs)) ∧ w.heap.size ≤ b ∧ Below w.heap.size w w' := by
  obtain ⟨va, vc, rfl⟩ := hv.form
  have hM0 := SetAt.made (K := intS) w
  have hB0 : Below w.heap.size w (w.alloc (.map #[] 0)) := below_new _ _
  have HV := Lib.hid (And.intro hv hw)
  clear hv hw
  have hmk : ∀ W, (Instr.makeMap 55 none).run Try.prog W = .ok (.map (some W.heap.size)) (W.alloc (.map #[] 0)) := fun _ => by kernel_rfl
  go_enter Try.func36, Try.ntmps36
  go_wp2_with (fail)
  clear hmk
  go_loopw [5, 9] (fun _ i wr => ∃ k : Nat, k ≤ zs.length ∧ i = .int .i64 k ∧ SetAt intS wr w.heap.size k (fun z => decide (z ∈ zs.take k)) ∧ Below w.heap.size w wr) (fun _ i _ => zs.length - (intOf i).toNat)
  case atStart => exact ⟨0, by omega, rfl, hM0.of_eq fun z _ => by simp, hB0⟩
  case round =>
    clear hM0 hB0
    obtain ⟨k, hk, rfl, hM, hB⟩ := hrel
    by_cases hlt : k < zs.length
    · have q : (0 : Int) ≤ (k : Int) ∧ (k : Int) < (zs.length : Int) := by omega
      obtain ⟨b, off, ha, -, k0⟩ := int_at (HV.out.1.below hB) k hlt
      subst ha
      have hok := HV.out.2 zs[k] (List.getElem_mem hlt)
      obtain ⟨y, hy⟩ : ∃ y, zs[k] = y := ⟨_, rfl⟩
      rw [hy] at k0 hok
      have HX := Lib.hid (And.intro hM (And.intro hB (And.intro hok (And.intro hy (show k < maxLen by unfold maxLen; omega)))))
      clear hM hB hok hy
      go_wp2_with (at_mapUpdate; refine wpList_setPut (K := intS) rfl _ _ _ rfl y rfl rfl rfl HX.out.1 HX.out.2.2.1 HX.out.2.2.2.2 ?_; intro w6 hm6 hg6 hz6; have H6 := Lib.hid (And.intro (set_more hlt HX.out.2.2.2.1 hm6) (below_turned HX.out.2.1 hg6 HX.out.2.1.size (Nat.le_refl _))); clear hm6 hg6 hz6)
      go_roundw
      case rel => exact ⟨k + 1, by omega, by go_num, H6.out.1, H6.out.2⟩
      case measure => simp [intOf]; omega
    · obtain rfl : k = zs.length := by omega
      have q : ¬ (zs.length : Int) < (zs.length : Int) := by omega
      have HX := Lib.hid (And.intro hM hB)
      clear hM hB
      go_wp2_with (fail)
      go_ret
      exact ⟨_, rfl, HX.out.1.of_eq fun z _ => by rw [List.take_length], Nat.le_refl _, HX.out.2⟩

set_option maxRecDepth 100000 in
set_option maxHeartbeats 2000000 in
theorem impl_setT (v : Value) (ts : List Tv) (w : World) (hv : RdT w v ts) (hn : ts.length ≤ 9223372036854775807) (hw : ∀ x ∈ ts, TvW x) :
    Calls Try.prog 37 #[v] w fun e w' => ∃ b, e = .returned (.map (some b)) ∧ SetAt tagS w' b ts.length (fun z => decide (z ∈ ts)) ∧ w.heap.size ≤ b ∧ Below w.heap.size w w' := by
  obtain ⟨va, vc, rfl⟩ := hv.form
  have hM0 := SetAt.made (K := tagS) w
  have hB0 : Below w.heap.size w (w.alloc (.map #[] 0)) := below_new _ _
  have HV := Lib.hid (And.intro hv hw)
  clear hv hw
  have hmk : ∀ W, (Instr.makeMap 58 none).run Try.prog W = .ok (.map (some W.heap.size)) (W.alloc (.map #[] 0)) := fun _ => by kernel_rfl
  go_enter Try.func37, Try.ntmps37
  go_wp2_with (fail)
  clear hmk
  go_loopw [5, 9] (fun _ i wr => ∃ k : Nat, k ≤ ts.length ∧ i = .int .i64 k ∧ SetAt tagS wr w.heap.size k (fun z => decide (z ∈ ts.take k)) ∧ Below w.heap.size w wr) (fun _ i _ => ts.length - (intOf i).toNat)
  case atStart => exact ⟨0, by omega, rfl, hM0.of_eq fun z _ => by simp, hB0⟩
  case round =>
    clear hM0 hB0
    obtain ⟨k, hk, rfl, hM, hB⟩ := hrel
    by_cases hlt : k < ts.length
    · have q : (0 : Int) ≤ (k : Int) ∧ (k : Int) < (ts.length : Int) := by omega
      obtain ⟨b, off, ha, -, k0, k1, k2, k3, k4, -⟩ := tv_at (P := Try.prog) (HV.out.1.below hB) k hlt
      subst ha
      have hok := HV.out.2 ts[k] (List.getElem_mem hlt)
      obtain ⟨y, hy⟩ : ∃ y, ts[k] = y := ⟨_, rfl⟩
      rw [hy] at k0 k1 k2 k3 k4 hok
      have hbx := below_tv wr y
      obtain ⟨d0, d1, d2, d3, d4⟩ := cel5tv (Cel.new wr 29 #[.int .i64 y.kind, .int .i64 y.one, .int .i64 y.two, .int .i64 y.a, .int .i64 y.b])
      have HX := Lib.hid (And.intro (hM.kept hbx) (And.intro (Below.then_ hB hbx) (And.intro hok (And.intro hy (show k < maxLen by unfold maxLen; omega)))))
      clear hM hB hok hy hbx
      go_wp2_with (at_mapUpdate; refine wpList_setPut (K := tagS) rfl _ _ _ rfl y rfl rfl rfl HX.out.1 HX.out.2.2.1 HX.out.2.2.2.2 ?_; intro w6 hm6 hg6 hz6; have H6 := Lib.hid (And.intro (set_more hlt HX.out.2.2.2.1 hm6) (below_turned HX.out.2.1 hg6 HX.out.2.1.size (Nat.le_refl _))); clear hm6 hg6 hz6)
      go_roundw
      case rel => exact ⟨k + 1, by omega, by go_num, H6.out.1, H6.out.2⟩
      case measure => simp [intOf]; omega
    · obtain rfl : k = ts.length := by omega
      have q : ¬ (ts.length : Int) < (ts.length : Int) := by omega
      have HX := Lib.hid (And.intro hM hB)
      clear hM hB
      go_wp2_with (fail)
      go_ret
      exact ⟨_, rfl, HX.out.1.of_eq fun z _ => by rw [List.take_length], Nat.le_refl _, HX.out.2⟩
end Go.Proofs.Ytgfkmnadbcbfkaa
