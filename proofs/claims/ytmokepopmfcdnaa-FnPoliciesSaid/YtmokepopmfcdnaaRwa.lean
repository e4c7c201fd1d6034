import Derived.Test.YtmokepopmfcdnaaRme
import Derived.Test.YtmokepopmfcdnaaRwf
namespace Go.Proofs.Ytmokepopmfcdnaa
open Go.RowKit

theorem cel1r {W : World} {g : Nat} {t : TypeId} {x : Value} (h : Cel W g t #[x]) : W.cell? ⟨g, 0, none⟩ = some x := h.cell 0
theorem want_no {kd mn : Int} {os fs : List Av} (h : (polOk kd mn && fitR os fs) = false) : wantR kd mn os fs = [] := by
  unfold wantR
  rw [h]
  rfl
theorem want_mesh {kd mn : Int} {os fs : List Av} (h : polOk kd mn = true) (hf : fitR os fs = true) (h1 : kd = 1) : wantR kd mn os fs = (meshR os fs).take 8 := by
  unfold wantR
  rw [h, hf, if_pos (by decide), if_pos h1]
theorem want_ports {kd mn : Int} {os fs : List Av} (h : polOk kd mn = true) (hf : fitR os fs = true) (h1 : kd ≠ 1) : wantR kd mn os fs = portsR (os.headD Av.zero).addr (fs.headD Av.zero).addr (manyR kd mn) := by
  unfold wantR
  rw [h, hf, if_pos (by decide), if_neg h1]
theorem many_le {kd mn : Int} (h : polOk kd mn = true) : manyR kd mn ≤ 8 := by
  unfold polOk at h
  have := of_decide_eq_true h
  unfold manyR
  split <;> omega

set_option maxRecDepth 100000 in
set_option maxHeartbeats 2000000 in
theorem impl_wanted (kd mn : Int) (v v2 : Value) (os fs : List Av) (w : World) (hv : RdV w v os) (hv2 : RdV w v2 fs) :
    Calls Try.prog 10 #[.agg #[.int .i64 kd, .int .i64 mn], v, v2] w fun e w' => ∃ u, e = .returned u ∧ OwnR w' w.heap.size w'.heap.size u (wantR kd mn os fs) ∧ Below w.heap.size w w' := by
  have cW := fun W => impl_wantingOf kd mn W
  have hb0 := below_pol w kd mn
  obtain ⟨a, c, rfl⟩ := hv.form
  obtain ⟨a2, c2, rfl⟩ := hv2.form
  cases hp : polOk kd mn with
  | false =>
    rw [want_no (by rw [hp]; rfl)]
    unfold WantF at cW
    rw [hp] at cW
    simp only [Bool.false_eq_true, if_false] at cW
    have he := eql_nil
    have HB0 := Lib.hid hb0
    clear hv hv2 hp hb0
    go_enter Try.func10, Try.ntmps10
    go_wp2_with (fail)
    with_reducible refine (cW _).mono ?_
    rintro e w1 ⟨u, rfl, rfl, hb⟩
    have HB := Lib.hid (Below.then_ HB0.out hb)
    clear cW hb
    go_wp2_with (fail)
    go_ret
    exact ⟨_, rfl, OwnE.nil, HB.out⟩
  | true =>
    have he := eql_fn
    unfold WantF at cW
    rw [hp] at cW
    simp only [if_true] at cW
    have c1 := fun W => impl_within (os.length : Int) 1 6 W
    have c2' := fun W => impl_within (fs.length : Int) 1 6 W
    by_cases h1 : kd = 1
    · subst h1
      simp only [if_true] at cW
      have HB0 := Lib.hid hb0
      clear hb0
      by_cases f1 : 1 ≤ os.length ∧ os.length ≤ 6
      · rw [decide_eq_true (by omega : (1 : Int) ≤ (os.length : Int) ∧ (os.length : Int) ≤ 6)] at c1
        by_cases f2 : 1 ≤ fs.length ∧ fs.length ≤ 6
        · rw [decide_eq_true (by omega : (1 : Int) ≤ (fs.length : Int) ∧ (fs.length : Int) ≤ 6)] at c2'
          have hf : fitR os fs = true := decide_eq_true ⟨f1, f2⟩
          rw [want_mesh hp hf rfl]
          have HP := Lib.hid (And.intro hp (And.intro f1 (And.intro f2 (And.intro hv hv2))))
          clear hp hf f1 f2 hv hv2
          go_enter Try.func10, Try.ntmps10
          go_wp2_with (fail)
          with_reducible refine (cW _).mono ?_
          rintro e w1 ⟨u, rfl, rfl, hb⟩
          have HB := Lib.hid (Below.then_ HB0.out hb)
          clear cW hb
          go_wp2_with (fail)
          with_reducible refine (c1 _).mono ?_
          rintro e w2 ⟨rfl, rfl⟩
          go_wp2_with (fail)
          with_reducible refine (c2' _).mono ?_
          rintro e w3 ⟨rfl, rfl⟩
          clear c1 c2'
          go_wp2_with (fail)
          with_reducible refine (impl_mesh _ _ os fs _ (HP.out.2.2.2.1.below HB.out) (HP.out.2.2.2.2.below HB.out) HP.out.2.1 HP.out.2.2.1).mono ?_
          rintro e w4 ⟨u4, rfl, hu, hb4⟩
          have HN := Lib.hid (And.intro (hu.mono HB.out.size (Nat.le_refl _)) (Below.then_ HB.out hb4))
          clear hu hb4
          go_wp2_with (fail)
          go_ret
          exact ⟨_, rfl, HN.out.1, HN.out.2⟩
        · rw [decide_eq_false (by omega : ¬ ((1 : Int) ≤ (fs.length : Int) ∧ (fs.length : Int) ≤ 6))] at c2'
          rw [want_no (by rw [show fitR os fs = false from decide_eq_false (fun h => f2 h.2)]; exact Bool.and_false _)]
          clear hp f1 f2 hv hv2
          go_enter Try.func10, Try.ntmps10
          go_wp2_with (fail)
          with_reducible refine (cW _).mono ?_
          rintro e w1 ⟨u, rfl, rfl, hb⟩
          have HB := Lib.hid (Below.then_ HB0.out hb)
          clear cW hb
          go_wp2_with (fail)
          with_reducible refine (c1 _).mono ?_
          rintro e w2 ⟨rfl, rfl⟩
          go_wp2_with (fail)
          with_reducible refine (c2' _).mono ?_
          rintro e w3 ⟨rfl, rfl⟩
          clear c1 c2'
          go_wp2_with (fail)
          go_ret
          exact ⟨_, rfl, OwnE.nil, HB.out⟩
      · rw [decide_eq_false (by omega : ¬ ((1 : Int) ≤ (os.length : Int) ∧ (os.length : Int) ≤ 6))] at c1
        rw [want_no (by rw [show fitR os fs = false from decide_eq_false (fun h => f1 h.1)]; exact Bool.and_false _)]
        clear hp f1 hv hv2 c2'
        go_enter Try.func10, Try.ntmps10
        go_wp2_with (fail)
        with_reducible refine (cW _).mono ?_
        rintro e w1 ⟨u, rfl, rfl, hb⟩
        have HB := Lib.hid (Below.then_ HB0.out hb)
        clear cW hb
        go_wp2_with (fail)
        with_reducible refine (c1 _).mono ?_
        rintro e w2 ⟨rfl, rfl⟩
        go_wp2_with (fail)
        go_ret
        exact ⟨_, rfl, OwnE.nil, HB.out⟩
    · simp only [if_neg h1] at cW
      have HB0 := Lib.hid hb0
      clear hb0
      by_cases f1 : 1 ≤ os.length ∧ os.length ≤ 6
      · rw [decide_eq_true (by omega : (1 : Int) ≤ (os.length : Int) ∧ (os.length : Int) ≤ 6)] at c1
        by_cases f2 : 1 ≤ fs.length ∧ fs.length ≤ 6
        · rw [decide_eq_true (by omega : (1 : Int) ≤ (fs.length : Int) ∧ (fs.length : Int) ≤ 6)] at c2'
          have hf : fitR os fs = true := decide_eq_true ⟨f1, f2⟩
          rw [want_ports hp hf h1]
          have HP := Lib.hid (And.intro hp (And.intro f1 (And.intro f2 (And.intro hv hv2))))
          clear hp hf f1 f2 hv hv2
          go_enter Try.func10, Try.ntmps10
          go_wp2_with (fail)
          with_reducible refine (cW _).mono ?_
          rintro e w1 ⟨u, rfl, ⟨g, rfl, hg, hgc⟩, hb⟩
          have HB := Lib.hid (Below.then_ HB0.out hb)
          clear cW hb
          go_wp2_with (fail)
          with_reducible refine (c1 _).mono ?_
          rintro e w2 ⟨rfl, rfl⟩
          go_wp2_with (fail)
          with_reducible refine (c2' _).mono ?_
          rintro e w3 ⟨rfl, rfl⟩
          clear c1 c2'
          go_wp2_with (fail)
          with_reducible refine (impl_ports _ _ os fs (manyR kd mn) g _ (HP.out.2.2.2.1.below HB.out) (HP.out.2.2.2.2.below HB.out) HP.out.2.1 HP.out.2.2.1 (many_le HP.out.1) (cel1r hgc)).mono ?_
          rintro e w4 ⟨u4, rfl, hu, hb4⟩
          have HN := Lib.hid (And.intro (hu.mono HB.out.size (Nat.le_refl _)) (Below.then_ HB.out hb4))
          clear hu hb4
          go_wp2_with (fail)
          go_ret
          exact ⟨_, rfl, HN.out.1, HN.out.2⟩
        · rw [decide_eq_false (by omega : ¬ ((1 : Int) ≤ (fs.length : Int) ∧ (fs.length : Int) ≤ 6))] at c2'
          rw [want_no (by rw [show fitR os fs = false from decide_eq_false (fun h => f2 h.2)]; exact Bool.and_false _)]
          clear hp f1 f2 hv hv2
          go_enter Try.func10, Try.ntmps10
          go_wp2_with (fail)
          with_reducible refine (cW _).mono ?_
          rintro e w1 ⟨u, rfl, ⟨g, rfl, hg, hgc⟩, hb⟩
          have HB := Lib.hid (Below.then_ HB0.out hb)
          clear cW hb
          go_wp2_with (fail)
          with_reducible refine (c1 _).mono ?_
          rintro e w2 ⟨rfl, rfl⟩
          go_wp2_with (fail)
          with_reducible refine (c2' _).mono ?_
          rintro e w3 ⟨rfl, rfl⟩
          clear c1 c2'
          go_wp2_with (fail)
          go_ret
          exact ⟨_, rfl, OwnE.nil, HB.out⟩
      · rw [decide_eq_false (by omega : ¬ ((1 : Int) ≤ (os.length : Int) ∧ (os.length : Int) ≤ 6))] at c1
        rw [want_no (by rw [show fitR os fs = false from decide_eq_false (fun h => f1 h.1)]; exact Bool.and_false _)]
        clear hp f1 hv hv2 c2'
        go_enter Try.func10, Try.ntmps10
        go_wp2_with (fail)
        with_reducible refine (cW _).mono ?_
        rintro e w1 ⟨u, rfl, ⟨g, rfl, hg, hgc⟩, hb⟩
        have HB := Lib.hid (Below.then_ HB0.out hb)
        clear cW hb
        go_wp2_with (fail)
        with_reducible refine (c1 _).mono ?_
        rintro e w2 ⟨rfl, rfl⟩
        go_wp2_with (fail)
        go_ret
        exact ⟨_, rfl, OwnE.nil, HB.out⟩
end Go.Proofs.Ytmokepopmfcdnaa
