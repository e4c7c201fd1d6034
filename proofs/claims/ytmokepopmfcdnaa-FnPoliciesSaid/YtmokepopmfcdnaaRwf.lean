import Derived.Test.YtmokepopmfcdnaaRok
namespace Go.Proofs.Ytmokepopmfcdnaa
open Go.RowKit

theorem wf_mesh (W : World) (B : Nat) : WantF W B 1 0 (.func (.func 47) #[] #[]) := by
  unfold WantF
  rw [if_pos (by decide), if_pos rfl]
theorem wf_nil {kd mn : Int} (h : polOk kd mn = false) (W : World) (B : Nat) : WantF W B kd mn .nilFunc := by
  unfold WantF
  rw [if_neg (by rw [h]; decide)]
theorem wf_ports {kd mn n : Int} (h : polOk kd mn = true) (h1 : kd ≠ 1) (hn : (manyR kd mn : Int) = n) {W : World} {B g : Nat} (hg : B ≤ g) (hc : Cel W g 3 #[.int .i64 n]) : WantF W B kd mn (.func (.func 52) #[] #[.pointer (some ⟨g, 0, none⟩)]) := by
  unfold WantF
  rw [if_pos h, if_neg h1, hn]
  exact ⟨g, rfl, hg, hc⟩

set_option maxRecDepth 100000 in
set_option maxHeartbeats 1000000 in
theorem impl_wantingOf (kd mn : Int) (w : World) :
    Calls Try.prog 34 #[.agg #[.int .i64 kd, .int .i64 mn]] w fun e w' => ∃ v, e = .returned v ∧ WantF w' w.heap.size kd mn v ∧ Below w.heap.size w w' := by
  have c1 := fun W => impl_within mn 1 8 W
  have cP := fun n W => impl_portsOf n W
  have HB := Lib.hid (below_pol w kd mn)
  by_cases h1 : kd = 1
  · subst h1
    by_cases h0 : mn = 0
    · subst h0
      clear c1 cP
      go_enter Try.func34, Try.ntmps34
      go_wp2_with (fail)
      go_ret
      exact ⟨_, rfl, wf_mesh _ _, HB.out⟩
    · have b0 : (mn == 0) = false := by simpa using h0
      have HO := Lib.hid (show polOk 1 mn = false by unfold polOk; exact decide_eq_false (by omega))
      clear c1 cP h0
      go_enter Try.func34, Try.ntmps34
      go_wp2_with (fail)
      go_ret
      exact ⟨_, rfl, wf_nil (HO.out) _ _, HB.out⟩
  · have b1 : (kd == 1) = false := by simpa using h1
    have H1 := Lib.hid h1
    by_cases h2 : kd = 2
    · subst h2
      clear h1 b1
      by_cases hm : 1 ≤ mn ∧ mn ≤ 8
      · have HO := Lib.hid (show polOk 2 mn = true by unfold polOk; exact decide_eq_true (by omega))
        have HN := Lib.hid (show ((manyR 2 mn : Nat) : Int) = mn by unfold manyR; rw [if_pos rfl]; omega)
        rw [decide_eq_true hm] at c1
        clear hm
        go_enter Try.func34, Try.ntmps34
        go_wp2_with (fail)
        with_reducible refine (c1 _).mono ?_
        rintro e w1 ⟨rfl, rfl⟩
        go_wp2_with (fail)
        with_reducible refine (cP _ _).mono ?_
        rintro e w2 ⟨rfl, hc2, hb2⟩
        rw [World.size_alloc] at hc2
        have HC := Lib.hid (And.intro hc2 hb2)
        clear hc2 hb2
        go_wp2_with (fail)
        go_ret
        exact ⟨_, rfl, wf_ports (HO.out) (by decide) (HN.out) (Nat.le_succ _) HC.out.1, Below.then_ HB.out HC.out.2⟩
      · have HO := Lib.hid (show polOk 2 mn = false by unfold polOk; exact decide_eq_false (by omega))
        rw [decide_eq_false hm] at c1
        clear hm cP
        go_enter Try.func34, Try.ntmps34
        go_wp2_with (fail)
        with_reducible refine (c1 _).mono ?_
        rintro e w1 ⟨rfl, rfl⟩
        go_wp2_with (fail)
        go_ret
        exact ⟨_, rfl, wf_nil (HO.out) _ _, HB.out⟩
    · have b2 : (kd == 2) = false := by simpa using h2
      by_cases h3 : kd = 3
      · subst h3
        clear h1 b1 h2 b2 c1
        by_cases h0 : mn = 0
        · subst h0
          go_enter Try.func34, Try.ntmps34
          go_wp2_with (fail)
          with_reducible refine (cP _ _).mono ?_
          rintro e w2 ⟨rfl, hc2, hb2⟩
          rw [World.size_alloc] at hc2
          have HC := Lib.hid (And.intro hc2 hb2)
          clear hc2 hb2
          go_wp2_with (fail)
          go_ret
          exact ⟨_, rfl, wf_ports (by decide) (by decide) (rfl) (Nat.le_succ _) HC.out.1, Below.then_ HB.out HC.out.2⟩
        · have b0 : (mn == 0) = false := by simpa using h0
          have HO := Lib.hid (show polOk 3 mn = false by unfold polOk; exact decide_eq_false (by omega))
          clear h0 cP
          go_enter Try.func34, Try.ntmps34
          go_wp2_with (fail)
          go_ret
          exact ⟨_, rfl, wf_nil (HO.out) _ _, HB.out⟩
      · have b3 : (kd == 3) = false := by simpa using h3
        have HO := Lib.hid (show polOk kd mn = false by unfold polOk; exact decide_eq_false (by omega))
        clear h1 h2 h3 c1 cP
        go_enter Try.func34, Try.ntmps34
        go_wp2_with (fail)
        go_ret
        exact ⟨_, rfl, wf_nil (HO.out) _ _, HB.out⟩

/-- Functions held against nil. -/
theorem equalIn_nil (d : Nat) (W : World) : (Op.equalIn (d + 1) 62 .nilFunc .nilFunc).run Try.prog W = .ok true W := by
  simp [Op.equalIn, run_underlying Try.underlying62]
theorem equalIn_fn (d : Nat) (f : Fn) (x y : Array Value) (W : World) : (Op.equalIn (d + 1) 62 (.func f x y) .nilFunc).run Try.prog W = .ok false W := by
  simp [Op.equalIn, run_underlying Try.underlying62]
theorem eql_nil (W : World) : (binOp .eql 62 .nilFunc .nilFunc).run Try.prog W = .ok (.bool true) W := by
  simp only [binOp, Op.equal, Op.maxDepth, Sem.run_bind, show (10000 : Nat) = 9999 + 1 from rfl, equalIn_nil, Result.andThen_ok, Sem.run_pure]
theorem neq_nil (W : World) : (binOp .neq 62 .nilFunc .nilFunc).run Try.prog W = .ok (.bool false) W := by
  simp only [binOp, Op.equal, Op.maxDepth, Sem.run_bind, show (10000 : Nat) = 9999 + 1 from rfl, equalIn_nil, Result.andThen_ok, Sem.run_pure, Bool.not_true]
theorem eql_fn (f : Fn) (x y : Array Value) (W : World) : (binOp .eql 62 (.func f x y) .nilFunc).run Try.prog W = .ok (.bool false) W := by
  simp only [binOp, Op.equal, Op.maxDepth, Sem.run_bind, show (10000 : Nat) = 9999 + 1 from rfl, equalIn_fn, Result.andThen_ok, Sem.run_pure]
theorem neq_fn (f : Fn) (x y : Array Value) (W : World) : (binOp .neq 62 (.func f x y) .nilFunc).run Try.prog W = .ok (.bool true) W := by
  simp only [binOp, Op.equal, Op.maxDepth, Sem.run_bind, show (10000 : Nat) = 9999 + 1 from rfl, equalIn_fn, Result.andThen_ok, Sem.run_pure, Bool.not_false]

set_option maxRecDepth 100000 in
theorem impl_policyOk (kd mn : Int) (w : World) :
    Calls Try.prog 15 #[.agg #[.int .i64 kd, .int .i64 mn]] w fun e w' => e = .returned (.bool (polOk kd mn)) ∧ Below w.heap.size w w' := by
  have cW := fun W => impl_wantingOf kd mn W
  have HB := Lib.hid (below_pol w kd mn)
  unfold WantF at cW
  cases hp : polOk kd mn with
  | false =>
    rw [hp] at cW
    simp only [Bool.false_eq_true, if_false] at cW
    have he := neq_nil
    clear hp
    go_enter Try.func15, Try.ntmps15
    go_wp2_with (fail)
    with_reducible refine (cW _).mono ?_
    rintro e w1 ⟨v, rfl, rfl, hb⟩
    have HC := Lib.hid (Below.then_ HB.out hb)
    clear cW hb
    go_wp2_with (fail)
    go_ret
    exact ⟨rfl, HC.out⟩
  | true =>
    rw [hp] at cW
    simp only [if_true] at cW
    clear hp
    have he := neq_fn
    by_cases h1 : kd = 1
    · rw [h1] at cW
      simp only [if_true] at cW
      go_enter Try.func15, Try.ntmps15
      go_wp2_with (fail)
      rw [h1]
      with_reducible refine (cW _).mono ?_
      rintro e w1 ⟨v, rfl, rfl, hb⟩
      rw [h1] at HB
      have HC := Lib.hid (Below.then_ HB.out hb)
      clear cW hb
      go_wp2_with (fail)
      go_ret
      exact ⟨rfl, HC.out⟩
    · simp only [if_neg h1] at cW
      clear h1
      go_enter Try.func15, Try.ntmps15
      go_wp2_with (fail)
      with_reducible refine (cW _).mono ?_
      rintro e w1 ⟨v, rfl, ⟨g, rfl, -, -⟩, hb⟩
      have HC := Lib.hid (Below.then_ HB.out hb)
      clear cW hb
      go_wp2_with (fail)
      go_ret
      exact ⟨rfl, HC.out⟩
end Go.Proofs.Ytmokepopmfcdnaa
