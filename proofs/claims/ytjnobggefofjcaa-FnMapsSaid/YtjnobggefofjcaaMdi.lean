import Derived.Test.YtjnobggefofjcaaMdh
namespace Go.Proofs.Ytjnobggefofjcaa
open Go.RowKit

/-- A variable that holds a slice is no row of mappings. -/
theorem own_var {W : World} {B C g : Nat} {v : Value} {ms : List Mp} {cs : Array Value} (h : OwnM W B C v ms) (hg : Cel W g 50 cs) (k : Nat) (hk : v.ownBlock = some k) : k ≠ g := fun e => by
  subst e
  rcases h.1.2 with ⟨rfl, -⟩ | ⟨g', cap', cur, rfl, -, hh, -⟩
  · cases hk
  · simp [Value.ownBlock] at hk
    subst hk
    have := hh.symm.trans (show W.heap[g']? = _ from hg)
    injection this with this
    injection this with _ h2 _
    exact absurd h2 (by decide)

set_option maxRecDepth 100000 in
set_option maxHeartbeats 2000000 in
theorem impl_cut (g : Nat) (v : Value) (ms : List Mp) (s : Int) (B : Nat) (w : World) (hg : Cel w g 50 #[v]) (hBg : B ≤ g) (hv : OwnM w B w.heap.size v ms) (hf : ∀ m ∈ ms, m.fine) (hn : ms.length ≤ 1048576) :
    Calls Try.prog 35 #[.pointer (some ⟨g, 0, none⟩), .int .i64 s] w fun e w' => e = .returned (.tuple #[]) ∧ (∃ v', Cel w' g 50 #[v'] ∧ OwnM w' B w'.heap.size v' (cutGo s ms)) ∧ Below B w w' := by
  have hbx := below_new w (.cells #[.int .i64 s] 3)
  have hB0 : B ≤ w.heap.size := Nat.le_trans hBg (Nat.le_of_lt hg.lt)
  have hg1 := hg.kept hbx
  have c0 := hg1.cell 0
  have hgl := hg.lt
  have hne : v.ownBlock ≠ some g := fun e => own_var hv hg _ e rfl
  have hO1 := hv.keep hbx (Nat.le_refl _)
  have cd := impl_delete v ms s B w.heap.size w.heap.size (w.alloc (.cells #[.int .i64 s] 3)) hO1 (by simp) hf ((Cel.new w 3 #[.int .i64 s]).cell 0) (fun e => by have := (hv.block _ e).2; omega) hn
  have HH := Lib.hid (And.intro hg1 (And.intro hO1 hbx))
  clear hg1 hO1 hbx hg hv
  rw [show (#[v] : Array Value)[0]? = some v from rfl] at c0
  go_enter Try.func35, Try.ntmps35
  go_wp2_with (fail)
  with_reducible refine cd.mono ?_
  rintro e w1 ⟨v', rfl, hO2, hgr⟩
  obtain ⟨a', c', rfl, -⟩ := hO2.form
  generalize hvv : Value.slice a' (cutGo s ms).length c' = v' at *
  have hg2 := HH.out.1.grown hgr (fun e => hne e.symm)
  have c2 := hg2.cell 0
  have f2 := hg2.frozen 0
  rw [show (#[v] : Array Value)[0]? = some v from rfl] at c2
  have hg3 := hg2.set 0 v'
  have hne3 : ∀ k, v'.ownBlock = some k → k ≠ g := own_var hO2 hg2
  have hO3 : OwnM (w1.setCell ⟨g, 0, none⟩ v') B (w1.setCell ⟨g, 0, none⟩ v').heap.size v' (cutGo s ms) :=
    (hO2.keepAt fun k hk => Below.heap_setCell _ _ _ _ (hne3 k hk)).mono (Nat.le_refl _) (by have := hgr.size; simp at this ⊢; omega)
  have hB3 : Below B w (w1.setCell ⟨g, 0, none⟩ v') := ((HH.out.2.2.mono hB0).grown hgr (by simp; omega) (fun k hk => (HH.out.2.1.block k hk).1)).setCell (p := ⟨g, 0, none⟩) hBg _
  have HN := Lib.hid (And.intro hg3 (And.intro hO3 hB3))
  subst hvv
  clear hg3 hO3 hB3 hO2 hgr hg2 hne3 c0 cd
  go_wp2_with (fail)
  exact bodyPost_end (v := .tuple #[]) (by simp [results, Try.results35, go_sem]) rfl ⟨rfl, ⟨_, HN.out.1, HN.out.2.1⟩, HN.out.2.2⟩

set_option maxRecDepth 100000 in
set_option maxHeartbeats 2000000 in
theorem impl_cutMaps (v : Value) (ms : List Mp) (s : Int) (w : World) (hv : RdM w v ms) (hn : ms.length ≤ 1048576) :
    Calls Try.prog 15 #[v, .int .i64 s] w fun e w' => ∃ v', e = .returned v' ∧ OwnM w' w.heap.size w'.heap.size v' (cutMaps ms s) ∧ Below w.heap.size w w' := by
  have co := impl_ownMaps v ms w hv hn
  have cO := fun W h => impl_mapsOk v ms W h (by omega)
  unfold cutMaps
  by_cases hok : mapsOk ms = true
  · have hfine := (mapsOk_fine ms hok).2
    rw [hok] at cO
    rw [if_pos hok]
    clear hok
    go_enter Try.func15, Try.ntmps15
    go_wp2_with (fail)
    with_reducible refine co.mono ?_
    rintro e w1 ⟨u, rfl, hO1, hB1⟩
    obtain ⟨ua, uc, rfl, -⟩ := hO1.form
    clear co
    have hbx := below_new w1 (.cells #[.slice ua ms.length uc] 50)
    have hB2 := Below.then_ hB1 hbx
    have hO2 := own_alloc hO1 (.cells #[.slice ua ms.length uc] 50)
    have hC2 := Cel.new w1 50 #[.slice ua ms.length uc]
    have hv2 := hv.below hB2
    have HN := Lib.hid (And.intro hB1.size (And.intro hB2 (And.intro hO2 hC2)))
    clear hbx hB1 hB2 hO1 hO2 hC2
    go_wp2_with (fail)
    with_reducible refine (cO _ hv2).mono ?_
    rintro e w2 ⟨rfl, hb2⟩
    have hB3 := Below.then_ HN.out.2.1 hb2
    have hO3 : OwnM w2 w.heap.size w2.heap.size _ ms := (HN.out.2.2.1.keep hb2 (Nat.le_refl _)).mono (Nat.le_refl _) hb2.size
    have hC3 := HN.out.2.2.2.kept hb2
    have cc := impl_cut w1.heap.size _ ms s w.heap.size w2 hC3 HN.out.1 hO3 hfine hn
    clear cO hb2 hv2 hO3 hC3
    have HB3 := Lib.hid hB3
    clear hB3
    go_wp2_with (fail)
    with_reducible refine cc.mono ?_
    rintro e w3 ⟨rfl, ⟨v', hC4, hO4⟩, hb3⟩
    obtain ⟨va', vc', rfl, -⟩ := hO4.form
    have k0 := hC4.cell 0
    rw [show ∀ v : Value, (#[v] : Array Value)[0]? = some v from fun _ => rfl] at k0
    have HE := Lib.hid (And.intro hO4 (HB3.out.trans hb3))
    clear hC4 hO4 hb3 cc
    go_wp2_with (fail)
    go_ret
    exact ⟨_, rfl, HE.out.1, HE.out.2⟩
  · rw [show mapsOk ms = false by simpa using hok] at cO
    rw [if_neg hok]
    clear hok
    go_enter Try.func15, Try.ntmps15
    go_wp2_with (fail)
    with_reducible refine co.mono ?_
    rintro e w1 ⟨u, rfl, hO1, hB1⟩
    obtain ⟨ua, uc, rfl, -⟩ := hO1.form
    clear co
    have hbx := below_new w1 (.cells #[.slice ua ms.length uc] 50)
    have hB2 := Below.then_ hB1 hbx
    have hO2 := own_alloc hO1 (.cells #[.slice ua ms.length uc] 50)
    have hC2 := Cel.new w1 50 #[.slice ua ms.length uc]
    have hv2 := hv.below hB2
    have HN := Lib.hid (And.intro hB2 (And.intro hO2 hC2))
    clear hbx hB1 hB2 hO1 hO2 hC2
    go_wp2_with (fail)
    with_reducible refine (cO _ hv2).mono ?_
    rintro e w2 ⟨rfl, hb2⟩
    have hB3 := Below.then_ HN.out.1 hb2
    have hO3 : OwnM w2 w.heap.size w2.heap.size _ ms := (HN.out.2.1.keep hb2 (Nat.le_refl _)).mono (Nat.le_refl _) hb2.size
    have k0 := (HN.out.2.2.kept hb2).cell 0
    rw [show ∀ v : Value, (#[v] : Array Value)[0]? = some v from fun _ => rfl] at k0
    have HE := Lib.hid (And.intro hO3 hB3)
    clear hO3 hB3 hb2 hv2 cO
    go_wp2_with (fail)
    go_ret
    exact ⟨_, rfl, HE.out.1, HE.out.2⟩
end Go.Proofs.Ytjnobggefofjcaa
