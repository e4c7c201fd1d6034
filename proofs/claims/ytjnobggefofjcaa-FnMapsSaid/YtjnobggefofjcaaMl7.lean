import Derived.Test.YtjnobggefofjcaaMdv
import Derived.Test.YtjnobggefofjcaaMpw
import Derived.Test.YtjnobggefofjcaaMpf
import Derived.Test.YtjnobggefofjcaaMdi
import Derived.Test.YtjnobggefofjcaaMsq
import Derived.Test.YtjnobggefofjcaaMrx
import Derived.Test.YtjnobggefofjcaaBig
namespace Go.Proofs.Ytjnobggefofjcaa
open Go.RowKit

set_option maxRecDepth 100000 in
set_option maxHeartbeats 8000000 in
theorem fnmaps_law (v : Value) (w : World) (n : Nat) (hr : RdB w v n) :
    Calls Try.prog 3 #[v] w fun e w' => e = .returned (.bool true) ∧ Below w.heap.size w w' := by
  have cb := big_call v n w hr
  by_cases hn : 1048576 < n
  · rw [decide_eq_true hn] at cb
    clear hn hr
    go_enter Try.func3, Try.ntmps3
    go_wp2_with (fail)
    with_reducible refine cb.mono ?_
    rintro e w1 ⟨rfl, rfl⟩
    go_wp2_with (fail)
    go_ret
    exact ⟨rfl, Below.refl _ _⟩
  · rw [decide_eq_false hn] at cb
    have cp := draw_putMap v n w hr (by omega)
    clear hn hr
    go_enter Try.func3, Try.ntmps3
    go_wp2_with (fail)
    with_reducible refine cb.mono ?_
    rintro e w0 ⟨rfl, rfl⟩
    clear cb
    go_wp2_with (fail)
    with_reducible refine cp.mono ?_
    rintro e w1 ⟨u, ms, m, rfl, hu, hl, hb1⟩
    clear cp
    obtain ⟨ua, uc, rfl⟩ := hu.form
    have cP := fun W h => impl_putMap (.slice ua ms.length uc) ms m W h (by omega)
    unfold Mp.cells at *
    have hb2 := below_box w1 m
    obtain ⟨c0, c1, c2⟩ := cel3 (Cel.new w1 26 #[.int .i64 m.sub, .int .i64 m.seq, .int .i64 m.len])
    have cP2 := cP _ (hu.below hb2)
    have HW := Lib.hid (And.intro (hu.below hb2) (And.intro hl (Below.then_ hb1 hb2)))
    clear hu hl hb1 hb2 cP
    by_cases hok : mapsOk (longer ms m) = true
    · have hp : putMap ms m = (longer ms m, true) := by unfold putMap; rw [if_pos hok]
      rw [hp] at cP2
      have hm := longer_mem ms m
      have hfine := (mapsOk_fine _ hok).2 m hm
      have hLl := longer_length ms m
      generalize longer ms m = L at *
      clear hp
      have hfb : 0 ≤ m.sub ∧ m.sub ≤ 1000000000 ∧ 0 ≤ m.seq ∧ m.seq ≤ 1000000000 ∧ 1 ≤ m.len ∧ m.len ≤ 100000 := hfine
      have hh := fine_holds hfine
      have e1 : IntKind.i64.wrap (m.sub + m.len) = m.sub + m.len := IntWalk.i64_in _ (by omega)
      have e2 : IntKind.i64.wrap (m.sub + m.len - 1) = m.sub + m.len - 1 := IntWalk.i64_in _ (by omega)
      have e3 : IntKind.i64.wrap (m.seq + m.len) = m.seq + m.len := IntWalk.i64_in _ (by omega)
      have e4 : IntKind.i64.wrap (m.seq + m.len - 1) = m.seq + m.len - 1 := IntWalk.i64_in _ (by omega)
      have e5 : IntKind.i64.wrap ((ms.length : Int) + 1) = (ms.length : Int) + 1 := IntWalk.i64_in _ (by have := HW.out.2.1; omega)
      have s1 : seqAt L (m.sub + m.len - 1) = (m.seq + m.len - 1, true) := by rw [seqAt_mem hok hm hh.2, show m.seq + (m.sub + m.len - 1) - m.sub = m.seq + m.len - 1 by omega]
      have s2 : seqAt (runs L) m.sub = (m.seq, true) := by rw [runs_seq hok, seqAt_mem hok hm hh.1, show m.seq + m.sub - m.sub = m.seq by omega]
      have s3 : seqAt (cutMaps L (m.sub + m.len)) m.sub = (0, false) := seqAt_cut hok hm
      have hrl := runs_len L
      have hcl := cutMaps_len L (m.sub + m.len)
      have hL2 : L.length ≤ 1048576 := by have := HW.out.2.1; omega
      have k1 := fun u W h => impl_seqAt u L (m.sub + m.len - 1) W h (by omega)
      have k2 := fun u W h => impl_runs u L W h hL2
      have k3 := fun u W h => impl_seqAt u (runs L) m.sub W h (by omega)
      have k4 := fun u W h => impl_cutMaps u L (m.sub + m.len) W h hL2
      have k5 := fun u W h => impl_seqAt u (cutMaps L (m.sub + m.len)) m.sub W h (by omega)
      have k6 := fun u W h => spec_mapsOk u L W h (by omega)
      have k7 := fun u W h => impl_mapsOk u (runs L) W h (by omega)
      simp only [s1] at k1
      simp only [s2] at k3
      simp only [s3] at k5
      simp only [hok] at k6
      simp only [runs_ok hok] at k7
      have q6 : ((runs L).length : Int) ≤ (ms.length : Int) + 1 := by omega
      have q7 : (L.length : Int) = (ms.length : Int) + 1 := by omega
      have HQ := Lib.hid q7
      have hLL := Lib.hid hLl
      generalize runs L = R at *
      generalize cutMaps L (m.sub + m.len) = C at *
      clear s1 s2 s3 hok hm hfine hfb hh hrl hcl hL2 hLl q7
      go_wp2_with (fail)
      with_reducible refine cP2.mono ?_
      rintro e w3 ⟨o, rfl, hO, hb3⟩
      obtain ⟨oa, oc, rfl, -⟩ := hO.form
      replace c0 := keepc c0 hb3
      replace c1 := keepc c1 hb3
      replace c2 := keepc c2 hb3
      have hRo := hO.rd
      have H3 := Lib.hid (Below.then_ HW.out.2.2 hb3)
      clear cP2 hb3 hO HW
      go_wp2_with (fail)
      with_reducible refine (k1 _ _ hRo).mono ?_
      rintro e w4 ⟨rfl, hb⟩
      replace c0 := keepc c0 hb
      replace c1 := keepc c1 hb
      replace c2 := keepc c2 hb
      replace hRo := hRo.below hb
      have H4 := Lib.hid (Below.then_ H3.out hb)
      clear H3 hb
      go_wp2_with (fail)
      with_reducible refine (k2 _ _ hRo).mono ?_
      rintro e w5 ⟨r, rfl, hr, hb⟩
      obtain ⟨ra, rc, rfl, -⟩ := hr.form
      have hRr := hr.rd
      replace c0 := keepc c0 hb
      replace c1 := keepc c1 hb
      replace c2 := keepc c2 hb
      replace hRo := hRo.below hb
      have H5 := Lib.hid (Below.then_ H4.out hb)
      clear H4 hb hr
      go_wp2_with (fail)
      with_reducible refine (k3 _ _ hRr).mono ?_
      rintro e w6 ⟨rfl, hb⟩
      replace c0 := keepc c0 hb
      replace c1 := keepc c1 hb
      replace c2 := keepc c2 hb
      replace hRo := hRo.below hb
      replace hRr := hRr.below hb
      have H6 := Lib.hid (Below.then_ H5.out hb)
      clear H5 hb
      go_wp2_with (fail)
      with_reducible refine (k4 _ _ hRo).mono ?_
      rintro e w7 ⟨t, rfl, ht, hb⟩
      obtain ⟨ta, tc, rfl, -⟩ := ht.form
      have hRt := ht.rd
      replace c0 := keepc c0 hb
      replace c1 := keepc c1 hb
      replace c2 := keepc c2 hb
      replace hRo := hRo.below hb
      replace hRr := hRr.below hb
      have H7 := Lib.hid (Below.then_ H6.out hb)
      clear H6 hb ht
      go_wp2_with (fail)
      with_reducible refine (k5 _ _ hRt).mono ?_
      rintro e w8 ⟨rfl, hb⟩
      replace c0 := keepc c0 hb
      replace c1 := keepc c1 hb
      replace c2 := keepc c2 hb
      replace hRo := hRo.below hb
      replace hRr := hRr.below hb
      have H8 := Lib.hid (Below.then_ H7.out hb)
      clear H7 hb hRt
      go_wp2_with (fail)
      with_reducible refine (k6 _ _ hRo).mono ?_
      rintro e w9 ⟨rfl, hb⟩
      replace c0 := keepc c0 hb
      replace c1 := keepc c1 hb
      replace c2 := keepc c2 hb
      replace hRr := hRr.below hb
      have H9 := Lib.hid (Below.then_ H8.out hb)
      clear H8 hb hRo
      go_wp2_with (fail)
      with_reducible refine (k7 _ _ hRr).mono ?_
      rintro e w10 ⟨rfl, hb⟩
      replace c0 := keepc c0 hb
      replace c1 := keepc c1 hb
      replace c2 := keepc c2 hb
      have H10 := Lib.hid (Below.then_ H9.out hb)
      clear H9 hb hRr k1 k2 k3 k4 k5 k6 k7
      have q7 := HQ.out
      go_wp2_with (fail)
      go_ret
      exact ⟨rfl, H10.out⟩
    · have hp : putMap ms m = (ms, false) := by unfold putMap; rw [if_neg hok]
      rw [hp] at cP2
      clear hp hok
      have cE := fun u1 u2 W h1 h2 => same_maps u1 u2 ms W h1 h2 (by have := HW.out.2.1; omega)
      go_wp2_with (fail)
      with_reducible refine cP2.mono ?_
      rintro e w3 ⟨o, rfl, hO, hb3⟩
      obtain ⟨oa, oc, rfl, -⟩ := hO.form
      have hRo := hO.rd
      have hRu := HW.out.1.below hb3
      have H3 := Lib.hid (Below.then_ HW.out.2.2 hb3)
      clear cP2 hb3 hO HW c0 c1 c2
      go_wp2_with (fail)
      with_reducible refine (cE _ _ _ hRo hRu).mono ?_
      rintro e w4 ⟨rfl, hb⟩
      have H4 := Lib.hid (Below.then_ H3.out hb)
      clear H3 hb hRo hRu cE
      go_wp2_with (fail)
      go_ret
      exact ⟨rfl, H4.out⟩
end Go.Proofs.Ytjnobggefofjcaa
