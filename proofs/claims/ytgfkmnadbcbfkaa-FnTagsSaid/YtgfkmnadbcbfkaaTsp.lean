import Derived.Test.YtgfkmnadbcbfkaaTif
import Derived.Test.YtgfkmnadbcbfkaaGtb
import Derived.Test.YtgfkmnadbcbfkaaQdg
namespace Go.Proofs.Ytgfkmnadbcbfkaa
open Go.RowKit

set_option maxRecDepth 100000 in
set_option maxHeartbeats 1000000 in
theorem spec_has (v : Value) (zs : List Int) (n : Int) (w : World) (hv : RdE intK w v zs) (hn : zs.length ≤ 9223372036854775807) :
    Calls Try.prog 40 #[v, .int .i64 n] w fun e w' => e = .returned (.bool (decide (n ∈ zs))) ∧ w = w' := by
  obtain ⟨va, vc, rfl⟩ := hv.form
  obtain ⟨r, hr⟩ : ∃ r, decide (n ∈ zs) = r := ⟨_, rfl⟩
  rw [hr]
  have HR := Lib.hid hr
  clear hr
  go_enter Try.func40, Try.ntmps40
  go_wp2_with (fail)
  go_loopw [5] (fun i wr => ∃ k : Nat, k ≤ zs.length ∧ i = .int .i64 k ∧ (∀ j (_ : j < k) (h : j < zs.length), ¬ zs[j] = n) ∧ wr = w) (fun i _ => zs.length - (intOf i).toNat)
  case atStart => exact ⟨0, by omega, rfl, fun j hj => by omega, rfl⟩
  case round =>
    obtain ⟨k, hk, rfl, hne, hW⟩ := hrel
    subst hW
    by_cases hlt : k < zs.length
    · have q : (0 : Int) ≤ (k : Int) ∧ (k : Int) < (zs.length : Int) := by omega
      obtain ⟨b, off, ha, -, k0⟩ := int_at hv k hlt
      subst ha
      have hm : zs[k] ∈ zs := List.getElem_mem hlt
      obtain ⟨y, hy⟩ : ∃ y, zs[k] = y := ⟨_, rfl⟩
      rw [hy] at k0 hm
      have HX := Lib.hid (And.intro hy hne)
      clear hy hne
      by_cases hxy : y = n
      · obtain rfl : true = r := by rw [← HR.out, ← hxy]; exact (decide_eq_true hm).symm
        subst hxy
        clear hm HR
        go_wp2_with (fail)
        go_ret
        exact ⟨rfl, rfl⟩
      · clear hm
        go_wp2_with (fail)
        go_roundw
        case rel =>
          refine ⟨k + 1, by omega, by go_num, fun j hj hl => ?_, trivial⟩
          by_cases hjk : j = k
          · subst hjk
            rw [HX.out.1]
            exact hxy
          · exact HX.out.2 j (by omega) hl
        case measure => simp [intOf]; omega
    · obtain rfl : k = zs.length := by omega
      have q : ¬ (zs.length : Int) < (zs.length : Int) := by omega
      obtain rfl : false = r := by
        rw [← HR.out]
        refine (decide_eq_false fun hm => ?_).symm
        obtain ⟨j, hj, he⟩ := List.getElem_of_mem hm
        exact hne j hj hj he
      clear hne HR
      go_wp2_with (fail)
      go_ret
      exact ⟨rfl, rfl⟩

set_option maxRecDepth 100000 in
set_option maxHeartbeats 4000000 in
theorem spec_canMake (ku tu : Value) (ks : List Int) (ts : List Tv) (t : Tv) (w : World) (hk : RdE intK w ku ks) (ht : RdT w tu ts) (hkn : ks.length ≤ 9223372036854775807) (htn : ts.length ≤ 9223372036854775807) :
    Calls Try.prog 24 #[.agg #[ku, tu], .agg #[.int .i64 t.kind, .int .i64 t.one, .int .i64 t.two, .int .i64 t.a, .int .i64 t.b]] w fun e w' => e = .returned (.bool (canMk ks ts t)) ∧ Below w.heap.size w w' := by
  obtain ⟨ka, kc, rfl⟩ := hk.form
  obtain ⟨ta, tc, rfl⟩ := ht.form
  have hb0 : Below w.heap.size w (w.alloc (.cells #[.slice ka ks.length kc, .slice ta ts.length tc] 27)) := below_new _ _
  have hb1 : Below w.heap.size w ((w.alloc (.cells #[.slice ka ks.length kc, .slice ta ts.length tc] 27)).alloc (.cells #[.int .i64 t.kind, .int .i64 t.one, .int .i64 t.two, .int .i64 t.a, .int .i64 t.b] 29)) := hb0.trans ((below_new _ _).mono (by simp))
  have hC0 : Cel ((w.alloc (.cells #[.slice ka ks.length kc, .slice ta ts.length tc] 27)).alloc (.cells #[.int .i64 t.kind, .int .i64 t.one, .int .i64 t.two, .int .i64 t.a, .int .i64 t.b] 29)) w.heap.size 27 #[.slice ka ks.length kc, .slice ta ts.length tc] := (Cel.new w 27 _).below (below_new _ _) (by simp)
  have hC1 : Cel ((w.alloc (.cells #[.slice ka ks.length kc, .slice ta ts.length tc] 27)).alloc (.cells #[.int .i64 t.kind, .int .i64 t.one, .int .i64 t.two, .int .i64 t.a, .int .i64 t.b] 29)) (w.heap.size + 1) 29 #[.int .i64 t.kind, .int .i64 t.one, .int .i64 t.two, .int .i64 t.a, .int .i64 t.b] := by
    have := Cel.new (w.alloc (.cells #[.slice ka ks.length kc, .slice ta ts.length tc] 27)) 29 #[.int .i64 t.kind, .int .i64 t.one, .int .i64 t.two, .int .i64 t.a, .int .i64 t.b]
    rw [show (w.alloc (.cells #[.slice ka ks.length kc, .slice ta ts.length tc] 27)).heap.size = w.heap.size + 1 from by simp] at this
    exact this
  have hk1 := hk.below hb1
  have ht1 := ht.below hb1
  obtain ⟨r, hr⟩ : ∃ r, canMk ks ts t = r := ⟨_, rfl⟩
  rw [hr]
  clear hb0 hk ht
  generalize hW1 : ((w.alloc (.cells #[.slice ka ks.length kc, .slice ta ts.length tc] 27)).alloc (.cells #[.int .i64 t.kind, .int .i64 t.one, .int .i64 t.two, .int .i64 t.a, .int .i64 t.b] 29)) = W1 at *
  have HW1 := Lib.hid hW1
  clear hW1
  obtain ⟨c0, c1⟩ : W1.cell? ⟨w.heap.size, 0, none⟩ = some (.slice ka ks.length kc) ∧ W1.cell? ⟨w.heap.size, 1, none⟩ = some (.slice ta ts.length tc) := ⟨hC0.cell 0, hC0.cell 1⟩
  obtain ⟨t0, t1, t2, t3, t4⟩ := cel5tv hC1
  have hs := fun n W h => spec_has (.slice ka ks.length kc) ks n W h hkn
  have HF := Lib.hid (And.intro hr (And.intro hb1 (And.intro hk1 (And.intro ht1 (And.intro hC0 hC1)))))
  clear hr hb1 hk1 ht1 hC0 hC1
  go_enter Try.func24, Try.ntmps24
  go_upto_region 1 with (fail)
  rw [HW1.out]
  clear HW1
  by_cases hz : t = Tv.zero
  · have he := fun W => eql_tv t Tv.zero W true (by simp [hz])
    dsimp only [Tv.zero] at he
    obtain rfl : true = r := by rw [← HF.out.1]; simp [canMk, hz]
    clear hz
    go_wp2_with (fail)
    go_ret
    exact ⟨rfl, HF.out.2.1⟩
  · have he := fun W => eql_tv t Tv.zero W false (by simp [hz])
    dsimp only [Tv.zero] at he
    have HZ := Lib.hid hz
    clear hz
    have h1c := fun W h => hs t.one W h
    have h2c := fun W h => hs t.two W h
    obtain ⟨o1, ho1⟩ : ∃ o, decide (t.one ∈ ks) = o := ⟨_, rfl⟩
    obtain ⟨o2, ho2⟩ : ∃ o, decide (t.two ∈ ks) = o := ⟨_, rfl⟩
    rw [ho1] at h1c
    rw [ho2] at h2c
    have HO := Lib.hid (And.intro ho1 ho2)
    clear ho1 ho2 hs
    go_wp2_with (fail)
    with_reducible refine (h1c _ HF.out.2.2.1).mono ?_
    rintro e w1 ⟨rfl, hw⟩
    subst hw
    cases o1 with
    | true =>
      go_wp2_with (fail)
      with_reducible refine (h2c _ HF.out.2.2.1).mono ?_
      rintro e w1 ⟨rfl, hw⟩
      subst hw
      cases o2 with
      | true =>
        obtain rfl : true = r := by rw [← HF.out.1]; simp [canMk, of_decide_eq_true HO.out.1, of_decide_eq_true HO.out.2]
        go_wp2_with (fail)
        go_ret
        exact ⟨rfl, HF.out.2.1⟩
      | false =>
        go_wp2_with (fail)
        have HN : Hid (canMk ks ts t = decide (t ∈ ts.take 300)) := Lib.hid (by have h1 := HO.out.1; have h2 := HO.out.2; have h3 := HZ.out; simp_all [canMk])
        have HH := HF
        clear h1c h2c he c0 c1 t0 t1 t2 t3 t4
        go_loopw [5] (fun i wr => ∃ k : Nat, k ≤ ts.length ∧ i = .int .i64 k ∧ (∀ j (_ : j < k) (h : j < ts.length), ¬ ts[j] = t) ∧ RdT wr (.slice ta ts.length tc) ts ∧ Cel wr w.heap.size 27 #[.slice ka ks.length kc, .slice ta ts.length tc] ∧ Cel wr (w.heap.size + 1) 29 #[.int .i64 t.kind, .int .i64 t.one, .int .i64 t.two, .int .i64 t.a, .int .i64 t.b] ∧ Below w.heap.size w wr) (fun i _ => ts.length - (intOf i).toNat)
        case atStart => exact ⟨0, by omega, rfl, fun j hj => by omega, HF.out.2.2.2.1, HF.out.2.2.2.2.1, HF.out.2.2.2.2.2, HF.out.2.1⟩
        case round =>
          obtain ⟨k, hk, rfl, hne, hR, hK, hT, hB⟩ := hrel
          obtain ⟨c0, c1⟩ : wr.cell? ⟨w.heap.size, 0, none⟩ = some (.slice ka ks.length kc) ∧ wr.cell? ⟨w.heap.size, 1, none⟩ = some (.slice ta ts.length tc) := ⟨hK.cell 0, hK.cell 1⟩
          by_cases hlt : k < ts.length
          · have q : (0 : Int) ≤ (k : Int) ∧ (k : Int) < (ts.length : Int) := by omega
            by_cases h300 : k < 300
            · have q3 : (k : Int) < 300 := by omega
              obtain ⟨b, off, ha, -, k0, k1, k2, k3, k4, -⟩ := tv_at (P := Try.prog) hR k hlt
              subst ha
              obtain ⟨t0, t1, t2, t3, t4⟩ := cel5tv hT
              have hin : ts[k] ∈ ts.take 300 := by
                rw [List.mem_take_iff_getElem]
                exact ⟨k, by omega, rfl⟩
              obtain ⟨y, hy⟩ : ∃ y, ts[k] = y := ⟨_, rfl⟩
              rw [hy] at k0 k1 k2 k3 k4 hin
              have HX := Lib.hid (And.intro hy (And.intro hne (And.intro hR (And.intro hK (And.intro hT hB)))))
              clear hy hne hR hK hT hB h300
              by_cases hxy : y = t
              · have he := fun W => eql_tv y t W true (by simp [hxy])
                obtain rfl : true = r := by rw [← HF.out.1, HN.out, ← hxy]; exact (decide_eq_true hin).symm
                clear hxy hin
                go_wp2_with (fail)
                go_quiet (fail)
                go_wp2_with (fail)
                go_ret
                exact ⟨rfl, Below.then_ HX.out.2.2.2.2.2 (dN_rbelow _ _)⟩
              · have he := fun W => eql_tv y t W false (by simp [hxy])
                have HM := Lib.hid hxy
                clear hxy hin
                go_wp2_with (fail)
                go_quiet (fail)
                go_wp2_with (fail)
                go_roundw
                case rel =>
                  refine ⟨k + 1, by omega, by go_num, fun j hj hl => ?_, HX.out.2.2.1.drewN, HX.out.2.2.2.1.drewN _, HX.out.2.2.2.2.1.drewN _, Below.then_ HX.out.2.2.2.2.2 (dN_rbelow _ _)⟩
                  by_cases hjk : j = k
                  · subst hjk
                    rw [HX.out.1]
                    exact HM.out
                  · exact HX.out.2.1 j (by omega) hl
                case measure => simp [intOf]; omega
            · have q3 : ¬ (k : Int) < 300 := by omega
              obtain rfl : false = r := by
                rw [← HF.out.1, HN.out]
                refine (decide_eq_false fun hm => ?_).symm
                obtain ⟨j, hj, he⟩ := List.getElem_of_mem hm
                rw [List.length_take] at hj
                rw [List.getElem_take] at he
                exact hne j (by omega) (by omega) he
              have HM := Lib.hid hB
              clear hR hK hT hne hB h300
              go_wp2_with (fail)
              go_ret
              exact ⟨rfl, HM.out⟩
          · obtain rfl : k = ts.length := by omega
            have q : ¬ (ts.length : Int) < (ts.length : Int) := by omega
            obtain rfl : false = r := by
              rw [← HF.out.1, HN.out]
              refine (decide_eq_false fun hm => ?_).symm
              obtain ⟨j, hj, he⟩ := List.getElem_of_mem hm
              rw [List.length_take] at hj
              rw [List.getElem_take] at he
              exact hne j (by omega) (by omega) he
            have HM := Lib.hid hB
            clear hR hK hT hne hB
            go_wp2_with (fail)
            go_ret
            exact ⟨rfl, HM.out⟩
    | false =>
      go_wp2_with (fail)
      have HN : Hid (canMk ks ts t = decide (t ∈ ts.take 300)) := Lib.hid (by have h1 := HO.out.1; have h2 := HO.out.2; have h3 := HZ.out; simp_all [canMk])
      have HH := HF
      clear h1c h2c he c0 c1 t0 t1 t2 t3 t4
      go_loopw [5] (fun i wr => ∃ k : Nat, k ≤ ts.length ∧ i = .int .i64 k ∧ (∀ j (_ : j < k) (h : j < ts.length), ¬ ts[j] = t) ∧ RdT wr (.slice ta ts.length tc) ts ∧ Cel wr w.heap.size 27 #[.slice ka ks.length kc, .slice ta ts.length tc] ∧ Cel wr (w.heap.size + 1) 29 #[.int .i64 t.kind, .int .i64 t.one, .int .i64 t.two, .int .i64 t.a, .int .i64 t.b] ∧ Below w.heap.size w wr) (fun i _ => ts.length - (intOf i).toNat)
      case atStart => exact ⟨0, by omega, rfl, fun j hj => by omega, HF.out.2.2.2.1, HF.out.2.2.2.2.1, HF.out.2.2.2.2.2, HF.out.2.1⟩
      case round =>
        obtain ⟨k, hk, rfl, hne, hR, hK, hT, hB⟩ := hrel
        obtain ⟨c0, c1⟩ : wr.cell? ⟨w.heap.size, 0, none⟩ = some (.slice ka ks.length kc) ∧ wr.cell? ⟨w.heap.size, 1, none⟩ = some (.slice ta ts.length tc) := ⟨hK.cell 0, hK.cell 1⟩
        by_cases hlt : k < ts.length
        · have q : (0 : Int) ≤ (k : Int) ∧ (k : Int) < (ts.length : Int) := by omega
          by_cases h300 : k < 300
          · have q3 : (k : Int) < 300 := by omega
            obtain ⟨b, off, ha, -, k0, k1, k2, k3, k4, -⟩ := tv_at (P := Try.prog) hR k hlt
            subst ha
            obtain ⟨t0, t1, t2, t3, t4⟩ := cel5tv hT
            have hin : ts[k] ∈ ts.take 300 := by
              rw [List.mem_take_iff_getElem]
              exact ⟨k, by omega, rfl⟩
            obtain ⟨y, hy⟩ : ∃ y, ts[k] = y := ⟨_, rfl⟩
            rw [hy] at k0 k1 k2 k3 k4 hin
            have HX := Lib.hid (And.intro hy (And.intro hne (And.intro hR (And.intro hK (And.intro hT hB)))))
            clear hy hne hR hK hT hB h300
            by_cases hxy : y = t
            · have he := fun W => eql_tv y t W true (by simp [hxy])
              obtain rfl : true = r := by rw [← HF.out.1, HN.out, ← hxy]; exact (decide_eq_true hin).symm
              clear hxy hin
              go_wp2_with (fail)
              go_quiet (fail)
              go_wp2_with (fail)
              go_ret
              exact ⟨rfl, Below.then_ HX.out.2.2.2.2.2 (dN_rbelow _ _)⟩
            · have he := fun W => eql_tv y t W false (by simp [hxy])
              have HM := Lib.hid hxy
              clear hxy hin
              go_wp2_with (fail)
              go_quiet (fail)
              go_wp2_with (fail)
              go_roundw
              case rel =>
                refine ⟨k + 1, by omega, by go_num, fun j hj hl => ?_, HX.out.2.2.1.drewN, HX.out.2.2.2.1.drewN _, HX.out.2.2.2.2.1.drewN _, Below.then_ HX.out.2.2.2.2.2 (dN_rbelow _ _)⟩
                by_cases hjk : j = k
                · subst hjk
                  rw [HX.out.1]
                  exact HM.out
                · exact HX.out.2.1 j (by omega) hl
              case measure => simp [intOf]; omega
          · have q3 : ¬ (k : Int) < 300 := by omega
            obtain rfl : false = r := by
              rw [← HF.out.1, HN.out]
              refine (decide_eq_false fun hm => ?_).symm
              obtain ⟨j, hj, he⟩ := List.getElem_of_mem hm
              rw [List.length_take] at hj
              rw [List.getElem_take] at he
              exact hne j (by omega) (by omega) he
            have HM := Lib.hid hB
            clear hR hK hT hne hB h300
            go_wp2_with (fail)
            go_ret
            exact ⟨rfl, HM.out⟩
        · obtain rfl : k = ts.length := by omega
          have q : ¬ (ts.length : Int) < (ts.length : Int) := by omega
          obtain rfl : false = r := by
            rw [← HF.out.1, HN.out]
            refine (decide_eq_false fun hm => ?_).symm
            obtain ⟨j, hj, he⟩ := List.getElem_of_mem hm
            rw [List.length_take] at hj
            rw [List.getElem_take] at he
            exact hne j (by omega) (by omega) he
          have HM := Lib.hid hB
          clear hR hK hT hne hB
          go_wp2_with (fail)
          go_ret
          exact ⟨rfl, HM.out⟩
end Go.Proofs.Ytgfkmnadbcbfkaa
