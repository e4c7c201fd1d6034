import Derived.Test.YtoeflkmhofkiaaaLtoz
import Derived.Test.YtoeflkmhofkiaaaZ4
import Derived.Test.YtoeflkmhofkiaaaZ3
namespace Go.Proofs.Ytoeflkmhofkiaaa
open Go.RowKit
set_option maxRecDepth 100000

theorem lvC_all (m : Lv) : (lvC m).all (·.oneCell') = true := by rw [lvC_eq]; simp [Value.oneCell']
theorem lvC_size (m : Lv) : (lvC m).size = 19 := by rw [lvC_eq]; rfl
theorem lvC_info (m : Lv) : (Try.prog.info? 41).map (·.size) = some (lvC m).size := by rw [lvC_size]; kernel_rfl
theorem lvC_infoL (m : Lv) : (Try.prog.info? 61).map (·.size) = some (lvC m).size := by rw [lvC_size]; kernel_rfl

set_option linter.unusedSimpArgs false in
set_option maxRecDepth 100000 in
set_option maxHeartbeats 4000000 in
theorem spec_letterOk (m : Lv) (w : World) (hs : m.text.size ≤ 9223372036854775807) :
    Calls Try.prog 25 #[.agg #[.int .i64 m.kind, .int .i64 m.frm, .int .i64 m.to, .int .i64 m.port, .int .i64 m.key, .int .i64 m.token, .int .i64 m.nonce, .int .i64 m.give, .int .i64 m.sign, .int .i64 m.tag.kind, .int .i64 m.tag.one, .int .i64 m.tag.two, .int .i64 m.tag.a, .int .i64 m.tag.b, .int .i64 m.id, .int .i64 m.addr, .bool m.spare, .int .i64 m.pos, .string m.text]] w fun e w' => e = .returned (.bool (okL m)) ∧ Below w.heap.size w w' := by
  have hb := below_lv w m
  have hC := Cel.new w 41 #[.int .i64 m.kind, .int .i64 m.frm, .int .i64 m.to, .int .i64 m.port, .int .i64 m.key, .int .i64 m.token, .int .i64 m.nonce, .int .i64 m.give, .int .i64 m.sign, .int .i64 m.tag.kind, .int .i64 m.tag.one, .int .i64 m.tag.two, .int .i64 m.tag.a, .int .i64 m.tag.b, .int .i64 m.id, .int .i64 m.addr, .bool m.spare, .int .i64 m.pos, .string m.text]
  have hb2 := Below.then_ hb (below_new (w.alloc (.cells #[.int .i64 m.kind, .int .i64 m.frm, .int .i64 m.to, .int .i64 m.port, .int .i64 m.key, .int .i64 m.token, .int .i64 m.nonce, .int .i64 m.give, .int .i64 m.sign, .int .i64 m.tag.kind, .int .i64 m.tag.one, .int .i64 m.tag.two, .int .i64 m.tag.a, .int .i64 m.tag.b, .int .i64 m.id, .int .i64 m.addr, .bool m.spare, .int .i64 m.pos, .string m.text] 41)) (.cells #[.int .i64 m.frm, .int .i64 m.to, .int .i64 m.port, .int .i64 m.key, .int .i64 m.token, .int .i64 m.nonce, .int .i64 m.give, .int .i64 m.sign, .int .i64 m.id, .int .i64 m.addr, .int .i64 m.pos, .int .i64 m.tag.kind, .int .i64 m.tag.one, .int .i64 m.tag.two, .int .i64 m.tag.a, .int .i64 m.tag.b] 3))
  have hz : RdE intK ((w.alloc (.cells #[.int .i64 m.kind, .int .i64 m.frm, .int .i64 m.to, .int .i64 m.port, .int .i64 m.key, .int .i64 m.token, .int .i64 m.nonce, .int .i64 m.give, .int .i64 m.sign, .int .i64 m.tag.kind, .int .i64 m.tag.one, .int .i64 m.tag.two, .int .i64 m.tag.a, .int .i64 m.tag.b, .int .i64 m.id, .int .i64 m.addr, .bool m.spare, .int .i64 m.pos, .string m.text] 41)).alloc (.cells #[.int .i64 m.frm, .int .i64 m.to, .int .i64 m.port, .int .i64 m.key, .int .i64 m.token, .int .i64 m.nonce, .int .i64 m.give, .int .i64 m.sign, .int .i64 m.id, .int .i64 m.addr, .int .i64 m.pos, .int .i64 m.tag.kind, .int .i64 m.tag.one, .int .i64 m.tag.two, .int .i64 m.tag.a, .int .i64 m.tag.b] 3)) (.slice (some ⟨w.heap.size + 1, 0, none⟩) 16 16) (numsL m) := by
    have h := (OwnE.of_cel (K := intK) (B := 0) (C := (w.alloc (.cells #[.int .i64 m.kind, .int .i64 m.frm, .int .i64 m.to, .int .i64 m.port, .int .i64 m.key, .int .i64 m.token, .int .i64 m.nonce, .int .i64 m.give, .int .i64 m.sign, .int .i64 m.tag.kind, .int .i64 m.tag.one, .int .i64 m.tag.two, .int .i64 m.tag.a, .int .i64 m.tag.b, .int .i64 m.id, .int .i64 m.addr, .bool m.spare, .int .i64 m.pos, .string m.text] 41)).heap.size + 1) (xs := numsL m) (Cel.new (w.alloc (.cells #[.int .i64 m.kind, .int .i64 m.frm, .int .i64 m.to, .int .i64 m.port, .int .i64 m.key, .int .i64 m.token, .int .i64 m.nonce, .int .i64 m.give, .int .i64 m.sign, .int .i64 m.tag.kind, .int .i64 m.tag.one, .int .i64 m.tag.two, .int .i64 m.tag.a, .int .i64 m.tag.b, .int .i64 m.id, .int .i64 m.addr, .bool m.spare, .int .i64 m.pos, .string m.text] 41)) 3 #[.int .i64 m.frm, .int .i64 m.to, .int .i64 m.port, .int .i64 m.key, .int .i64 m.token, .int .i64 m.nonce, .int .i64 m.give, .int .i64 m.sign, .int .i64 m.id, .int .i64 m.addr, .int .i64 m.pos, .int .i64 m.tag.kind, .int .i64 m.tag.one, .int .i64 m.tag.two, .int .i64 m.tag.a, .int .i64 m.tag.b]) (Nat.zero_le _) (Nat.lt_succ_self _) (by simp [maxLen, numsL])).rd
    rw [World.size_alloc] at h
    exact h
  have hl16 : (numsL m).length = 16 := rfl
  obtain ⟨res, hres⟩ : ∃ res, okL m = res := ⟨_, rfl⟩
  rw [hres]
  have HR := Lib.hid hres
  obtain ⟨k0, k1, k2, k3, k4, k5, k6, k7, k8, k9, k10, k11, k12, k13, k14, k15, k16, k17, k18⟩ := cel19lv hC
  have HB := Lib.hid (And.intro hb (And.intro hb2 hz))
  have c1 := fun W => spec_in m.kind 1 13 W
  clear hb hC hb2 hz hres
  by_cases h1 : 1 ≤ m.kind ∧ m.kind ≤ 13
  · rw [decide_eq_true h1] at c1
    by_cases h2 : m.text.size ≤ 20
    · have q2 : ¬ (20 : Int) < (m.text.size : Int) := by omega
      have HO := Lib.hid (show (numsL m).all (fun n => inN n 0 1000000000) = res from by rw [← HR.out]; unfold okL inN; rw [decide_eq_true h1, decide_eq_true h2]; rfl)
      clear h1 h2 HR
      go_enter Try.func25, Try.ntmps25
      go_wp2_with (fail)
      with_reducible refine (c1 _).mono ?_
      rintro e w1 ⟨rfl, rfl⟩
      clear c1
      go_wp2_with (fail)
      clear k0 k1 k2 k3 k4 k5 k6 k7 k8 k9 k10 k11 k12 k13 k14 k15 k16 k17 k18
      generalize numsL m = zs at *
      generalize (w.alloc (.cells #[.int .i64 m.kind, .int .i64 m.frm, .int .i64 m.to, .int .i64 m.port, .int .i64 m.key, .int .i64 m.token, .int .i64 m.nonce, .int .i64 m.give, .int .i64 m.sign, .int .i64 m.tag.kind, .int .i64 m.tag.one, .int .i64 m.tag.two, .int .i64 m.tag.a, .int .i64 m.tag.b, .int .i64 m.id, .int .i64 m.addr, .bool m.spare, .int .i64 m.pos, .string m.text] 41)).alloc (.cells #[.int .i64 m.frm, .int .i64 m.to, .int .i64 m.port, .int .i64 m.key, .int .i64 m.token, .int .i64 m.nonce, .int .i64 m.give, .int .i64 m.sign, .int .i64 m.id, .int .i64 m.addr, .int .i64 m.pos, .int .i64 m.tag.kind, .int .i64 m.tag.one, .int .i64 m.tag.two, .int .i64 m.tag.a, .int .i64 m.tag.b] 3) = w2 at *
      generalize w.heap.size + 1 = b2 at *
      go_loopw [4] (fun i wr => ∃ k : Nat, k ≤ 16 ∧ i = .int .i64 k ∧ (∀ j (_ : j < k) (h : j < zs.length), inN zs[j] 0 1000000000 = true) ∧ wr = w2) (fun i _ => 16 - (intOf i).toNat)
      case atStart => exact ⟨0, by omega, rfl, fun j hj => by omega, rfl⟩
      case round =>
        obtain ⟨k, hk, rfl, hne, hW⟩ := hrel
        subst hW
        by_cases hlt : k < 16
        · have q : (0 : Int) ≤ (k : Int) ∧ (k : Int) < 16 := by omega
          obtain ⟨b, off, ha, -, k0⟩ := int_at HB.out.2.2 k (by omega)
          injection ha with ha
          injection ha with ha1 ha2
          subst ha1 ha2
          rw [Nat.zero_add] at k0
          have hm : zs[k] ∈ zs := List.getElem_mem (by omega)
          have hxe : ∃ y, zs[k] = y := ⟨_, rfl⟩
          obtain ⟨y, hy⟩ := hxe
          rw [hy] at k0 hm
          have c2 := fun W => spec_num y W
          have hyN : numH y = inN y 0 1000000000 := rfl
          rw [hyN] at c2
          have HX := Lib.hid (And.intro hy (And.intro hne hm))
          clear hy hne hm hyN
          cases hb : inN y 0 1000000000 with
          | false =>
            rw [hb] at c2
            obtain rfl : false = res := by
              rw [← HO.out]
              refine (Bool.eq_false_iff.2 fun h => ?_).symm
              have := List.all_eq_true.1 h y HX.out.2.2
              rw [hb] at this
              cases this
            clear hb HO
            go_wp2_with (fail)
            with_reducible refine (c2 _).mono ?_
            rintro e w3 ⟨rfl, rfl⟩
            go_wp2_with (fail)
            go_ret
            exact ⟨rfl, HB.out.2.1⟩
          | true =>
            rw [hb] at c2
            have HY := Lib.hid hb
            clear hb
            go_wp2_with (fail)
            with_reducible refine (c2 _).mono ?_
            rintro e w3 ⟨rfl, rfl⟩
            go_wp2_with (fail)
            go_roundw
            case rel =>
              refine ⟨k + 1, by omega, by go_num, fun j hj hl => ?_, trivial⟩
              by_cases hjk : j = k
              · subst hjk
                rw [HX.out.1]
                exact HY.out
              · exact HX.out.2.1 j (by omega) hl
            case measure => simp [intOf]; omega
        · obtain rfl : k = 16 := by omega
          have q : ¬ (16 : Int) < 16 := by omega
          obtain rfl : true = res := by
            rw [← HO.out]
            refine (List.all_eq_true.2 fun y hy => ?_).symm
            obtain ⟨j, hj, he⟩ := List.getElem_of_mem hy
            rw [← he]
            exact hne j (by omega) hj
          clear hne HO
          go_wp2_with (fail)
          go_ret
          exact ⟨rfl, HB.out.2.1⟩
    · have q2 : (20 : Int) < (m.text.size : Int) := by omega
      obtain rfl : false = res := by rw [← HR.out]; unfold okL; rw [decide_eq_false h2]; simp
      clear h1 h2 HR
      go_enter Try.func25, Try.ntmps25
      go_wp2_with (fail)
      with_reducible refine (c1 _).mono ?_
      rintro e w1 ⟨rfl, rfl⟩
      go_wp2_with (fail)
      go_ret
      exact ⟨rfl, HB.out.1⟩
  · rw [decide_eq_false h1] at c1
    obtain rfl : false = res := by rw [← HR.out]; unfold okL inN; rw [decide_eq_false h1]; rfl
    clear h1 HR
    go_enter Try.func25, Try.ntmps25
    go_wp2_with (fail)
    with_reducible refine (c1 _).mono ?_
    rintro e w1 ⟨rfl, rfl⟩
    go_wp2_with (fail)
    go_ret
    exact ⟨rfl, HB.out.1⟩

set_option linter.unusedSimpArgs false in
set_option maxRecDepth 100000 in
set_option maxHeartbeats 4000000 in
theorem spec_roadOf (m : Lv) (w : World) :
    Calls Try.prog 36 #[.agg #[.int .i64 m.kind, .int .i64 m.frm, .int .i64 m.to, .int .i64 m.port, .int .i64 m.key, .int .i64 m.token, .int .i64 m.nonce, .int .i64 m.give, .int .i64 m.sign, .int .i64 m.tag.kind, .int .i64 m.tag.one, .int .i64 m.tag.two, .int .i64 m.tag.a, .int .i64 m.tag.b, .int .i64 m.id, .int .i64 m.addr, .bool m.spare, .int .i64 m.pos, .string m.text]] w fun e w' => e = .returned (.agg #[.int .i64 m.to, .int .i64 m.frm, .int .i64 m.port]) ∧ Below w.heap.size w w' := by
  have hb1 := below_lv w m
  have hC := (Cel.new w 41 #[.int .i64 m.kind, .int .i64 m.frm, .int .i64 m.to, .int .i64 m.port, .int .i64 m.key, .int .i64 m.token, .int .i64 m.nonce, .int .i64 m.give, .int .i64 m.sign, .int .i64 m.tag.kind, .int .i64 m.tag.one, .int .i64 m.tag.two, .int .i64 m.tag.a, .int .i64 m.tag.b, .int .i64 m.id, .int .i64 m.addr, .bool m.spare, .int .i64 m.pos, .string m.text]).alloc (.cells #[.int .i64 0, .int .i64 0, .int .i64 0] 26)
  have hD := Cel.new (w.alloc (.cells #[.int .i64 m.kind, .int .i64 m.frm, .int .i64 m.to, .int .i64 m.port, .int .i64 m.key, .int .i64 m.token, .int .i64 m.nonce, .int .i64 m.give, .int .i64 m.sign, .int .i64 m.tag.kind, .int .i64 m.tag.one, .int .i64 m.tag.two, .int .i64 m.tag.a, .int .i64 m.tag.b, .int .i64 m.id, .int .i64 m.addr, .bool m.spare, .int .i64 m.pos, .string m.text] 41)) 26 #[.int .i64 0, .int .i64 0, .int .i64 0]
  have hb2 := Below.then_ hb1 (below_new (w.alloc (.cells #[.int .i64 m.kind, .int .i64 m.frm, .int .i64 m.to, .int .i64 m.port, .int .i64 m.key, .int .i64 m.token, .int .i64 m.nonce, .int .i64 m.give, .int .i64 m.sign, .int .i64 m.tag.kind, .int .i64 m.tag.one, .int .i64 m.tag.two, .int .i64 m.tag.a, .int .i64 m.tag.b, .int .i64 m.id, .int .i64 m.addr, .bool m.spare, .int .i64 m.pos, .string m.text] 41)) (.cells #[.int .i64 0, .int .i64 0, .int .i64 0] 26))
  rw [World.size_alloc] at hD
  obtain ⟨W0, hW0⟩ : ∃ W0, (w.alloc (.cells #[.int .i64 m.kind, .int .i64 m.frm, .int .i64 m.to, .int .i64 m.port, .int .i64 m.key, .int .i64 m.token, .int .i64 m.nonce, .int .i64 m.give, .int .i64 m.sign, .int .i64 m.tag.kind, .int .i64 m.tag.one, .int .i64 m.tag.two, .int .i64 m.tag.a, .int .i64 m.tag.b, .int .i64 m.id, .int .i64 m.addr, .bool m.spare, .int .i64 m.pos, .string m.text] 41)).alloc (.cells #[.int .i64 0, .int .i64 0, .int .i64 0] 26) = W0 := ⟨_, rfl⟩
  rw [hW0] at hC hD hb2
  have HW := Lib.hid hW0
  have k1 : W0.cell? ⟨w.heap.size, 1, none⟩ = some (.int .i64 m.frm) := hC.cell 1
  have k2 : W0.cell? ⟨w.heap.size, 2, none⟩ = some (.int .i64 m.to) := hC.cell 2
  have k3 : W0.cell? ⟨w.heap.size, 3, none⟩ = some (.int .i64 m.port) := hC.cell 3
  obtain ⟨q0, q1, q2⟩ := cel3r hD
  have f0 := hD.frozen 0
  have f1 := hD.frozen 1
  have f2 := hD.frozen 2
  have HF := Lib.hid (And.intro (((hD.set 0 (.int .i64 m.to)).set 1 (.int .i64 m.frm)).set 2 (.int .i64 m.port)) (hb2.trans (esetC_below (w.heap.size + 1) w.heap.size (Nat.le_succ _) 0 [.int .i64 m.to, .int .i64 m.frm, .int .i64 m.port] W0)))
  clear hb1 hC hD hb2 hW0
  go_enter Try.func36, Try.ntmps36
  go_upto_region 1 with (fail)
  rw [HW.out]
  clear HW
  go_wp2_with (fail)
  refine bodyPost_ret (Cel.result HF.out.1 rfl _ rfl Try.underlying26 rfl (by show _ = some 3; kernel_rfl)) rfl ⟨rfl, HF.out.2⟩

set_option linter.unusedSimpArgs false in
set_option maxRecDepth 100000 in
set_option maxHeartbeats 4000000 in
theorem spec_onRoad (k : Int) (w : World) :
    Calls Try.prog 38 #[.int .i64 k] w fun e w' => e = .returned (.bool (inN k 7 13)) ∧ w = w' := by
  have c1 := fun W => spec_in k 7 13 W
  rw [show decide (7 ≤ k ∧ k ≤ 13) = inN k 7 13 from rfl] at c1
  generalize inN k 7 13 = r at *
  go_enter Try.func38, Try.ntmps38
  go_wp2_with (fail)
  with_reducible refine (c1 _).mono ?_
  rintro e w1 ⟨rfl, rfl⟩
  go_wp2_with (fail)
  go_ret
  exact ⟨rfl, rfl⟩

set_option linter.unusedSimpArgs false in
set_option maxRecDepth 100000 in
set_option maxHeartbeats 4000000 in
theorem spec_between (r : Rv) (m : Lv) (w : World) :
    Calls Try.prog 39 #[.agg #[.int .i64 r.own, .int .i64 r.far, .int .i64 r.port], .agg #[.int .i64 m.kind, .int .i64 m.frm, .int .i64 m.to, .int .i64 m.port, .int .i64 m.key, .int .i64 m.token, .int .i64 m.nonce, .int .i64 m.give, .int .i64 m.sign, .int .i64 m.tag.kind, .int .i64 m.tag.one, .int .i64 m.tag.two, .int .i64 m.tag.a, .int .i64 m.tag.b, .int .i64 m.id, .int .i64 m.addr, .bool m.spare, .int .i64 m.pos, .string m.text]] w fun e w' => e = .returned (.agg #[.int .i64 m.kind, .int .i64 r.own, .int .i64 r.far, .int .i64 r.port, .int .i64 m.key, .int .i64 m.token, .int .i64 m.nonce, .int .i64 m.give, .int .i64 m.sign, .int .i64 m.tag.kind, .int .i64 m.tag.one, .int .i64 m.tag.two, .int .i64 m.tag.a, .int .i64 m.tag.b, .int .i64 m.id, .int .i64 m.addr, .bool m.spare, .int .i64 m.pos, .string m.text]) ∧ Below w.heap.size w w' := by
  have hA0 := ((Cel.new w 26 #[.int .i64 r.own, .int .i64 r.far, .int .i64 r.port]).alloc (.cells #[.int .i64 m.kind, .int .i64 m.frm, .int .i64 m.to, .int .i64 m.port, .int .i64 m.key, .int .i64 m.token, .int .i64 m.nonce, .int .i64 m.give, .int .i64 m.sign, .int .i64 m.tag.kind, .int .i64 m.tag.one, .int .i64 m.tag.two, .int .i64 m.tag.a, .int .i64 m.tag.b, .int .i64 m.id, .int .i64 m.addr, .bool m.spare, .int .i64 m.pos, .string m.text] 41)).alloc (.cells #[.int .i64 0, .int .i64 0, .int .i64 0, .int .i64 0, .int .i64 0, .int .i64 0, .int .i64 0, .int .i64 0, .int .i64 0, .int .i64 0, .int .i64 0, .int .i64 0, .int .i64 0, .int .i64 0, .int .i64 0, .int .i64 0, .bool false, .int .i64 0, .string ⟨#[]⟩] 41)
  have hX0 := (Cel.new (w.alloc (.cells #[.int .i64 r.own, .int .i64 r.far, .int .i64 r.port] 26)) 41 #[.int .i64 m.kind, .int .i64 m.frm, .int .i64 m.to, .int .i64 m.port, .int .i64 m.key, .int .i64 m.token, .int .i64 m.nonce, .int .i64 m.give, .int .i64 m.sign, .int .i64 m.tag.kind, .int .i64 m.tag.one, .int .i64 m.tag.two, .int .i64 m.tag.a, .int .i64 m.tag.b, .int .i64 m.id, .int .i64 m.addr, .bool m.spare, .int .i64 m.pos, .string m.text]).alloc (.cells #[.int .i64 0, .int .i64 0, .int .i64 0, .int .i64 0, .int .i64 0, .int .i64 0, .int .i64 0, .int .i64 0, .int .i64 0, .int .i64 0, .int .i64 0, .int .i64 0, .int .i64 0, .int .i64 0, .int .i64 0, .int .i64 0, .bool false, .int .i64 0, .string ⟨#[]⟩] 41)
  have hZ0 := Cel.new ((w.alloc (.cells #[.int .i64 r.own, .int .i64 r.far, .int .i64 r.port] 26)).alloc (.cells #[.int .i64 m.kind, .int .i64 m.frm, .int .i64 m.to, .int .i64 m.port, .int .i64 m.key, .int .i64 m.token, .int .i64 m.nonce, .int .i64 m.give, .int .i64 m.sign, .int .i64 m.tag.kind, .int .i64 m.tag.one, .int .i64 m.tag.two, .int .i64 m.tag.a, .int .i64 m.tag.b, .int .i64 m.id, .int .i64 m.addr, .bool m.spare, .int .i64 m.pos, .string m.text] 41)) 41 #[.int .i64 0, .int .i64 0, .int .i64 0, .int .i64 0, .int .i64 0, .int .i64 0, .int .i64 0, .int .i64 0, .int .i64 0, .int .i64 0, .int .i64 0, .int .i64 0, .int .i64 0, .int .i64 0, .int .i64 0, .int .i64 0, .bool false, .int .i64 0, .string ⟨#[]⟩]
  have hB0 : Below w.heap.size w (((w.alloc (.cells #[.int .i64 r.own, .int .i64 r.far, .int .i64 r.port] 26)).alloc (.cells #[.int .i64 m.kind, .int .i64 m.frm, .int .i64 m.to, .int .i64 m.port, .int .i64 m.key, .int .i64 m.token, .int .i64 m.nonce, .int .i64 m.give, .int .i64 m.sign, .int .i64 m.tag.kind, .int .i64 m.tag.one, .int .i64 m.tag.two, .int .i64 m.tag.a, .int .i64 m.tag.b, .int .i64 m.id, .int .i64 m.addr, .bool m.spare, .int .i64 m.pos, .string m.text] 41)).alloc (.cells #[.int .i64 0, .int .i64 0, .int .i64 0, .int .i64 0, .int .i64 0, .int .i64 0, .int .i64 0, .int .i64 0, .int .i64 0, .int .i64 0, .int .i64 0, .int .i64 0, .int .i64 0, .int .i64 0, .int .i64 0, .int .i64 0, .bool false, .int .i64 0, .string ⟨#[]⟩] 41)) := (((Below.refl _ _).alloc (Nat.le_refl _) _).alloc (by simp) _).alloc (by simp; omega) _
  simp only [World.size_alloc] at hX0 hZ0
  obtain ⟨W0, hW0⟩ : ∃ W0, (((w.alloc (.cells #[.int .i64 r.own, .int .i64 r.far, .int .i64 r.port] 26)).alloc (.cells #[.int .i64 m.kind, .int .i64 m.frm, .int .i64 m.to, .int .i64 m.port, .int .i64 m.key, .int .i64 m.token, .int .i64 m.nonce, .int .i64 m.give, .int .i64 m.sign, .int .i64 m.tag.kind, .int .i64 m.tag.one, .int .i64 m.tag.two, .int .i64 m.tag.a, .int .i64 m.tag.b, .int .i64 m.id, .int .i64 m.addr, .bool m.spare, .int .i64 m.pos, .string m.text] 41)).alloc (.cells #[.int .i64 0, .int .i64 0, .int .i64 0, .int .i64 0, .int .i64 0, .int .i64 0, .int .i64 0, .int .i64 0, .int .i64 0, .int .i64 0, .int .i64 0, .int .i64 0, .int .i64 0, .int .i64 0, .int .i64 0, .int .i64 0, .bool false, .int .i64 0, .string ⟨#[]⟩] 41)) = W0 := ⟨_, rfl⟩
  rw [hW0] at hA0 hX0 hZ0 hB0
  have HW := Lib.hid hW0
  have H0 := Lib.hid (And.intro hA0 (And.intro hX0 (And.intro hZ0 hB0)))
  clear hA0 hX0 hZ0 hB0 hW0
  go_enter Try.func39, Try.ntmps39
  go_upto_region 1 with (fail)
  rw [HW.out]
  clear HW
  have k0 : W0.cell? ⟨w.heap.size, 0, none⟩ = some (.int .i64 r.own) := H0.out.1.cell 0
  have q0 : W0.cell? ⟨w.heap.size + 1, 1, none⟩ = some (.int .i64 m.frm) := H0.out.2.1.cell 1
  have f0 := H0.out.2.1.frozen 1
  have hX : Cel (W0.setCell ⟨w.heap.size + 1, 1, none⟩ (.int .i64 r.own)) (w.heap.size + 1) 41 #[.int .i64 m.kind, .int .i64 r.own, .int .i64 m.to, .int .i64 m.port, .int .i64 m.key, .int .i64 m.token, .int .i64 m.nonce, .int .i64 m.give, .int .i64 m.sign, .int .i64 m.tag.kind, .int .i64 m.tag.one, .int .i64 m.tag.two, .int .i64 m.tag.a, .int .i64 m.tag.b, .int .i64 m.id, .int .i64 m.addr, .bool m.spare, .int .i64 m.pos, .string m.text] := H0.out.2.1.set 1 (.int .i64 r.own)
  have HN := Lib.hid (And.intro (H0.out.1.other ⟨w.heap.size + 1, 1, none⟩ (.int .i64 r.own) (by simp)) (And.intro hX (And.intro (H0.out.2.2.1.other ⟨w.heap.size + 1, 1, none⟩ (.int .i64 r.own) (by simp)) (H0.out.2.2.2.setCell (p := ⟨w.heap.size + 1, 1, none⟩) (by simp) (.int .i64 r.own)))))
  clear hX
  go_upto_region 2 with (fail)
  clear k0 q0 f0 H0
  generalize W0.setCell ⟨w.heap.size + 1, 1, none⟩ (.int .i64 r.own) = W1 at *
  have H1 := HN
  clear HN
  have k0 : W1.cell? ⟨w.heap.size, 1, none⟩ = some (.int .i64 r.far) := H1.out.1.cell 1
  have q0 : W1.cell? ⟨w.heap.size + 1, 2, none⟩ = some (.int .i64 m.to) := H1.out.2.1.cell 2
  have f0 := H1.out.2.1.frozen 2
  have hX : Cel (W1.setCell ⟨w.heap.size + 1, 2, none⟩ (.int .i64 r.far)) (w.heap.size + 1) 41 #[.int .i64 m.kind, .int .i64 r.own, .int .i64 r.far, .int .i64 m.port, .int .i64 m.key, .int .i64 m.token, .int .i64 m.nonce, .int .i64 m.give, .int .i64 m.sign, .int .i64 m.tag.kind, .int .i64 m.tag.one, .int .i64 m.tag.two, .int .i64 m.tag.a, .int .i64 m.tag.b, .int .i64 m.id, .int .i64 m.addr, .bool m.spare, .int .i64 m.pos, .string m.text] := H1.out.2.1.set 2 (.int .i64 r.far)
  have HN := Lib.hid (And.intro (H1.out.1.other ⟨w.heap.size + 1, 2, none⟩ (.int .i64 r.far) (by simp)) (And.intro hX (And.intro (H1.out.2.2.1.other ⟨w.heap.size + 1, 2, none⟩ (.int .i64 r.far) (by simp)) (H1.out.2.2.2.setCell (p := ⟨w.heap.size + 1, 2, none⟩) (by simp) (.int .i64 r.far)))))
  clear hX
  go_upto_region 3 with (fail)
  clear k0 q0 f0 H1
  generalize W1.setCell ⟨w.heap.size + 1, 2, none⟩ (.int .i64 r.far) = W2 at *
  have H2 := HN
  clear HN
  have k0 : W2.cell? ⟨w.heap.size, 2, none⟩ = some (.int .i64 r.port) := H2.out.1.cell 2
  have q0 : W2.cell? ⟨w.heap.size + 1, 3, none⟩ = some (.int .i64 m.port) := H2.out.2.1.cell 3
  have f0 := H2.out.2.1.frozen 3
  have hX : Cel (W2.setCell ⟨w.heap.size + 1, 3, none⟩ (.int .i64 r.port)) (w.heap.size + 1) 41 #[.int .i64 m.kind, .int .i64 r.own, .int .i64 r.far, .int .i64 r.port, .int .i64 m.key, .int .i64 m.token, .int .i64 m.nonce, .int .i64 m.give, .int .i64 m.sign, .int .i64 m.tag.kind, .int .i64 m.tag.one, .int .i64 m.tag.two, .int .i64 m.tag.a, .int .i64 m.tag.b, .int .i64 m.id, .int .i64 m.addr, .bool m.spare, .int .i64 m.pos, .string m.text] := H2.out.2.1.set 3 (.int .i64 r.port)
  have HN := Lib.hid (And.intro (H2.out.1.other ⟨w.heap.size + 1, 3, none⟩ (.int .i64 r.port) (by simp)) (And.intro hX (And.intro (H2.out.2.2.1.other ⟨w.heap.size + 1, 3, none⟩ (.int .i64 r.port) (by simp)) (H2.out.2.2.2.setCell (p := ⟨w.heap.size + 1, 3, none⟩) (by simp) (.int .i64 r.port)))))
  clear hX
  go_upto_region 4 with (fail)
  clear k0 q0 f0 H2
  generalize W2.setCell ⟨w.heap.size + 1, 3, none⟩ (.int .i64 r.port) = W3 at *
  have H3 := HN
  clear HN
  have hL : lvC (betweenL r m) = #[.int .i64 m.kind, .int .i64 r.own, .int .i64 r.far, .int .i64 r.port, .int .i64 m.key, .int .i64 m.token, .int .i64 m.nonce, .int .i64 m.give, .int .i64 m.sign, .int .i64 m.tag.kind, .int .i64 m.tag.one, .int .i64 m.tag.two, .int .i64 m.tag.a, .int .i64 m.tag.b, .int .i64 m.id, .int .i64 m.addr, .bool m.spare, .int .i64 m.pos, .string m.text] := lvC_eq _
  have hC3 : W3.heap[w.heap.size + 1]? = some (.cells (lvC (betweenL r m)) 41 (0, 0)) := by rw [hL]; exact H3.out.2.1
  have hD4 : W3.heap[w.heap.size + 2]? = some (.cells #[.int .i64 0, .int .i64 0, .int .i64 0, .int .i64 0, .int .i64 0, .int .i64 0, .int .i64 0, .int .i64 0, .int .i64 0, .int .i64 0, .int .i64 0, .int .i64 0, .int .i64 0, .int .i64 0, .int .i64 0, .int .i64 0, .bool false, .int .i64 0, .string ⟨#[]⟩] 41 (0, 0)) := H3.out.2.2.1
  have one : (lvC (betweenL r m)).all (·.oneCell') = true := by rw [hL]; simp [Value.oneCell']
  have hsz : (Try.prog.info? 41).map (·.size) = some (lvC (betweenL r m)).size := by rw [hL]; show _ = some 19; kernel_rfl
  have hn9 : (lvC (betweenL r m)).size = 19 := by rw [hL]; rfl
  have hst : (storeCells ⟨w.heap.size + 2, 0, none⟩ (lvC (betweenL r m)).toList 0).run Try.prog W3 = .ok () (W3.setRow (w.heap.size + 2) (lvC (betweenL r m))) := by
    have := run_storeCells_at Try.prog (w.heap.size + 2) 0 41 (lvC (betweenL r m)).toList 0 _ W3 hD4 (by rw [Array.length_toList, hn9]; exact Nat.le_refl _) (fun v hv => Array.all_eq_true_iff_forall_mem.1 one v (by simpa using hv))
    rw [this]
    congr 2
    rw [Nat.zero_add, List.take_zero, List.nil_append, List.drop_of_length_le (by rw [Array.length_toList, Array.length_toList, hn9]; exact Nat.le_refl _), List.append_nil, Array.toArray_toList]
  have HF := Lib.hid (And.intro (H3.out.2.2.1.row (lvC (betweenL r m))) (And.intro (row_belowlv H3.out.2.2.2 (show w.heap.size ≤ w.heap.size + 2 by omega) (lvC (betweenL r m))) hL))
  clear H3 hL
  go_wp2_with (first | (with_reducible refine wpList_load_row rfl 41 _ rfl _ rfl 41 _ (0, 0) _ hC3 Try.underlying41 rfl hsz ?_))
  refine bodyPost_ret (Cel.result HF.out.1 rfl _ rfl Try.underlying41 rfl hsz) rfl ⟨by rw [HF.out.2.2], HF.out.2.1⟩
end Go.Proofs.Ytoeflkmhofkiaaa

