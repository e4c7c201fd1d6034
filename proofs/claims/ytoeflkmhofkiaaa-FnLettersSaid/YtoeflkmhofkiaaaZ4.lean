import Derived.Test.YtoeflkmhofkiaaaZ3
import Derived.Test.YtoeflkmhofkiaaaEk2z
import Derived.Test.YtoeflkmhofkiaaaZ1
import Derived.Test.YtoeflkmhofkiaaaHtoz
import Derived.Deep.Cut
import Derived.BigQuiet
import Derived.Deep.QuietTactic
namespace Go.Proofs.Ytoeflkmhofkiaaa
open Go.RowKit
set_option maxRecDepth 100000

theorem intK_flat (l : List Int) : intK.flat l = l.map (Value.int .i64) := by
  induction l with
  | nil => rfl
  | cons x r ih => simp only [EK.flat, List.map_cons, ih]; rfl
theorem own_irow {W : World} {B C : Nat} {v : Value} {zs : List Int} (h : OwnE intK W B C v zs) : IRow W B C v zs := ⟨by rw [← intK_flat]; exact h.1, h.2⟩

/-- s[:h] -/
theorem LieE.cut_to {α : Type} {K : EK α} {tS : TypeId} (hS : Try.prog.underlying tS = some (.slice K.t)) {W : World} {B C c : Nat} {a : Option Addr} {xs : List α} (h : LieE K W B C (.slice a xs.length c) xs) (hh : Nat) (hn : hh ≤ xs.length) :
    ∃ a', (∀ W', (Instr.slice tS (.slice a xs.length c) none (some (.int .i64 (hh : Int))) none).run Try.prog W' = .ok (.slice a' hh c) W') ∧ ∀ W', LieE K W' B C (.slice a xs.length c) xs → LieE K W' B C (.slice a' hh c) (xs.take hh) := by
  obtain ⟨i0, hq, -, hz1, -⟩ := einfo K
  have hc : xs.length ≤ c := by
    obtain ⟨a', c', he, hc, -⟩ := h
    injection he with e1 e2 e3
    omega
  refine ⟨if c = 0 then a else a.map (·.add (0 * K.n)), fun W' => ?_, fun W' h' => ?_⟩
  · have h2 : (0 : Int) ≤ (hh : Int) ∧ (hh : Int) ≤ (c : Int) := by omega
    have h3 : hh ≤ c := by omega
    simp [Instr.slice, run_underlying hS, Instr.sliceBounds, Instr.sliceBound, asIntOf, h2, h3, sizeOf, typeInfo, hq]
  · have := LieE.cut h' 0 hh c (Nat.zero_le _) hn (by omega) (Nat.le_refl _)
    simpa using this

theorem untold_take (ms : List Av) (k : Nat) (h : k < ms.length) : untoldA (ms.take (k + 1)) = untoldA (ms.take k) ++ (if ms[k].told = true then [] else [ms[k].id]) := by
  rw [List.take_succ_eq_append_getElem h, untold_append]
  congr 1
theorem rd_ibox (W : World) (n : Int) : RdE intK (W.alloc (.cells #[.int .i64 n] 3)) (.slice (some ⟨W.heap.size, 0, none⟩) 1 1) [n] :=
  (OwnE.of_cel (K := intK) (B := 0) (C := W.heap.size + 1) (xs := [n]) (Cel.new W 3 #[.int .i64 n]) (Nat.zero_le _) (Nat.lt_succ_self _) (by simp [maxLen])).rd

end Go.Proofs.Ytoeflkmhofkiaaa

namespace Go.Proofs.Ytoeflkmhofkiaaa
open Go.RowKit
set_option maxRecDepth 100000

set_option maxRecDepth 100000 in
set_option maxHeartbeats 2000000 in
theorem spec_halfAt (v : Value) (hs : List Hv) (r : Rv) (w : World) (hv : RdH w v hs) (hn : hs.length ≤ 1048577) :
    Calls Try.prog 49 #[v, .agg #[.int .i64 r.own, .int .i64 r.far, .int .i64 r.port]] w fun e w' => e = .returned (.int .i64 (atH hs r)) ∧ Below w.heap.size w w' := by
  have hbx := below_rv w r
  have hC0 := Cel.new w 26 #[.int .i64 r.own, .int .i64 r.far, .int .i64 r.port]
  have hv0 := hv.below hbx
  obtain ⟨a, c, rfl⟩ := hv.form
  generalize hd : atH hs r = res
  have HD := Lib.hid hd
  clear hv hd
  go_enter Try.func49, Try.ntmps49
  go_wp2_with (fail)
  go_loopw [5] (fun i wr => ∃ k : Nat, k ≤ hs.length ∧ i = .int .i64 k ∧ (∀ j (_ : j < k) (h : j < hs.length), ¬ hs[j].road = r) ∧ RdH wr (.slice a hs.length c) hs ∧ Cel wr w.heap.size 26 #[.int .i64 r.own, .int .i64 r.far, .int .i64 r.port] ∧ Below w.heap.size w wr) (fun i _ => hs.length - (intOf i).toNat)
  case atStart => exact ⟨0, by omega, rfl, fun j hj => by omega, hv0, hC0, hbx⟩
  case round =>
    clear hv0 hC0 hbx
    obtain ⟨k, hk, rfl, hne, hR, hC, hB⟩ := hrel
    by_cases hlt : k < hs.length
    · have q : (0 : Int) ≤ (k : Int) ∧ (k : Int) < (hs.length : Int) := by omega
      obtain ⟨b, off, ha, -, k0, k1, k2, -⟩ := hv_at (P := Try.prog) hR k hlt
      subst ha
      obtain ⟨c0, c1, c2⟩ := cel3r hC
      obtain ⟨y, hy⟩ : ∃ y, hs[k].road = y := ⟨_, rfl⟩
      rw [hy] at k0 k1 k2
      have HX := Lib.hid (And.intro hy (And.intro hne (And.intro hR (And.intro hC hB))))
      clear hy hne hR hC hB
      by_cases hxy : y = r
      · have he := fun W => eql_rv y r W true (by simp [hxy])
        have hp : plH r hs = k := plH_at hlt HX.out.2.1 (HX.out.1.trans hxy)
        obtain rfl : (k : Int) = res := by rw [← HD.out, atH_in (by rw [hp]; exact hlt), hp]
        clear hxy hp HD
        go_wp2_with (fail)
        go_quiet (fail)
        go_wp2_with (fail)
        go_ret
        exact ⟨rfl, Below.then_ HX.out.2.2.2.2 (dN_rbelow _ _)⟩
      · have he := fun W => eql_rv y r W false (by simp [hxy])
        have HM := Lib.hid hxy
        clear hxy
        go_wp2_with (fail)
        go_quiet (fail)
        go_wp2_with (fail)
        go_roundw
        case rel =>
          refine ⟨k + 1, by omega, by go_num, fun j hj hl => ?_, HX.out.2.2.1.drewN, HX.out.2.2.2.1.drewN _, Below.then_ HX.out.2.2.2.2 (dN_rbelow _ _)⟩
          by_cases hjk : j = k
          · subst hjk
            rw [HX.out.1]
            exact HM.out
          · exact HX.out.2.1 j (by omega) hl
        case measure => simp [intOf]; omega
    · obtain rfl : k = hs.length := by omega
      have q : ¬ (hs.length : Int) < (hs.length : Int) := by omega
      have hp : plH r hs = hs.length := plH_none fun j h => hne j h h
      obtain rfl : (-1 : Int) = res := by rw [← HD.out, atH_out (by rw [hp]; exact Nat.lt_irrefl _)]
      have HM := Lib.hid hB
      clear hR hC hne hp hB HD
      go_wp2_with (fail)
      go_ret
      exact ⟨rfl, HM.out⟩

theorem spec_num (n : Int) (w : World) : Calls Try.prog 48 #[.int .i64 n] w fun e w' => e = .returned (.bool (numH n)) ∧ w = w' := by
  have c1 := fun W => spec_in n 0 1000000000 W
  rw [show decide ((0 : Int) ≤ n ∧ n ≤ 1000000000) = numH n from rfl] at c1
  generalize numH n = b at *
  go_enter Try.func48, Try.ntmps48
  go_wp2_with (fail)
  with_reducible refine (c1 _).mono ?_
  rintro e w1 ⟨rfl, rfl⟩
  go_wp2_with (fail)
  go_ret
  exact ⟨rfl, rfl⟩

set_option maxRecDepth 100000 in
theorem spec_road (r : Rv) (w : World) : Calls Try.prog 47 #[.agg #[.int .i64 r.own, .int .i64 r.far, .int .i64 r.port]] w fun e w' => e = .returned (.bool (roadH r)) ∧ Below w.heap.size w w' := by
  have n0 := fun W => spec_num r.own W
  have n1 := fun W => spec_num r.far W
  have n2 := fun W => spec_num r.port W
  have HB := Lib.hid (below_rv w r)
  obtain ⟨res, hres⟩ : ∃ res, roadH r = res := ⟨_, rfl⟩
  rw [hres]
  unfold roadH at hres
  generalize numH r.own = b0 at *
  generalize numH r.far = b1 at *
  generalize numH r.port = b2 at *
  subst hres
  cases b0 <;> cases b1 <;> cases b2 <;> simp only [Bool.and_true, Bool.and_false]
  all_goals
    go_enter Try.func47, Try.ntmps47
    go_wp2_with (fail)
    with_reducible refine (n0 _).mono ?_
    rintro e w1 ⟨rfl, rfl⟩
    clear n0
    go_wp2_with (fail)
    try (with_reducible refine (n1 _).mono ?_; rintro e w1 ⟨rfl, rfl⟩; clear n1; go_wp2_with (fail))
    try (with_reducible refine (n2 _).mono ?_; rintro e w1 ⟨rfl, rfl⟩; clear n2; go_wp2_with (fail))
    go_ret
    exact ⟨rfl, HB.out⟩

set_option maxRecDepth 100000 in
set_option maxHeartbeats 4000000 in
theorem spec_halfsOk (v : Value) (hs : List Hv) (w : World) (hv : RdH w v hs) (hn : hs.length ≤ 1048577) :
    Calls Try.prog 16 #[v] w fun e w' => e = .returned (.bool (okH hs)) ∧ Below w.heap.size w w' := by
  obtain ⟨a, c, rfl⟩ := hv.form
  by_cases h4 : hs.length ≤ 4
  · have hok : okH hs = okFrom hs 0 := by unfold okH; rw [decide_eq_true h4, Bool.true_and]
    rw [hok]
    generalize hg : okFrom hs 0 = res
    have q4 : ¬ ((4 : Int) < (hs.length : Int)) := by omega
    have HG := Lib.hid hg
    clear hg hok
    go_enter Try.func16, Try.ntmps16
    go_wp2_with (fail)
    go_loopw [3] (fun i wr => ∃ k : Nat, k ≤ hs.length ∧ i = .int .i64 k ∧ okFrom hs k = res ∧ RdH wr (.slice a hs.length c) hs ∧ Below w.heap.size w wr) (fun i _ => hs.length - (intOf i).toNat)
    case atStart => exact ⟨0, by omega, rfl, HG.out, hv, Below.refl _ _⟩
    case round =>
      clear hv HG
      obtain ⟨k, hk, rfl, hr, hR, hB⟩ := hrel
      by_cases hlt : k < hs.length
      · have q : (0 : Int) ≤ (k : Int) ∧ (k : Int) < (hs.length : Int) := by omega
        obtain ⟨b, off, ha, -, k0, k1, k2, k3, k4, k5, k6, k7, -⟩ := hv_at (P := Try.prog) hR k hlt
        subst ha
        rw [okFrom_step hlt] at hr
        generalize hs[k] = m at *
        have hbx := below_hv wr m
        have hC0 := Cel.new wr 28 #[.int .i64 m.road.own, .int .i64 m.road.far, .int .i64 m.road.port, .int .i64 m.theirs, .int .i64 m.mine, .int .i64 m.give, .int .i64 m.take, .int .i64 m.till]
        have HX := Lib.hid (And.intro hr (And.intro (hR.below hbx) (And.intro (Below.then_ hB hbx) hC0)))
        have cR := fun W => spec_road m.road W
        have cA := fun W h => spec_halfAt (.slice (some ⟨b, off, none⟩) hs.length c) hs m.road W h hn
        have c1 := fun W => spec_num m.theirs W
        have c2 := fun W => spec_num m.mine W
        have c3 := fun W => spec_num m.give W
        have c4 := fun W => spec_num m.take W
        have c5 := fun W => spec_num m.till W
        clear hr hR hB hbx hC0
        go_upto_region 7 with (fail)
        clear k0 k1 k2 k3 k4 k5 k6 k7
        obtain ⟨e0, e1, e2, e3⟩ := HX.out
        obtain ⟨d0, d1, d2, d3, d4, d5, d6, d7⟩ := cel8hv e3
        generalize wr.alloc (.cells #[.int .i64 m.road.own, .int .i64 m.road.far, .int .i64 m.road.port, .int .i64 m.theirs, .int .i64 m.mine, .int .i64 m.give, .int .i64 m.take, .int .i64 m.till] 28) = w2 at *
        generalize wr.heap.size = h0 at *
        have HY := Lib.hid (And.intro e0 (And.intro e1 (And.intro e2 e3)))
        clear HX e0 e1 e2 e3
        go_wp2_with (fail)
        with_reducible refine (cR _).mono ?_
        rintro e w3 ⟨rfl, hb3⟩
        have HX := Lib.hid (And.intro HY.out.1 (And.intro (HY.out.2.1.below hb3) (And.intro (Below.then_ HY.out.2.2.1 hb3) (HY.out.2.2.2.kept hb3))))
        clear HY cR d0 d1 d2 d3 d4 d5 d6 d7 hb3
        obtain ⟨d0, d1, d2, d3, d4, d5, d6, d7⟩ := cel8hv HX.out.2.2.2
        cases hp0 : roadH m.road with
        | false =>
          obtain rfl : false = res := by
            have := HX.out.1
            rw [← this]
            simp [numsH, hp0]
          go_wp2_with (fail)
          go_ret
          exact ⟨rfl, HX.out.2.2.1⟩
        | true =>
          have hp0 := Lib.hid hp0
          go_wp2_with (fail)
          with_reducible refine (c1 _).mono ?_
          rintro e w4 ⟨rfl, rfl⟩
          clear c1
          cases hp1 : numH m.theirs with
          | false =>
            obtain rfl : false = res := by
              have := HX.out.1
              rw [← this]
              simp [numsH, hp1]
            go_wp2_with (fail)
            go_ret
            exact ⟨rfl, HX.out.2.2.1⟩
          | true =>
            have hp1 := Lib.hid hp1
            go_wp2_with (fail)
            with_reducible refine (c2 _).mono ?_
            rintro e w4 ⟨rfl, rfl⟩
            clear c2
            cases hp2 : numH m.mine with
            | false =>
              obtain rfl : false = res := by
                have := HX.out.1
                rw [← this]
                simp [numsH, hp2]
              go_wp2_with (fail)
              go_ret
              exact ⟨rfl, HX.out.2.2.1⟩
            | true =>
              have hp2 := Lib.hid hp2
              go_wp2_with (fail)
              with_reducible refine (c3 _).mono ?_
              rintro e w4 ⟨rfl, rfl⟩
              clear c3
              cases hp3 : numH m.give with
              | false =>
                obtain rfl : false = res := by
                  have := HX.out.1
                  rw [← this]
                  simp [numsH, hp3]
                go_wp2_with (fail)
                go_ret
                exact ⟨rfl, HX.out.2.2.1⟩
              | true =>
                have hp3 := Lib.hid hp3
                go_wp2_with (fail)
                with_reducible refine (c4 _).mono ?_
                rintro e w4 ⟨rfl, rfl⟩
                clear c4
                cases hp4 : numH m.take with
                | false =>
                  obtain rfl : false = res := by
                    have := HX.out.1
                    rw [← this]
                    simp [numsH, hp4]
                  go_wp2_with (fail)
                  go_ret
                  exact ⟨rfl, HX.out.2.2.1⟩
                | true =>
                  have hp4 := Lib.hid hp4
                  go_wp2_with (fail)
                  with_reducible refine (c5 _).mono ?_
                  rintro e w4 ⟨rfl, rfl⟩
                  clear c5
                  cases hp5 : numH m.till with
                  | false =>
                    obtain rfl : false = res := by
                      have := HX.out.1
                      rw [← this]
                      simp [numsH, hp5]
                    go_wp2_with (fail)
                    go_ret
                    exact ⟨rfl, HX.out.2.2.1⟩
                  | true =>
                    have hp5 := Lib.hid hp5
                    go_wp2_with (fail)
                    with_reducible refine (cA _ HX.out.2.1).mono ?_
                    rintro e w4 ⟨rfl, hb4⟩
                    have HZ := Lib.hid (And.intro (HX.out.2.1.below hb4) (Below.then_ HX.out.2.2.1 hb4))
                    obtain ⟨z, hz⟩ : ∃ z, atH hs m.road = z := ⟨_, rfl⟩
                    rw [hz]
                    by_cases hzk : z = (k : Int)
                    · subst hzk
                      have HR : Hid (okFrom hs (k + 1) = res) := Lib.hid (by have := HX.out.1; rw [← this]; simp [numsH, hp0.out, hp1.out, hp2.out, hp3.out, hp4.out, hp5.out, hz])
                      clear hz cA hb4 HX d0 d1 d2 d3 d4 d5 d6 d7
                      go_wp2_with (fail)
                      go_roundw
                      case rel => exact ⟨k + 1, by omega, by go_num, HR.out, HZ.out.1, HZ.out.2⟩
                      case measure => simp [intOf]; omega
                    · obtain rfl : false = res := by
                        have := HX.out.1
                        rw [← this]
                        simp [hz, hzk]
                      have qz : (z != (k : Int)) = true := by simpa using hzk
                      clear hz cA hb4 HX d0 d1 d2 d3 d4 d5 d6 d7
                      go_wp2_with (fail)
                      go_ret
                      exact ⟨rfl, HZ.out.2⟩
      · obtain rfl : k = hs.length := by omega
        have q : ¬ (hs.length : Int) < (hs.length : Int) := by omega
        obtain rfl : true = res := by rw [← hr, okFrom_end (Nat.le_refl _)]
        clear hR hr
        go_wp2_with (fail)
        go_ret
        exact ⟨rfl, hB⟩
  · have hok : okH hs = false := by unfold okH; rw [decide_eq_false h4, Bool.false_and]
    rw [hok]
    have q4 : (4 : Int) < (hs.length : Int) := by omega
    clear hok hv
    go_enter Try.func16, Try.ntmps16
    go_wp2_with (fail)
    go_ret
    exact ⟨rfl, Below.refl _ _⟩
end Go.Proofs.Ytoeflkmhofkiaaa

namespace Go.Proofs.Ytoeflkmhofkiaaa
open Go.RowKit
set_option maxRecDepth 100000

theorem sz_lawG {n : Nat} (h : ¬ (1048576 : Int) - (n : Int) < 0) : n ≤ 1048576 := by omega
/-- A box that came in lies as it lay. -/
theorem cb_keep {wb W W' : World} {h : Nat} {t : TypeId} {cs : Array Value} (hh : Cel W h t cs ∧ Below wb.heap.size wb W) (hb : Below W.heap.size W W') : Cel W' h t cs ∧ Below wb.heap.size wb W' := ⟨hh.1.kept hb, Below.then_ hh.2 hb⟩

/-- What stays while a law goes on: the model's answer, the program's argument, its answer, each in blocks of its own. -/
structure QdG {α β : Type} (K : EK α) (KA : EK β) (w W : World) (b0 b1 b2 b3 : Nat) (u x g : Value) (os : List α) (xs : List β) (gs : List α) : Prop where
  m : OwnE K W b0 b1 u os
  x : OwnE KA W b1 b2 x xs
  g : OwnE K W b2 b3 g gs
  b : Below w.heap.size w W
  l0 : w.heap.size ≤ b0
  l1 : b0 ≤ b1
  l2 : b1 ≤ b2
  l3 : b2 ≤ b3
  l4 : b3 ≤ W.heap.size
section
variable {α β : Type} {K : EK α} {KA : EK β} {w W W' : World} {b0 b1 b2 b3 : Nat} {u x g : Value} {os gs : List α} {xs ys : List β} {zs : List α}
theorem QdG.kept (h : QdG K KA w W b0 b1 b2 b3 u x g os xs gs) (hb : Below W.heap.size W W') : QdG K KA w W' b0 b1 b2 b3 u x g os xs gs :=
  have h1 := h.l1
  have h2 := h.l2
  have h3 := h.l3
  have h4 := h.l4
  ⟨h.m.keep hb (by omega), h.x.keep hb (by omega), h.g.keep hb (by omega), Below.then_ h.b hb, h.l0, h.l1, h.l2, h.l3, Nat.le_trans h.l4 hb.size⟩
theorem QdG.markX (h : QdG K KA w W b0 b1 b2 b3 u x g os xs gs) (hx : OwnE KA W' b1 b2 x ys) (hb : Below b1 W W') (hz : W'.heap.size = W.heap.size) (ho : ∀ i, x.ownBlock ≠ some i → W'.heap[i]? = W.heap[i]?) :
    QdG K KA w W' b0 b1 b2 b3 u x g os ys gs :=
  have h0 := h.l0
  have h1 := h.l1
  ⟨h.m.keep hb (Nat.le_refl _), hx, h.g.keepAt fun k hk => ho k fun e => by have e1 := (h.x.block k e).2; have e2 := (h.g.block k hk).1; omega, h.b.trans (hb.mono (by omega)), h.l0, h.l1, h.l2, h.l3, by rw [hz]; exact h.l4⟩
theorem QdG.markG (h : QdG K KA w W b0 b1 b2 b3 u x g os xs gs) (hg : OwnE K W' b2 b3 g zs) (hb : Below b2 W W') (hz : W.heap.size ≤ W'.heap.size) :
    QdG K KA w W' b0 b1 b2 b3 u x g os xs zs :=
  have h0 := h.l0
  have h1 := h.l1
  have h2 := h.l2
  ⟨h.m.keep hb (by omega), h.x.keep hb (Nat.le_refl _), hg, h.b.trans (hb.mono (by omega)), h.l0, h.l1, h.l2, h.l3, Nat.le_trans h.l4 hz⟩
end
end Go.Proofs.Ytoeflkmhofkiaaa

namespace Go.Proofs.Ytoeflkmhofkiaaa
open Go.RowKit
set_option maxRecDepth 100000

theorem addrs_take (ms : List Av) (k : Nat) (h : k < ms.length) : (ms.take (k + 1)).map (·.addr) = (ms.take k).map (·.addr) ++ [ms[k].addr] := by
  rw [List.take_succ_eq_append_getElem h, List.map_append]
  rfl
theorem okGo_cons (least : Int) (seen : List Int) (x : Av) (r : List Av) : okGo least seen (x :: r) = (decide (least ≤ x.id ∧ x.id ≤ 255) && decide (1 ≤ x.addr ∧ x.addr ≤ 65535) && !decide (x.addr ∈ seen) && okGo (x.id + 1) (seen ++ [x.addr]) r) := by
  rw [okGo, Bool.eq_iff_iff]
  simp only [Bool.and_eq_true, decide_eq_true_eq, Bool.not_eq_true', decide_eq_false_iff_not]
  constructor
  · rintro ⟨⟨h1, h2, h3, h4, h5⟩, h6⟩
    exact ⟨⟨⟨⟨h1, h2⟩, h3, h4⟩, h5⟩, h6⟩
  · rintro ⟨⟨⟨⟨h1, h2⟩, h3, h4⟩, h5⟩, h6⟩
    exact ⟨⟨h1, h2, h3, h4, h5⟩, h6⟩

end Go.Proofs.Ytoeflkmhofkiaaa

namespace Go.Proofs.Ytoeflkmhofkiaaa
open Go.RowKit
set_option maxRecDepth 100000

theorem below_dN (W : World) (n : Nat) : Below W.heap.size W (W.drewN n) := ⟨rfl, rfl, rfl, Nat.le_refl _, fun _ _ => rfl⟩

end Go.Proofs.Ytoeflkmhofkiaaa

namespace Go.Proofs.Ytoeflkmhofkiaaa
open Go.RowKit
set_option maxRecDepth 100000

theorem sz_lawA (ms : List Av) (h : ¬ (1048576 : Int) - (ms.length : Int) < 0) : ms.length ≤ 1048576 := by omega

section
variable {α : Type} {K : EK α} {w W W' : World} {b0 b1 b2 b3 : Nat} {u x g : Value} {os gs : List α} {xs ys : List Av} {zs : List α}
end
end Go.Proofs.Ytoeflkmhofkiaaa

namespace Go.Proofs.Ytoeflkmhofkiaaa
open Go.RowKit
set_option maxRecDepth 100000

theorem irow_own {W : World} {B C : Nat} {v : Value} {zs : List Int} (h : IRow W B C v zs) : OwnE intK W B C v zs := ⟨by rw [intK_flat]; exact h.1, h.2⟩
theorem below_q {w : World} {v : Value} {f : FuncId} {args : Array Value} (h : Calls Try.prog f args w fun e w' => e = .returned v ∧ ∃ m, w' = w.drewN m) : Calls Try.prog f args w fun e w' => e = .returned v ∧ Below w.heap.size w w' :=
  h.mono fun _ _ ⟨he, m, hm⟩ => ⟨he, hm ▸ below_dN w m⟩

end Go.Proofs.Ytoeflkmhofkiaaa

namespace Go.Proofs.Ytoeflkmhofkiaaa
open Go.RowKit
set_option maxRecDepth 100000

/-- Booleans as elements of a row. -/
def boolK : EK Bool where
  t := 4
  n := 1
  cs := fun b => [.bool b]
  len := fun _ => rfl
  pos := by decide
  one := fun p u hu => by
    simp only [List.mem_cons, List.not_mem_nil, or_false] at hu
    rcases hu with rfl | rfl <;> rfl
  zero := false
  zv := .bool false
  zcs := rfl
  bytes := 1
  bnd := by decide
  wid := by decide
  info := by kernel_rfl
theorem bool_at {W : World} {a : Option Addr} {n c : Nat} {xs : List Bool} (h : RdE boolK W (.slice a n c) xs) (i : Nat) (hi : i < xs.length) :
    ∃ b off, a = some ⟨b, off, none⟩ ∧ b < W.heap.size ∧ W.cell? ⟨b, off + i, none⟩ = some (.bool xs[i]) := by
  obtain ⟨b, off, h1, h2, h3, -⟩ := RdE.at (P := Try.prog) h i hi
  have := h3 0 (by decide)
  rw [show off + i * boolK.n + 0 = off + i from by show off + i * 1 + 0 = off + i; omega] at this
  exact ⟨b, off, h1, h2, this⟩
theorem int_at {W : World} {a : Option Addr} {n c : Nat} {xs : List Int} (h : RdE intK W (.slice a n c) xs) (i : Nat) (hi : i < xs.length) :
    ∃ b off, a = some ⟨b, off, none⟩ ∧ b < W.heap.size ∧ W.cell? ⟨b, off + i, none⟩ = some (.int .i64 xs[i]) := by
  obtain ⟨b, off, h1, h2, h3, -⟩ := RdE.at (P := Try.prog) h i hi
  have := h3 0 (by decide)
  rw [show off + i * intK.n + 0 = off + i from by show off + i * 1 + 0 = off + i; omega] at this
  exact ⟨b, off, h1, h2, this⟩
theorem bool_own {W : World} {B C : Nat} {g n cap : Nat} {xs : List Bool} (h : OwnE boolK W B C (.slice (some ⟨g, 0, none⟩) n cap) xs) (i : Nat) (hi : i < xs.length) :
    W.cell? ⟨g, i, none⟩ = some (.bool xs[i]) ∧ (∀ j, W.frozen? ⟨g, j, none⟩ = false) ∧ g < W.heap.size := by
  obtain ⟨h1, h2, h3, -⟩ := OwnE.at h i hi
  have := h1 0 (by decide)
  rw [show i * boolK.n + 0 = i from by show i * 1 + 0 = i; omega] at this
  exact ⟨this, h2, h3⟩
theorem bool_put {W : World} {B C : Nat} {g n cap : Nat} {xs : List Bool} (h : OwnE boolK W B C (.slice (some ⟨g, 0, none⟩) n cap) xs) (i : Nat) (hi : i < xs.length) (x : Bool) :
    OwnE boolK (W.setCell ⟨g, i, none⟩ (.bool x)) B C (.slice (some ⟨g, 0, none⟩) n cap) (xs.set i x) := by
  have := OwnE.put h i hi x
  rw [show i * boolK.n = i from Nat.mul_one i] at this
  exact this
theorem int_own {W : World} {B C : Nat} {g n cap : Nat} {xs : List Int} (h : OwnE intK W B C (.slice (some ⟨g, 0, none⟩) n cap) xs) (i : Nat) (hi : i < xs.length) :
    W.cell? ⟨g, i, none⟩ = some (.int .i64 xs[i]) ∧ (∀ j, W.frozen? ⟨g, j, none⟩ = false) ∧ g < W.heap.size := by
  obtain ⟨h1, h2, h3, -⟩ := OwnE.at h i hi
  have := h1 0 (by decide)
  rw [show i * intK.n + 0 = i from by show i * 1 + 0 = i; omega] at this
  exact ⟨this, h2, h3⟩
theorem int_put {W : World} {B C : Nat} {g n cap : Nat} {xs : List Int} (h : OwnE intK W B C (.slice (some ⟨g, 0, none⟩) n cap) xs) (i : Nat) (hi : i < xs.length) (x : Int) :
    OwnE intK (W.setCell ⟨g, i, none⟩ (.int .i64 x)) B C (.slice (some ⟨g, 0, none⟩) n cap) (xs.set i x) := by
  have := OwnE.put h i hi x
  rw [show i * intK.n = i from Nat.mul_one i] at this
  exact this
theorem rd_bbox (W : World) (b : Bool) : RdE boolK (W.alloc (.cells #[.bool b] 4)) (.slice (some ⟨W.heap.size, 0, none⟩) 1 1) [b] :=
  (OwnE.of_cel (K := boolK) (B := 0) (C := W.heap.size + 1) (xs := [b]) (Cel.new W 4 #[.bool b]) (Nat.zero_le _) (Nat.lt_succ_self _) (by simp [maxLen])).rd
theorem own_other {α : Type} {K : EK α} {W : World} {B C g i : Nat} {u : Value} {L : List α} (h : OwnE K W B C u L) (hg : g < B) (x : Value) : OwnE K (W.setCell ⟨g, i, none⟩ x) B C u L :=
  h.keepAt fun k hk => Below.heap_setCell _ _ _ _ (fun e => by have := (h.block k hk).1; simp only at e; omega)
theorem rd_of_ints {W : World} {v : Value} {zs : List Int} (h : RdE intK W v zs) : Rd W v zs := by
  obtain ⟨a, c, rfl⟩ := h.form
  refine ⟨a, c, rfl, fun h0 => ?_⟩
  obtain ⟨b, off, rfl, -, -⟩ := int_at h 0 h0
  refine ⟨b, off, rfl, fun j hj => ?_⟩
  obtain ⟨b', off', e, -, hc⟩ := int_at h j hj
  injection e with e
  injection e with e1 e2
  subst e1 e2
  exact hc

/-- Marks from k on. -/
def markB (k : Nat) : Nat → List Bool
  | 0 => []
  | n + 1 => fl3 (k : Int) :: markB (k + 1) n
theorem markB_length (k n : Nat) : (markB k n).length = n := by
  induction n generalizing k with
  | zero => rfl
  | succ n ih => simp [markB, ih]
theorem markB_at (k n i : Nat) (h : i < n) : (markB k n)[i]'(by rw [markB_length]; exact h) = fl3 ((k + i : Nat) : Int) := by
  induction n generalizing k i with
  | zero => omega
  | succ n ih =>
    cases i with
    | zero => simp [markB]
    | succ i =>
      simp only [markB, List.getElem_cons_succ]
      rw [ih (k + 1) i (by omega)]
      congr 2
      omega
theorem markB_snoc (k n : Nat) : markB k (n + 1) = markB k n ++ [fl3 ((k + n : Nat) : Int)] := by
  induction n generalizing k with
  | zero => simp [markB]
  | succ n ih =>
    rw [markB, ih (k + 1), markB]
    simp only [List.cons_append]
    have e : k + 1 + n = k + (n + 1) := by omega
    rw [e]
/-- The first p replaced by marks. -/
def markedB (bs : List Bool) (k p : Nat) : List Bool := markB k p ++ bs.drop p
theorem markedB_zero (bs : List Bool) (k : Nat) : markedB bs k 0 = bs := by simp [markedB, markB]
theorem markedB_all (bs : List Bool) (k : Nat) : markedB bs k bs.length = markB k bs.length := by simp [markedB]
theorem markedB_length (bs : List Bool) (k p : Nat) (h : p ≤ bs.length) : (markedB bs k p).length = bs.length := by simp [markedB, markB_length]; omega
theorem markedB_succ (bs : List Bool) (k p : Nat) (h : p < bs.length) : markedB bs k (p + 1) = (markedB bs k p).set p (fl3 ((k + p : Nat) : Int)) := by
  unfold markedB
  rw [markB_snoc, List.set_append_right _ _ (by rw [markB_length]; omega), markB_length, Nat.sub_self]
  conv => rhs; rw [List.drop_eq_getElem_cons h]
  rw [List.set_cons_zero, List.append_assoc]
  rfl
attribute [irreducible] markB markedB

end Go.Proofs.Ytoeflkmhofkiaaa

namespace Go.Proofs.Ytoeflkmhofkiaaa
open Go.RowKit
set_option maxRecDepth 100000

def backR (r : Rv) : Rv := ⟨r.far, r.own, r.port⟩
theorem back_back (r : Rv) : backR (backR r) = r := rfl

set_option maxRecDepth 100000 in
theorem spec_roadBack (m : Rv) (w : World) :
    Calls Try.prog 23 #[.agg #[.int .i64 m.own, .int .i64 m.far, .int .i64 m.port]] w fun e w' => e = .returned (.agg #[.int .i64 (backR m).own, .int .i64 (backR m).far, .int .i64 (backR m).port]) ∧ Below w.heap.size w w' := by
  have hb : Below w.heap.size w ((w.alloc (.cells #[.int .i64 m.own, .int .i64 m.far, .int .i64 m.port] 26)).alloc (.cells #[.int .i64 m.far, .int .i64 m.own, .int .i64 m.port] 26)) := ((Below.refl _ _).alloc (Nat.le_refl _) _).alloc (by simp) _
  have HB := Lib.hid hb
  clear hb
  go_enter Try.func23, Try.ntmps23
  go_wp2_with (fail)
  exact bodyPost_ret (v := .agg #[.int .i64 m.far, .int .i64 m.own, .int .i64 m.port]) (by simp [results, Try.results23, go_sem]) rfl ⟨rfl, HB.out⟩

end Go.Proofs.Ytoeflkmhofkiaaa

namespace Go.Proofs.Ytoeflkmhofkiaaa
open Go.RowKit
set_option maxRecDepth 100000

set_option linter.unusedSimpArgs false in
set_option maxRecDepth 100000 in
set_option maxHeartbeats 4000000 in
theorem impl_numbersOk (v : Value) (zs : List Int) (w : World) (hv : RdE intK w v zs) (hl : zs.length ≤ 1048577) :
    Calls Try.prog 68 #[v] w fun e w' => e = .returned (.bool (zs.all fun n => decide ((0 : Int) ≤ n ∧ n ≤ 1000000000))) ∧ w = w' := by
  obtain ⟨a, c, rfl⟩ := hv.form
  obtain ⟨res, hres⟩ : ∃ res, (zs.all fun n => decide ((0 : Int) ≤ n ∧ n ≤ 1000000000)) = res := ⟨_, rfl⟩
  rw [hres]
  have HR := Lib.hid (And.intro hres hv)
  clear hres hv
  go_enter Try.func68, Try.ntmps68
  go_wp2_with (fail)
  go_loop [7] (fun i => ∃ k : Nat, k ≤ zs.length ∧ i = .int .i64 k ∧ ((zs.drop k).all fun n => decide ((0 : Int) ≤ n ∧ n ≤ 1000000000)) = res) (fun i => zs.length - (intOf i).toNat)
  case atStart => exact ⟨0, by omega, rfl, HR.out.1⟩
  case round =>
    obtain ⟨k, hk, rfl, hr⟩ := hrel
    by_cases hlt : k < zs.length
    · have q : (0 : Int) ≤ (k : Int) ∧ (k : Int) < (zs.length : Int) := by omega
      obtain ⟨b, off, ha, -, kc⟩ := int_at HR.out.2 k hlt
      subst ha
      rw [List.drop_eq_getElem_cons hlt, List.all_cons] at hr
      generalize zs[k] = z at *
      have c1 := fun W => impl_within z 0 1000000000 W
      go_wp2_with (fail)
      with_reducible refine (c1 _).mono ?_
      rintro e w3 ⟨rfl, rfl⟩
      clear c1 kc
      cases hz : decide ((0 : Int) ≤ z ∧ z ≤ 1000000000) with
      | true =>
        rw [hz, Bool.true_and] at hr
        have HX := Lib.hid hr
        clear hr hz
        go_wp2_with (fail)
        go_round
        case rel => exact ⟨k + 1, by omega, by go_num, HX.out⟩
        case measure => simp [intOf]; omega
      | false =>
        rw [hz, Bool.false_and] at hr
        subst hr
        clear hz
        go_wp2_with (fail)
        go_ret
        exact ⟨rfl, rfl⟩
    · obtain rfl : k = zs.length := by omega
      have q : ¬ (zs.length : Int) < (zs.length : Int) := by omega
      obtain rfl : true = res := by rw [← hr, List.drop_eq_nil_of_le (by omega)]; rfl
      clear hr
      go_wp2_with (fail)
      go_ret
      exact ⟨rfl, rfl⟩
end Go.Proofs.Ytoeflkmhofkiaaa

