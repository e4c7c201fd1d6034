import Derived.Test.YtnlbeoifmdfbjaaOss
namespace Go.Proofs.Ytnlbeoifmdfbjaa
open Go.RowKit

set_option maxRecDepth 100000 in
set_option maxHeartbeats 1000000 in
theorem ssame_ids (o p : Ov) (v u : Value) (w : World) (hv : Rd w v o.ids) (hu : Rd w u p.ids) (hn : o.ids.length ≤ 1048576) (hn' : p.ids.length ≤ 1048576) (hno : ¬ o.ids = p.ids) :
    Calls Try.prog 18 #[.agg (o.cells v), .agg (p.cells u)] w fun e w' => e = .returned (.bool false) ∧ Below w.heap.size w w' := by
  have hB : Below w.heap.size w ((w.alloc (.cells (o.cells v) 26)).alloc (.cells (p.cells u) 26)) := ((Below.refl _ _).alloc (Nat.le_refl _) _).alloc (by simp) _
  have hA0 : OvAt ((w.alloc (.cells (o.cells v) 26)).alloc (.cells (p.cells u) 26)) w.heap.size o v := (OvAt.new w o v).alloc _
  have hA1 := OvAt.new (w.alloc (.cells (o.cells v) 26)) p u
  rw [World.size_alloc] at hA1
  have hr := hv.below hB
  have hr' := hu.below hB
  have a13 := hA0.all.2.2.2.2.2.2.2.2.2.2.2.2.2
  have b13 := hA1.all.2.2.2.2.2.2.2.2.2.2.2.2.2
  clear hA0 hA1 hv hu
  generalize hW : (w.alloc (.cells (o.cells v) 26)).alloc (.cells (p.cells u) 26) = W at hB hr hr' a13 b13
  have HW := Lib.hid hW
  clear hW
  generalize o.ids = xs at hr hn hno
  generalize p.ids = ys at hr' hn' hno
  obtain ⟨va, vc, rfl, hc⟩ := hr
  obtain ⟨ua, uc, rfl, hc'⟩ := hr'
  by_cases hl : xs.length = ys.length
  · have hle := agree_le xs ys
    have hpl : agree xs ys < ys.length := by
      rcases Nat.lt_or_ge (agree xs ys) ys.length with h | h
      · exact h
      · exact absurd (agree_all xs ys hl (by omega)) hno
    rw [hl] at a13 HW ⊢
    have HL := Lib.hid hl
    have HP := Lib.hid hpl
    clear hl hpl
    go_enter Try.func18, Try.ntmps18
    go_upto_region 1 with (fail)
    rw [HW.out]
    clear HW
    go_wp2_with (fail)
    go_loopw [5] (fun i wr => ∃ k : Nat, k ≤ agree xs ys ∧ i = .int .i64 k ∧ ∃ m, wr = W.drewN m) (fun i _ => ys.length - (intOf i).toNat)
    case atStart => exact ⟨0, by omega, rfl, 0, rfl⟩
    case round =>
      obtain ⟨k, hk, rfl, m, rfl⟩ := hrel
      have hxl := HL.out
      have hpl := HP.out
      have hlt : k < ys.length := by omega
      obtain ⟨b, off, rfl, hcc⟩ := hc (by omega)
      obtain ⟨b', off', rfl, hcc'⟩ := hc' (by omega)
      have h1 := hcc k (by omega)
      have h2 := hcc' k hlt
      have q : (0 : Int) ≤ (k : Int) ∧ (k : Int) < (ys.length : Int) := by omega
      by_cases he : k < agree xs ys
      · rw [agree_eq xs ys k he (by omega) hlt] at h1
        generalize ys[k] = x at h1 h2
        clear hc hc' hcc hcc' hxl hpl
        go_wp2_with (fail)
        go_quiet (fail)
        go_wp2_with (fail)
        go_roundw
        case rel => exact ⟨k + 1, by omega, by go_num, _, by first | rfl | exact World.drewN_drewN _ _ _⟩
        case measure => simp [intOf]; omega
      · obtain rfl : k = agree xs ys := by omega
        have hne := agree_ne xs ys (by omega) hlt
        have hb : ((xs[agree xs ys]'(by omega)) == ys[agree xs ys]) = false := by simpa using hne
        generalize (xs[agree xs ys]'(by omega)) = x at h1 hne hb
        generalize ys[agree xs ys] = y at h2 hne hb
        generalize agree xs ys = k at *
        clear hc hc' hcc hcc' hxl hpl hle hno
        go_wp2_with (fail)
        go_quiet (fail)
        go_wp2_with (fail)
        go_ret
        exact ⟨rfl, ⟨hB.os, hB.tape, hB.output, hB.size, hB.block⟩⟩
  · have hb : ((xs.length : Int) == (ys.length : Int)) = false := by simp; omega
    have hne : ¬ (xs.length : Int) = (ys.length : Int) := by omega
    clear hl hno hc hc'
    go_enter Try.func18, Try.ntmps18
    go_upto_region 1 with (fail)
    rw [HW.out]
    clear HW
    go_wp2_with (fail)
    go_ret
    exact ⟨rfl, hB⟩

theorem spec_same (o p : Ov) (v u : Value) (w : World) (hv : Rd w v o.ids) (hu : Rd w u p.ids) (hn : o.ids.length ≤ 1048576) (hn' : p.ids.length ≤ 1048576) :
    Calls Try.prog 18 #[.agg (o.cells v), .agg (p.cells u)] w fun e w' => e = .returned (.bool (sameOv o p)) ∧ Below w.heap.size w w' := by
  by_cases e13 : p.ids = o.ids
  · rw [e13] at hu
    skip
    by_cases e0 : p.kind = o.kind
    · skip
      by_cases e1 : p.id = o.id
      · skip
        by_cases e2 : p.addr = o.addr
        · skip
          by_cases e3 : p.port = o.port
          · skip
            by_cases e4 : p.token = o.token
            · skip
              by_cases e5 : p.nonce = o.nonce
              · skip
                by_cases e6 : p.seq = o.seq
                · skip
                  by_cases e7 : p.sub = o.sub
                  · skip
                    by_cases e8 : p.len = o.len
                    · skip
                      by_cases e9 : p.ack = o.ack
                      · skip
                        by_cases e10 : p.flag = o.flag
                        · skip
                          by_cases e11 : p.key = o.key
                          · skip
                            by_cases e12 : p.mark = o.mark
                            · skip
                              rw [(sameOv_iff o p).2 (by cases o; cases p; simp_all)]
                              exact ssame_yes o p v u w hv hu hn e0 e1 e2 e3 e4 e5 e6 e7 e8 e9 e10 e11 e12
                            · rw [sameOv_no o p (fun h => e12 (by rw [h]))]
                              exact ssame_no12 o p v u w hv hu hn e0 e1 e2 e3 e4 e5 e6 e7 e8 e9 e10 e11 (fun h => e12 h.symm)
                          · rw [sameOv_no o p (fun h => e11 (by rw [h]))]
                            exact ssame_no11 o p v u w hv hu hn e0 e1 e2 e3 e4 e5 e6 e7 e8 e9 e10 (fun h => e11 h.symm)
                        · rw [sameOv_no o p (fun h => e10 (by rw [h]))]
                          exact ssame_no10 o p v u w hv hu hn e0 e1 e2 e3 e4 e5 e6 e7 e8 e9 (fun h => e10 h.symm)
                      · rw [sameOv_no o p (fun h => e9 (by rw [h]))]
                        exact ssame_no9 o p v u w hv hu hn e0 e1 e2 e3 e4 e5 e6 e7 e8 (fun h => e9 h.symm)
                    · rw [sameOv_no o p (fun h => e8 (by rw [h]))]
                      exact ssame_no8 o p v u w hv hu hn e0 e1 e2 e3 e4 e5 e6 e7 (fun h => e8 h.symm)
                  · rw [sameOv_no o p (fun h => e7 (by rw [h]))]
                    exact ssame_no7 o p v u w hv hu hn e0 e1 e2 e3 e4 e5 e6 (fun h => e7 h.symm)
                · rw [sameOv_no o p (fun h => e6 (by rw [h]))]
                  exact ssame_no6 o p v u w hv hu hn e0 e1 e2 e3 e4 e5 (fun h => e6 h.symm)
              · rw [sameOv_no o p (fun h => e5 (by rw [h]))]
                exact ssame_no5 o p v u w hv hu hn e0 e1 e2 e3 e4 (fun h => e5 h.symm)
            · rw [sameOv_no o p (fun h => e4 (by rw [h]))]
              exact ssame_no4 o p v u w hv hu hn e0 e1 e2 e3 (fun h => e4 h.symm)
          · rw [sameOv_no o p (fun h => e3 (by rw [h]))]
            exact ssame_no3 o p v u w hv hu hn e0 e1 e2 (fun h => e3 h.symm)
        · rw [sameOv_no o p (fun h => e2 (by rw [h]))]
          exact ssame_no2 o p v u w hv hu hn e0 e1 (fun h => e2 h.symm)
      · rw [sameOv_no o p (fun h => e1 (by rw [h]))]
        exact ssame_no1 o p v u w hv hu hn e0 (fun h => e1 h.symm)
    · rw [sameOv_no o p (fun h => e0 (by rw [h]))]
      exact ssame_no0 o p v u w hv hu hn  (fun h => e0 h.symm)
  · rw [sameOv_no o p (fun h => e13 (by rw [h]))]
    exact ssame_ids o p v u w hv hu hn hn' (fun h => e13 h.symm)
end Go.Proofs.Ytnlbeoifmdfbjaa
