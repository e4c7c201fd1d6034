import Derived.Test.YtmfbhejclmelaaaAif
import Derived.Test.YtmfbhejclmelaaaEk2
import Derived.Test.YtmfbhejclmelaaaIntsL
namespace Go.Proofs.Ytmfbhejclmelaaa
open Go.RowKit

theorem intK_flat (l : List Int) : intK.flat l = l.map (Value.int .i64) := by
  induction l with
  | nil => rfl
  | cons x r ih => simp only [EK.flat, List.map_cons, ih]; rfl
theorem own_irow {W : World} {B C : Nat} {v : Value} {zs : List Int} (h : OwnE intK W B C v zs) : IRow W B C v zs := ⟨by rw [← intK_flat]; exact h.1, h.2⟩

/-- s[:h] -/
theorem LieE.cut_to {α : Type} {K : EK α} {tS : TypeId} (hS : Try.prog.underlying tS = some (.slice K.t)) {W : World} {B C c : Nat} {a : Option Addr} {xs : List α} (h : LieE K W B C (.slice a xs.length c) xs) (hh : Nat) (hn : hh ≤ xs.length) :
    ∃ a', (∀ W', (Instr.slice tS (.slice a xs.length c) none (some (.int .i64 (hh : Int))) none).run Try.prog W' = .ok (.slice a' hh c) W') ∧ ∀ W', LieE K W' B C (.slice a xs.length c) xs → LieE K W' B C (.slice a' hh c) (xs.take hh) := by
  obtain ⟨i0, hq, -, hz1, -⟩ := einfo K
  have hc : xs.length ≤ c := by
    obtain ⟨a', c', he, hc, -⟩ := h
    injection he with e1 e2 e3
    omega
  refine ⟨if c = 0 then a else a.map (·.add (0 * K.n)), fun W' => ?_, fun W' h' => ?_⟩
  · have h2 : (0 : Int) ≤ (hh : Int) ∧ (hh : Int) ≤ (c : Int) := by omega
    have h3 : hh ≤ c := by omega
    simp [Instr.slice, run_underlying hS, Instr.sliceBounds, Instr.sliceBound, asIntOf, h2, h3, sizeOf, typeInfo, hq]
  · have := LieE.cut h' 0 hh c (Nat.zero_le _) hn (by omega) (Nat.le_refl _)
    simpa using this

set_option maxRecDepth 100000 in
set_option maxHeartbeats 1000000 in
theorem spec_addrAt (v : Value) (ms : List Av) (s : Int) (w : World) (hv : RdV w v ms) (hn : ms.length ≤ 1048577) :
    Calls Try.prog 26 #[v, .int .i64 s] w fun e w' => e = .returned (.int .i64 (atInt ms s)) ∧ w = w' := by
  obtain ⟨a, c, rfl⟩ := hv.form
  generalize hres : atInt ms s = res
  unfold atInt at hres
  generalize hg : atA s ms = g at hres
  have HG := Lib.hid hg
  have HRES := Lib.hid hres
  clear hg hres
  go_enter Try.func26, Try.ntmps26
  go_wp2_with (fail)
  go_loop [5] (fun i => ∃ k : Nat, k ≤ ms.length ∧ i = .int .i64 k ∧ (atA s (ms.drop k)).map (· + k) = g) (fun i => ms.length - (intOf i).toNat)
  case atStart => exact ⟨0, by omega, rfl, by rw [List.drop_zero, HG.out]; simp⟩
  case round =>
    clear HG
    obtain ⟨k, hk, rfl, hr⟩ := hrel
    by_cases hlt : k < ms.length
    · have q : (0 : Int) ≤ (k : Int) ∧ (k : Int) < (ms.length : Int) := by omega
      obtain ⟨b, off, ha, hb, k0, -⟩ := av_at (P := Try.prog) hv k hlt
      subst ha
      rw [List.drop_eq_getElem_cons hlt] at hr
      unfold atA at hr
      generalize ms[k] = m at *
      by_cases hp : m.id = s
      · rw [if_pos hp] at hr
        subst hp
        obtain rfl : (k : Int) = res := by have := HRES.out; rw [← hr] at this; simpa using this
        clear hr HRES hv
        go_wp2_with (fail)
        go_ret
        exact ⟨rfl, rfl⟩
      · rw [if_neg hp] at hr
        have hp2 : (m.id == s) = false := by simpa using hp
        have HR := Lib.hid hr
        clear hr
        go_wp2_with (fail)
        go_round
        case rel =>
          refine ⟨k + 1, by omega, by go_num, ?_⟩
          have := HR.out
          rw [Option.map_map] at this
          rw [← this]
          congr 1
          funext x
          simp
          omega
        case measure => simp [intOf]; omega
    · obtain rfl : k = ms.length := by omega
      rw [List.drop_length] at hr
      obtain rfl : (-1 : Int) = res := by have := HRES.out; rw [← hr] at this; simpa [atA] using this
      clear hr HRES hv
      go_wp2_with (fail)
      go_ret
      exact ⟨rfl, rfl⟩

theorem untold_take (ms : List Av) (k : Nat) (h : k < ms.length) : untoldA (ms.take (k + 1)) = untoldA (ms.take k) ++ (if ms[k].told = true then [] else [ms[k].id]) := by
  rw [List.take_succ_eq_append_getElem h, untold_append]
  congr 1
theorem rd_ibox (W : World) (n : Int) : RdE intK (W.alloc (.cells #[.int .i64 n] 3)) (.slice (some ⟨W.heap.size, 0, none⟩) 1 1) [n] :=
  (OwnE.of_cel (K := intK) (B := 0) (C := W.heap.size + 1) (xs := [n]) (Cel.new W 3 #[.int .i64 n]) (Nat.zero_le _) (Nat.lt_succ_self _) (by simp [maxLen])).rd

set_option maxRecDepth 100000 in
set_option maxHeartbeats 2000000 in
theorem impl_untold (v : Value) (ms : List Av) (w : World) (hv : RdV w v ms) (hn : ms.length ≤ 1048577) :
    Calls Try.prog 16 #[v] w fun e w' => ∃ u, e = .returned u ∧ OwnE intK w' w.heap.size w'.heap.size u (untoldA ms) ∧ Below w.heap.size w w' := by
  obtain ⟨a, c, rfl⟩ := hv.form
  have hO0 : OwnE intK w w.heap.size w.heap.size (.slice none 0 0) [] := OwnE.nil
  have hB0 := Below.refl w.heap.size w
  go_enter Try.func16, Try.ntmps16
  go_wp2_with (fail)
  go_loopw [3, 8] (fun u i wr => ∃ k : Nat, k ≤ ms.length ∧ i = .int .i64 k ∧ OwnE intK wr w.heap.size wr.heap.size u (untoldA (ms.take k)) ∧ Below w.heap.size w wr) (fun _ i _ => ms.length - (intOf i).toNat)
  case atStart => exact ⟨0, by omega, rfl, hO0, hB0⟩
  case round =>
    clear hO0 hB0
    obtain ⟨k, hk, rfl, hO, hB⟩ := hrel
    by_cases hlt : k < ms.length
    · have q : (0 : Int) ≤ (k : Int) ∧ (k : Int) < (ms.length : Int) := by omega
      obtain ⟨b, off, ha, hb, k0, k1, k2, k3, -⟩ := av_at (P := Try.prog) (hv.below hB) k hlt
      subst ha
      have hs := untold_take ms k hlt
      have hle := untold_len (ms.take k)
      rw [List.length_take] at hle
      generalize ms[k] = m at *
      obtain ⟨L', hL'⟩ : ∃ L', untoldA (ms.take (k + 1)) = L' := ⟨_, rfl⟩
      rw [hL'] at hs
      have HLQ := Lib.hid hL'
      clear hL'
      generalize untoldA (ms.take k) = L at *
      obtain ⟨ua, uc, rfl, -⟩ := hO.form
      cases hT : m.told with
      | true =>
        rw [hT, if_pos rfl, List.append_nil] at hs
        rw [hT] at k3
        subst hs
        have HX := Lib.hid (And.intro (hO.full (below_av wr m)) (Below.then_ hB (below_av wr m)))
        rw [hT] at HX
        clear hO hB hv hT
        go_wp2_with (fail)
        go_roundw
        case rel => exact ⟨k + 1, by omega, by go_num, by rw [HLQ.out]; exact HX.out.1, HX.out.2⟩
        case measure => simp [intOf]; omega
      | false =>
        rw [hT, if_neg (by decide)] at hs
        rw [hT] at k3
        have hO1 := (hO.full (below_av wr m)).full (below_new _ (.cells #[.int .i64 m.id] 3))
        have hB1 := Below.then_ (Below.then_ hB (below_av wr m)) (below_new _ (.cells #[.int .i64 m.id] 3))
        have hR1 := rd_ibox (wr.alloc (.cells #[.int .i64 m.id, .int .i64 m.addr, .bool m.spare, .bool m.told] 26)) m.id
        have hle1 := hB1.size
        rw [hT] at hO1 hB1 hR1 hle1
        rw [World.size_alloc] at hR1
        have HX := Lib.hid (And.intro hO1 (And.intro hB1 (And.intro hR1 hle1)))
        have HL := Lib.hid hle
        clear hO hB hv hT hO1 hB1 hR1 hle1 hle
        go_wp2_with (at_builtin; go_loud (refine wpList_append_els intK rfl _ _ 35 35 rfl uIs uIs w.heap.size _ (.slice (some ⟨wr.heap.size + 1, 0, none⟩) 1 1) L [m.id] rfl rfl HX.out.1 HX.out.2.2.2 HX.out.2.2.1 (by have := HL.out; simp; omega) ?_; intro u' w1 hown hgrow hloc; have HN := Lib.hid (And.intro hown (HX.out.2.1.grown hgrow HX.out.2.2.2 (fun g hg => (HX.out.1.block g hg).1))); rw [← hs] at HN; clear hown hgrow hloc))
        obtain ⟨ua2, uc2, rfl, -⟩ := HN.out.1.form
        go_wp2_with (fail)
        go_roundw
        case rel => exact ⟨k + 1, by omega, by go_num, by rw [HLQ.out]; exact HN.out.1, HN.out.2⟩
        case measure => simp [intOf]; omega
    · obtain rfl : k = ms.length := by omega
      have q : ¬ (ms.length : Int) < (ms.length : Int) := by omega
      rw [List.take_length] at hO
      have HX := Lib.hid (And.intro hO hB)
      obtain ⟨ua, uc, rfl, -⟩ := hO.form
      clear hO hB hv
      go_wp2_with (fail)
      go_ret
      exact ⟨_, rfl, HX.out.1, HX.out.2⟩

set_option maxRecDepth 100000 in
set_option maxHeartbeats 2000000 in
theorem spec_untold (v : Value) (ms : List Av) (w : World) (hv : RdV w v ms) (hn : ms.length ≤ 1048577) :
    Calls Try.prog 27 #[v] w fun e w' => ∃ u, e = .returned u ∧ OwnE intK w' w.heap.size w'.heap.size u (untoldA ms) ∧ Below w.heap.size w w' := by
  obtain ⟨a, c, rfl⟩ := hv.form
  have hO0 := eown_empty intK w
  have hB0 := below_new w (.cells #[] 3)
  go_enter Try.func27, Try.ntmps27
  go_wp2_with (fail)
  go_loopw [3, 4] (fun u i wr => ∃ k : Nat, k ≤ ms.length ∧ i = .int .i64 k ∧ OwnE intK wr w.heap.size wr.heap.size u (untoldA (ms.take k)) ∧ Below w.heap.size w wr) (fun _ i _ => ms.length - (intOf i).toNat)
  case atStart => exact ⟨0, by omega, rfl, hO0, hB0⟩
  case round =>
    clear hO0 hB0
    obtain ⟨k, hk, rfl, hO, hB⟩ := hrel
    by_cases hlt : k < ms.length
    · have q : (0 : Int) ≤ (k : Int) ∧ (k : Int) < (ms.length : Int) := by omega
      obtain ⟨b, off, ha, hb, k0, k1, k2, k3, -⟩ := av_at (P := Try.prog) (hv.below hB) k hlt
      subst ha
      have hs := untold_take ms k hlt
      have hle := untold_len (ms.take k)
      rw [List.length_take] at hle
      generalize ms[k] = m at *
      obtain ⟨L', hL'⟩ : ∃ L', untoldA (ms.take (k + 1)) = L' := ⟨_, rfl⟩
      rw [hL'] at hs
      have HLQ := Lib.hid hL'
      clear hL'
      generalize untoldA (ms.take k) = L at *
      obtain ⟨ua, uc, rfl, -⟩ := hO.form
      cases hT : m.told with
      | true =>
        rw [hT, if_pos rfl, List.append_nil] at hs
        rw [hT] at k3
        subst hs
        have HX := Lib.hid (And.intro hO hB)
        clear hO hB hv hT
        go_wp2_with (fail)
        go_roundw
        case rel => exact ⟨k + 1, by omega, by go_num, by rw [HLQ.out]; exact HX.out.1, HX.out.2⟩
        case measure => simp [intOf]; omega
      | false =>
        rw [hT, if_neg (by decide)] at hs
        rw [hT] at k3
        have hO1 := hO.full (below_new wr (.cells #[.int .i64 m.id] 3))
        have hB1 := Below.then_ hB (below_new wr (.cells #[.int .i64 m.id] 3))
        have hR1 := rd_ibox wr m.id
        have hle1 : w.heap.size ≤ (wr.alloc (.cells #[.int .i64 m.id] 3)).heap.size := hB1.size
        have HX := Lib.hid (And.intro hO1 (And.intro hB1 (And.intro hR1 hle1)))
        have HL := Lib.hid hle
        clear hO hB hv hT hO1 hB1 hR1 hle1 hle
        go_wp2_with (at_builtin; go_loud (refine wpList_append_els intK rfl _ _ 35 35 rfl uIs uIs w.heap.size _ (.slice (some ⟨wr.heap.size, 0, none⟩) 1 1) L [m.id] rfl rfl HX.out.1 HX.out.2.2.2 HX.out.2.2.1 (by have := HL.out; simp; omega) ?_; intro u' w1 hown hgrow hloc; have HN := Lib.hid (And.intro hown (HX.out.2.1.grown hgrow HX.out.2.2.2 (fun g hg => (HX.out.1.block g hg).1))); rw [← hs] at HN; clear hown hgrow hloc))
        obtain ⟨ua2, uc2, rfl, -⟩ := HN.out.1.form
        go_wp2_with (fail)
        go_roundw
        case rel => exact ⟨k + 1, by omega, by go_num, by rw [HLQ.out]; exact HN.out.1, HN.out.2⟩
        case measure => simp [intOf]; omega
    · obtain rfl : k = ms.length := by omega
      have q : ¬ (ms.length : Int) < (ms.length : Int) := by omega
      rw [List.take_length] at hO
      have HX := Lib.hid (And.intro hO hB)
      obtain ⟨ua, uc, rfl, -⟩ := hO.form
      clear hO hB hv
      go_wp2_with (fail)
      go_ret
      exact ⟨_, rfl, HX.out.1, HX.out.2⟩
end Go.Proofs.Ytmfbhejclmelaaa
