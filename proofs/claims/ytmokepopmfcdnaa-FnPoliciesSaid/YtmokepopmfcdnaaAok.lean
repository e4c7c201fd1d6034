import Derived.Test.YtmokepopmfcdnaaAif
import Derived.Test.YtmokepopmfcdnaaEk2
import Derived.Test.YtmokepopmfcdnaaIntsL
namespace Go.Proofs.Ytmokepopmfcdnaa
open Go.RowKit

theorem intK_flat (l : List Int) : intK.flat l = l.map (Value.int .i64) := by
  induction l with
  | nil => rfl
  | cons x r ih => simp only [EK.flat, List.map_cons, ih]; rfl
theorem own_irow {W : World} {B C : Nat} {v : Value} {zs : List Int} (h : OwnE intK W B C v zs) : IRow W B C v zs := ⟨by rw [← intK_flat]; exact h.1, h.2⟩

/-- s[:h] -/
theorem LieE.cut_to {α : Type} {K : EK α} {tS : TypeId} (hS : Try.prog.underlying tS = some (.slice K.t)) {W : World} {B C c : Nat} {a : Option Addr} {xs : List α} (h : LieE K W B C (.slice a xs.length c) xs) (hh : Nat) (hn : hh ≤ xs.length) :
    ∃ a', (∀ W', (Instr.slice tS (.slice a xs.length c) none (some (.int .i64 (hh : Int))) none).run Try.prog W' = .ok (.slice a' hh c) W') ∧ ∀ W', LieE K W' B C (.slice a xs.length c) xs → LieE K W' B C (.slice a' hh c) (xs.take hh) := by
  obtain ⟨i0, hq, -, hz1, -⟩ := einfo K
  have hc : xs.length ≤ c := by
    obtain ⟨a', c', he, hc, -⟩ := h
    injection he with e1 e2 e3
    omega
  refine ⟨if c = 0 then a else a.map (·.add (0 * K.n)), fun W' => ?_, fun W' h' => ?_⟩
  · have h2 : (0 : Int) ≤ (hh : Int) ∧ (hh : Int) ≤ (c : Int) := by omega
    have h3 : hh ≤ c := by omega
    simp [Instr.slice, run_underlying hS, Instr.sliceBounds, Instr.sliceBound, asIntOf, h2, h3, sizeOf, typeInfo, hq]
  · have := LieE.cut h' 0 hh c (Nat.zero_le _) hn (by omega) (Nat.le_refl _)
    simpa using this

set_option maxRecDepth 100000 in
set_option maxHeartbeats 1000000 in
theorem spec_addrAt (v : Value) (ms : List Av) (s : Int) (w : World) (hv : RdV w v ms) (hn : ms.length ≤ 1048577) :
    Calls Try.prog 53 #[v, .int .i64 s] w fun e w' => e = .returned (.int .i64 (atInt ms s)) ∧ w = w' := by
  obtain ⟨a, c, rfl⟩ := hv.form
  generalize hres : atInt ms s = res
  unfold atInt at hres
  generalize hg : atA s ms = g at hres
  have HG := Lib.hid hg
  have HRES := Lib.hid hres
  clear hg hres
  go_enter Try.func53, Try.ntmps53
  go_wp2_with (fail)
  go_loop [5] (fun i => ∃ k : Nat, k ≤ ms.length ∧ i = .int .i64 k ∧ (atA s (ms.drop k)).map (· + k) = g) (fun i => ms.length - (intOf i).toNat)
  case atStart => exact ⟨0, by omega, rfl, by rw [List.drop_zero, HG.out]; simp⟩
  case round =>
    clear HG
    obtain ⟨k, hk, rfl, hr⟩ := hrel
    by_cases hlt : k < ms.length
    · have q : (0 : Int) ≤ (k : Int) ∧ (k : Int) < (ms.length : Int) := by omega
      obtain ⟨b, off, ha, hb, k0, -⟩ := av_at (P := Try.prog) hv k hlt
      subst ha
      rw [List.drop_eq_getElem_cons hlt] at hr
      unfold atA at hr
      generalize ms[k] = m at *
      by_cases hp : m.id = s
      · rw [if_pos hp] at hr
        subst hp
        obtain rfl : (k : Int) = res := by have := HRES.out; rw [← hr] at this; simpa using this
        clear hr HRES hv
        go_wp2_with (fail)
        go_ret
        exact ⟨rfl, rfl⟩
      · rw [if_neg hp] at hr
        have hp2 : (m.id == s) = false := by simpa using hp
        have HR := Lib.hid hr
        clear hr
        go_wp2_with (fail)
        go_round
        case rel =>
          refine ⟨k + 1, by omega, by go_num, ?_⟩
          have := HR.out
          rw [Option.map_map] at this
          rw [← this]
          congr 1
          funext x
          simp
          omega
        case measure => simp [intOf]; omega
    · obtain rfl : k = ms.length := by omega
      rw [List.drop_length] at hr
      obtain rfl : (-1 : Int) = res := by have := HRES.out; rw [← hr] at this; simpa [atA] using this
      clear hr HRES hv
      go_wp2_with (fail)
      go_ret
      exact ⟨rfl, rfl⟩

theorem untold_take (ms : List Av) (k : Nat) (h : k < ms.length) : untoldA (ms.take (k + 1)) = untoldA (ms.take k) ++ (if ms[k].told = true then [] else [ms[k].id]) := by
  rw [List.take_succ_eq_append_getElem h, untold_append]
  congr 1
theorem rd_ibox (W : World) (n : Int) : RdE intK (W.alloc (.cells #[.int .i64 n] 3)) (.slice (some ⟨W.heap.size, 0, none⟩) 1 1) [n] :=
  (OwnE.of_cel (K := intK) (B := 0) (C := W.heap.size + 1) (xs := [n]) (Cel.new W 3 #[.int .i64 n]) (Nat.zero_le _) (Nat.lt_succ_self _) (by simp [maxLen])).rd

end Go.Proofs.Ytmokepopmfcdnaa
