import Derived.Test.YtmfbhejclmelaaaAdu
import Derived.Test.YtmfbhejclmelaaaAqd
namespace Go.Proofs.Ytmfbhejclmelaaa
open Go.RowKit

set_option linter.unusedSimpArgs false in
set_option maxRecDepth 100000 in
set_option maxHeartbeats 2000000 in
theorem same_addrs (v u : Value) (ms : List Av) (w : World) (hv : RdV w v ms) (hu : RdV w u ms) (hn : ms.length ≤ 1048577) :
    Calls Try.prog 12 #[v, u] w fun e w' => e = .returned (.bool true) ∧ Below w.heap.size w w' := by
  have hv0 := hv
  have hu0 := hu
  obtain ⟨a, c, rfl⟩ := hv.form
  obtain ⟨a', c', rfl⟩ := hu.form
  clear hv hu
  go_enter Try.func12, Try.ntmps12
  go_wp2_with (fail)
  go_loopw [5] (fun i wr => ∃ k : Nat, k ≤ ms.length ∧ i = .int .i64 k ∧ RdV wr (.slice a ms.length c) ms ∧ RdV wr (.slice a' ms.length c') ms ∧ Below w.heap.size w wr) (fun i _ => ms.length - (intOf i).toNat)
  case atStart => exact ⟨0, by omega, rfl, hv0, hu0, Below.refl _ _⟩
  case round =>
    clear hv0 hu0
    obtain ⟨k, hk, rfl, hR, hU, hB⟩ := hrel
    by_cases hlt : k < ms.length
    · have q : (0 : Int) ≤ (k : Int) ∧ (k : Int) < (ms.length : Int) := by omega
      obtain ⟨b, off, ha, -, k0, k1, k2, k3, -⟩ := av_at (P := Try.prog) hR k hlt
      subst ha
      obtain ⟨b', off', ha, -, j0, j1, j2, j3, -⟩ := av_at (P := Try.prog) hU k hlt
      subst ha
      have hne := fun W => neq_av ms[k] ms[k] W false (by simp)
      generalize ms[k] = m at *
      have HH := Lib.hid (And.intro hR (And.intro hU hB))
      clear hR hU hB
      go_wp2_with (fail)
      go_quiet (fail)
      go_wp2_with (fail)
      go_roundw
      case rel => exact ⟨k + 1, by omega, by go_num, HH.out.1.drewN, HH.out.2.1.drewN, Below.then_ HH.out.2.2 (dN_below _ _)⟩
      case measure => simp [intOf]; omega
    · obtain rfl : k = ms.length := by omega
      have q : ¬ (ms.length : Int) < (ms.length : Int) := by omega
      clear hR hU
      go_wp2_with (fail)
      go_ret
      exact ⟨rfl, hB⟩
end Go.Proofs.Ytmfbhejclmelaaa
