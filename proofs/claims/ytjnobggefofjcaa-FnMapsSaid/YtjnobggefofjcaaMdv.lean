import Derived.Test.YtjnobggefofjcaaMdu
import Derived.BigQuiet
namespace Go.Proofs.Ytjnobggefofjcaa
open Go.RowKit

set_option maxHeartbeats 4000000 in
set_option maxRecDepth 100000 in
theorem same_maps (v u : Value) (ms : List Mp) (w : World) (hv : RdM w v ms) (hu : RdM w u ms) (hn : ms.length ≤ 1048576) :
    Calls Try.prog 12 #[v, u] w fun e w' => e = .returned (.bool true) ∧ Below w.heap.size w w' := by
  have hv0 := hv
  have hu0 := hu
  obtain ⟨a, c, rfl⟩ := hv.form
  obtain ⟨a', c', rfl⟩ := hu.form
  clear hv hu
  go_enter Try.func12, Try.ntmps12
  go_wp2_with (fail)
  go_loopw [5] (fun i wr => ∃ k : Nat, k ≤ ms.length ∧ i = .int .i64 k ∧ Below w.heap.size w wr) (fun i _ => ms.length - (intOf i).toNat)
  case atStart => exact ⟨0, by omega, rfl, Below.refl _ _⟩
  case round =>
    obtain ⟨k, hk, rfl, hB⟩ := hrel
    by_cases hlt : k < ms.length
    · have q : (k : Int) < (ms.length : Int) := by omega
      have q2 : (0 : Int) ≤ (k : Int) := by omega
      obtain ⟨b, off, ha, -, k0, k1, k2, -⟩ := (hv0.below hB).at (P := Try.prog) k hlt
      obtain ⟨b', off', ha', -, l0, l1, l2, -⟩ := (hu0.below hB).at (P := Try.prog) k hlt
      subst ha ha'
      generalize ms[k] = m at *
      have HB := Lib.hid hB
      clear hB
      go_wp2_with (fail)
      go_quiet (fail)
      go_wp2_with (fail)
      go_roundw
      case rel => exact ⟨k + 1, by omega, by go_num, below_drewN HB.out⟩
      case measure => simp [intOf]; omega
    · have q : ¬ (k : Int) < (ms.length : Int) := by omega
      have HB := Lib.hid hB
      clear hB
      go_wp2_with (fail)
      go_ret
      exact ⟨rfl, HB.out⟩
end Go.Proofs.Ytjnobggefofjcaa
