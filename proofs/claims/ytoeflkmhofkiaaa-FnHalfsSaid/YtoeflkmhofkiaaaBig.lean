import Derived.Test.YtoeflkmhofkiaaaDr
namespace Go.Proofs.Ytoeflkmhofkiaaa
open Go.RowKit
set_option maxRecDepth 100000

theorem big_call (v : Value) (n : Nat) (w : World) (hv : RdB w v n) :
    Calls Try.prog 11 #[v] w fun e w' => e = .returned (.bool (decide (1048576 < n))) ∧ w = w' := by
  obtain ⟨a, c, rfl, _⟩ := hv
  by_cases h : 1048576 < n
  · have q : (1048576 : Int) < (n : Int) := by omega
    go_enter Try.func11, Try.ntmps11
    go_wp2
    go_ret
    simp [h]
  · have q : ¬ ((1048576 : Int) < (n : Int)) := by omega
    go_enter Try.func11, Try.ntmps11
    go_wp2
    go_ret
    refine ⟨?_, rfl⟩

    rfl
end Go.Proofs.Ytoeflkmhofkiaaa
