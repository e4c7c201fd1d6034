import Derived.Test.YtjagediaaadkdaaRows
import Derived.WalkKit
import Derived.Below
namespace Go.Proofs.Ytjagediaaadkdaa
open Go.RowKit

theorem keyok_bool (s : ByteArray) : ((s.size : Int) == 8) = decide (s.size = 8) := by
  rw [Bool.eq_iff_iff]
  simp
  omega

theorem impl_keyok (s : ByteArray) (w : World) :
    Calls Try.prog 5 #[.string s] w fun e w' => e = .returned (.bool (decide (s.size = 8))) ∧ w = w' := by
  rw [← keyok_bool]
  go_enter Try.func5, Try.ntmps5
  go_wp2
  go_ret
  exact ⟨rfl, rfl⟩

theorem spec_keyok (s : ByteArray) (w : World) :
    Calls Try.prog 4 #[.string s] w fun e w' => e = .returned (.bool (decide (s.size = 8))) ∧ w = w' := by
  rw [← keyok_bool]
  go_enter Try.func4, Try.ntmps4
  go_wp2
  go_ret
  exact ⟨rfl, rfl⟩
end Go.Proofs.Ytjagediaaadkdaa
