import Derived.Test.YtjnobggefofjcacDoorRows
import Derived.WalkKit
import Derived.Below
namespace Go.Proofs.YtjnobggefofjcacDoor
open Go.RowKit

theorem keyok_bool (s : ByteArray) : ((s.size : Int) == 8) = decide (s.size = 8) := by
  rw [Bool.eq_iff_iff]
  simp
  omega

theorem impl_keyok (s : ByteArray) (w : World) :
    Calls Tryd.prog 27 #[.string s] w fun e w' => e = .returned (.bool (decide (s.size = 8))) ∧ w = w' := by
  rw [← keyok_bool]
  go_enter Tryd.func27, Tryd.ntmps27
  go_wp2
  go_ret
  exact ⟨rfl, rfl⟩

theorem spec_keyok (s : ByteArray) (w : World) :
    Calls Tryd.prog 15 #[.string s] w fun e w' => e = .returned (.bool (decide (s.size = 8))) ∧ w = w' := by
  rw [← keyok_bool]
  go_enter Tryd.func15, Tryd.ntmps15
  go_wp2
  go_ret
  exact ⟨rfl, rfl⟩
end Go.Proofs.YtjnobggefofjcacDoor
