import Derived.Test.YtjagediaaadkdaaDoorRows
import Derived.WalkKit
import Derived.Below
namespace Go.Proofs.YtjagediaaadkdaaDoor
open Go.RowKit

theorem keyok_bool (s : ByteArray) : ((s.size : Int) == 8) = decide (s.size = 8) := by
  rw [Bool.eq_iff_iff]
  simp
  omega

theorem impl_keyok (s : ByteArray) (w : World) :
    Calls Tryd.prog 24 #[.string s] w fun e w' => e = .returned (.bool (decide (s.size = 8))) ∧ w = w' := by
  rw [← keyok_bool]
  go_enter Tryd.func24, Tryd.ntmps24
  go_wp2
  go_ret
  exact ⟨rfl, rfl⟩

theorem spec_keyok (s : ByteArray) (w : World) :
    Calls Tryd.prog 21 #[.string s] w fun e w' => e = .returned (.bool (decide (s.size = 8))) ∧ w = w' := by
  rw [← keyok_bool]
  go_enter Tryd.func21, Tryd.ntmps21
  go_wp2
  go_ret
  exact ⟨rfl, rfl⟩
end Go.Proofs.YtjagediaaadkdaaDoor
