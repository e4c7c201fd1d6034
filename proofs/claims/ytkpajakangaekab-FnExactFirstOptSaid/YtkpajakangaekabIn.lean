import Derived.Test.YtkpajakangaekabRows
import Derived.WalkKit
import Derived.Below
namespace Go.Proofs.Ytkpajakangaekab
open Go.RowKit

theorem spec_in (x lo hi : Int) (w : World) :
    Calls Try.prog 33 #[.int .i64 x, .int .i64 lo, .int .i64 hi] w fun e w' => e = .returned (.bool (decide (lo ≤ x ∧ x ≤ hi))) ∧ w = w' := by
  by_cases h1 : lo ≤ x
  · by_cases h2 : x ≤ hi
    · go_enter Try.func33, Try.ntmps33
      go_wp2
      go_ret
      simp [h1, h2]
    · have h2' : hi < x := by omega
      go_enter Try.func33, Try.ntmps33
      go_wp2
      go_ret
      simp [h2]
  · have h1' : x < lo := by omega
    go_enter Try.func33, Try.ntmps33
    go_wp2
    go_ret
    simp
    omega

end Go.Proofs.Ytkpajakangaekab
