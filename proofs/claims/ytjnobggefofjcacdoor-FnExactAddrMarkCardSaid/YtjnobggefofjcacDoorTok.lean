import Derived.Test.YtjnobggefofjcacDoorKey
import Derived.Test.YtjnobggefofjcacDoorHm
import Derived.Test.YtjnobggefofjcacDoorNatI
import Derived.Test.YtjnobggefofjcacDoorNatS
namespace Go.Proofs.YtjnobggefofjcacDoor
open Go.RowKit

/-- A cut from some byte on. -/
theorem slice_from (t : ByteArray) (a : Int) (h0 : 0 ≤ a) (h1 : a ≤ (t.size : Int)) (W : World) :
    (Instr.slice 9 (.string t) (some (.int .i64 a)) none none).run Tryd.prog W = .ok (.string (t.extract a.toNat t.size)) W := by
  have h3 : ((t.size : Nat) : Int) ≤ (t.size : Int) := Int.le_refl _
  simp [Instr.slice, run_underlying Tryd.underlying9, Instr.sliceBounds, Instr.sliceBound, asIntOf, h0, h1]

theorem tok_part (d : ByteArray) (h : d.size = 32) : Part d 0 4 := ⟨by omega, by omega, by omega⟩

/-- The last m bytes. -/
def lastOf (t : ByteArray) (m : Int) : ByteArray := t.extract (max 0 ((t.size : Int) - m)).toNat t.size
/-- The first m bytes. -/
def firstOf (t : ByteArray) (m : Int) : ByteArray := t.extract 0 (min m (t.size : Int)).toNat

theorem impl_last (t : ByteArray) (m : Int) (w : World) (hs : t.size ≤ 1048576) (h0 : 0 ≤ m) (h1 : m ≤ 1048576) :
    Calls Tryd.prog 22 #[.string t, .int .i64 m] w fun e w' => e = .returned (.string (lastOf t m)) ∧ w = w' := by
  have hsl := slice_from t (max 0 ((t.size : Int) - m)) (by omega) (by omega)
  unfold lastOf
  have e1 : IntKind.i64.wrap ((t.size : Int) - m) = (t.size : Int) - m := IntWalk.i64_in _ (by omega)
  generalize t.extract (max 0 ((t.size : Int) - m)).toNat t.size = r at hsl
  go_enter Tryd.func22, Tryd.ntmps22
  go_wp2_with (fail)
  go_ret
  exact ⟨rfl, rfl⟩

theorem last_32 (d : ByteArray) (h : d.size = 32) : lastOf d 8 = d.extract 24 d.size := by
  unfold lastOf
  rw [show (max 0 ((d.size : Int) - 8)).toNat = 24 by omega]

/-- What StartOf answers. -/
def startOf (s : ByteArray) : ByteArray := if s.size = 8 then lastOf (digestOf s) 8 else ⟨#[]⟩

end Go.Proofs.YtjnobggefofjcacDoor
