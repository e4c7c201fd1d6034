import Derived.Test.YtjnobggefofjcacDoorRows
import Derived.WalkKit
import Derived.Deep.QuietTactic
import Derived.BigQuiet
namespace Go.Proofs.YtjnobggefofjcacDoor
open Go.RowKit

/-- A word of 32 bits as the machine holds it. -/
abbrev u (x : BitVec 32) : Value := .int .u32 (x.toNat : Int)

theorem u_and (x y : BitVec 32) : bits .and .u32 (x.toNat : Int) (y.toNat : Int) = ((x &&& y).toNat : Int) := by
  rw [u32_and_nat _ _ x.isLt y.isLt, BitVec.toNat_and]

theorem u_or (x y : BitVec 32) : bits .or .u32 (x.toNat : Int) (y.toNat : Int) = ((x ||| y).toNat : Int) := by
  rw [u32_or_nat _ _ x.isLt y.isLt, BitVec.toNat_or]

theorem u_xor (x y : BitVec 32) : bits .xor .u32 (x.toNat : Int) (y.toNat : Int) = ((x ^^^ y).toNat : Int) := by
  rw [u32_xor_nat _ _ x.isLt y.isLt, BitVec.toNat_xor]

theorem u_add (x y : BitVec 32) : IntKind.u32.wrap ((x.toNat : Int) + (y.toNat : Int)) = ((x + y).toNat : Int) := by
  rw [IntKind.wrap_u32', BitVec.toNat_add]; omega

theorem u_not (x : BitVec 32) : bits .xor .u32 4294967295 (x.toNat : Int) = ((~~~ x).toNat : Int) := by
  have h := u_xor (BitVec.allOnes 32) x
  rw [BitVec.allOnes_xor] at h
  simpa using h

theorem u_not' (x : BitVec 32) : bits .xor .u32 (x.toNat : Int) 4294967295 = ((~~~ x).toNat : Int) := by
  have h := u_xor x (BitVec.allOnes 32)
  rw [BitVec.xor_allOnes] at h
  simpa using h

theorem u_shl (x : BitVec 32) (n : Nat) : IntKind.u32.wrap ((x.toNat : Int) * 2 ^ n) = ((x <<< n).toNat : Int) := by
  rw [IntKind.wrap_u32', BitVec.toNat_shiftLeft, Nat.shiftLeft_eq]
  have : ((x.toNat : Int) * 2 ^ n) = ((x.toNat * 2 ^ n : Nat) : Int) := by simp
  rw [this]; omega

theorem u_shr (x : BitVec 32) (n : Nat) : (x.toNat : Int) / 2 ^ n = ((x >>> n).toNat : Int) := by
  rw [BitVec.toNat_ushiftRight, Nat.shiftRight_eq_div_pow]
  have : ((2 : Int) ^ n) = ((2 ^ n : Nat) : Int) := by simp
  rw [this]; norm_cast

/-- x turned to the right by n places. -/
def rotr (x : BitVec 32) (n : Nat) : BitVec 32 := x >>> n ||| x <<< (32 - n)


theorem u_addm (x y : BitVec 32) : ((x.toNat : Int) + (y.toNat : Int)) % 4294967296 = ((x + y).toNat : Int) := by
  rw [← u_add, IntKind.wrap_u32']

theorem u_shlm (x : BitVec 32) (n : Nat) : (x.toNat : Int) * 2 ^ n % 4294967296 = ((x <<< n).toNat : Int) := by
  rw [← u_shl, IntKind.wrap_u32']

set_option maxRecDepth 100000 in
theorem spec_turn (x : BitVec 32) (n : Nat) (h1 : 0 < n) (h2 : n < 32) (w : World) :
    Calls Tryd.prog 39 #[u x, .int .u64 (n : Int)] w fun e w' => e = .returned (u (rotr x n)) ∧ w = w' := by
  have a1 : IntKind.u64.wrap (32 - (n : Int)) = ((32 - n : Nat) : Int) := by simp [IntKind.wrap, IntKind.bits, IntKind.signed]; omega
  have a2 : min n 32 = n := by omega
  have a3 : min (32 - n) 32 = 32 - n := by omega
  unfold u
  go_enter Tryd.func39, Tryd.ntmps39
  go_wp2
  go_ret
  refine ⟨?_, rfl⟩
  rw [u_shlm, u_shr, u_or, rotr]
  rfl

/-- What the rotation to the left by a number below zero counts. -/
theorem left_count (r : Nat) (h1 : 0 < r) (h2 : r < 32) : bits .and .u64 (IntKind.u64.wrap (-(r : Int))) 31 = ((32 - r : Nat) : Int) := by
  have h : ∀ r : Fin 32, 0 < r.val → bits .and .u64 (IntKind.u64.wrap (-(r.val : Int))) 31 = ((32 - r.val : Nat) : Int) := by decide
  exact h ⟨r, h2⟩ h1

set_option maxRecDepth 100000 in
theorem bits_left (x : BitVec 32) (r : Nat) (h1 : 0 < r) (h2 : r < 32) (w : World) :
    Calls Tryd.prog 58 #[u x, .int .i64 (-(r : Int))] w fun e w' => e = .returned (u (rotr x r)) ∧ w = w' := by
  have a0 := left_count r h1 h2
  have a0' : bits .and .u64 (-(r : Int) % 18446744073709551616) 31 = ((32 - r : Nat) : Int) := by
    rw [← a0]; simp [IntKind.wrap, IntKind.bits, IntKind.signed]
  have a1 : IntKind.u64.wrap (32 - ((32 - r : Nat) : Int)) = (r : Int) := by simp [IntKind.wrap, IntKind.bits, IntKind.signed]; omega
  have a2 : min r 32 = r := by omega
  have a3 : min (32 - r) 32 = 32 - r := by omega
  unfold u
  go_enter Tryd.func58, Tryd.ntmps58
  go_wp2
  go_ret
  refine ⟨?_, rfl⟩
  rw [u_shlm, u_shr, u_or, rotr, BitVec.or_comm]
  rfl

/-- A call that only draws, in a region that draws. -/
theorem drew_first {f : FuncId} {args : Array Value} {w : World} {n : Nat} {v : Value}
    (h : ∀ W, Calls Tryd.prog f args W fun e w' => e = .returned v ∧ ∃ m, w' = W.drewN m) :
    Calls Tryd.prog f args (w.drewN n) fun e w'' => e = .returned v ∧ ∃ m, w'' = w.drewN m :=
  (h _).mono fun _ _ ⟨he, m, hm⟩ => ⟨he, n + m, by rw [hm, World.drewN_drewN]⟩

/-- .. behind a region that drew already. -/
theorem drew_next {f : FuncId} {args : Array Value} {w : World} {a n : Nat} {v : Value}
    (h : ∀ W, Calls Tryd.prog f args W fun e w' => e = .returned v ∧ ∃ m, w' = W.drewN m) :
    Calls Tryd.prog f args (w.drewN (a + n)) fun e w'' => e = .returned v ∧ ∃ m, w'' = w.drewN (a + m) :=
  (h _).mono fun _ _ ⟨he, m, hm⟩ => ⟨he, n + m, by rw [hm, World.drewN_drewN, Nat.add_assoc]⟩

/-- A function that leaves the world alone only draws. -/
theorem drew_none {f : FuncId} {args : Array Value} {v : Value} (h : ∀ W, Calls Tryd.prog f args W fun e w' => e = .returned v ∧ W = w') :
    ∀ W, Calls Tryd.prog f args W fun e w' => e = .returned v ∧ ∃ m, w' = W.drewN m :=
  fun W => (h W).mono fun _ _ ⟨he, hw⟩ => ⟨he, 0, hw.symm⟩

attribute [irreducible] rotr

set_option maxHeartbeats 1000000 in
set_option maxRecDepth 100000 in
theorem impl_turned (x : BitVec 32) (p q r : Nat) (hp1 : 0 < p) (hp2 : p < 32) (hq1 : 0 < q) (hq2 : q < 32) (hr1 : 0 < r) (hr2 : r < 32) (w : World) :
    Calls Tryd.prog 59 #[u x, .int .i64 (p : Int), .int .i64 (q : Int), .int .i64 (r : Int)] w fun e w' => e = .returned (u (rotr x p ^^^ rotr x q ^^^ rotr x r)) ∧ ∃ m, w' = w.drewN m := by
  have a1 : IntKind.i64.wrap (0 - (p : Int)) = -(p : Int) := by simp [IntKind.wrap, IntKind.bits, IntKind.signed]; omega
  have a2 : IntKind.i64.wrap (0 - (q : Int)) = -(q : Int) := by simp [IntKind.wrap, IntKind.bits, IntKind.signed]; omega
  have a3 : IntKind.i64.wrap (0 - (r : Int)) = -(r : Int) := by simp [IntKind.wrap, IntKind.bits, IntKind.signed]; omega
  have a1' : IntKind.i64.wrap (-(p : Int)) = -(p : Int) := by simp [IntKind.wrap, IntKind.bits, IntKind.signed]; omega
  have a2' : IntKind.i64.wrap (-(q : Int)) = -(q : Int) := by simp [IntKind.wrap, IntKind.bits, IntKind.signed]; omega
  have a3' : IntKind.i64.wrap (-(r : Int)) = -(r : Int) := by simp [IntKind.wrap, IntKind.bits, IntKind.signed]; omega
  go_enter Tryd.func59, Tryd.ntmps59
  go_wp2_with (go_at_call 58; refine (bits_left x _ (by assumption) (by assumption) _).mono ?_; rintro e w' ⟨rfl, rfl⟩)
  go_ret
  rw [u_xor, u_xor]
  exact ⟨rfl, 0, rfl⟩
end Go.Proofs.YtjnobggefofjcacDoor
