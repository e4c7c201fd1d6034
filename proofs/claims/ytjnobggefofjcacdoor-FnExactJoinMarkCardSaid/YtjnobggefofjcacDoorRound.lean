import Derived.Test.YtjnobggefofjcacDoorU32
import Derived.Test.YtjnobggefofjcacDoorBlk
import Derived.Deep.RegionHeld3
import Derived.BigRegion
namespace Go.Proofs.YtjnobggefofjcacDoor
open Go.RowKit

/-- What a round makes of the first word and the fifth. -/
def low (e f g h input : BitVec 32) : BitVec 32 := h + (rotr e 6 ^^^ rotr e 11 ^^^ rotr e 25) + (e &&& f ^^^ ~~~ e &&& g) + input
def high (a b c : BitVec 32) : BitVec 32 := (rotr a 2 ^^^ rotr a 13 ^^^ rotr a 22) + (a &&& b ^^^ a &&& c ^^^ b &&& c)

theorem u_max : IntKind.u32.max = 4294967295 := rfl

set_option maxHeartbeats 1000000 in
set_option maxRecDepth 100000 in
theorem impl_round (a b c d e f g h i : BitVec 32) (w : World) :
    Calls Tryd.prog 57 #[.agg #[u a, u b, u c, u d, u e, u f, u g, u h], u i] w fun x w' => x = .returned (.agg #[u (low e f g h i + high a b c), u a, u b, u c, u (d + low e f g h i), u e, u f, u g]) ∧ Below w.heap.size w w' := by
  obtain ⟨t1, ht1⟩ : ∃ t, t = rotr e 6 ^^^ rotr e 11 ^^^ rotr e 25 := ⟨_, rfl⟩
  obtain ⟨t2, ht2⟩ : ∃ t, t = rotr a 2 ^^^ rotr a 13 ^^^ rotr a 22 := ⟨_, rfl⟩
  have c1 : ∀ W, Calls Tryd.prog 59 #[u e, .int .i64 6, .int .i64 11, .int .i64 25] W fun x w' => x = .returned (u t1) ∧ ∃ m, w' = W.drewN m :=
    fun W => ht1 ▸ impl_turned e 6 11 25 (by decide) (by decide) (by decide) (by decide) (by decide) (by decide) W
  have c2 : ∀ W, Calls Tryd.prog 59 #[u a, .int .i64 2, .int .i64 13, .int .i64 22] W fun x w' => x = .returned (u t2) ∧ ∃ m, w' = W.drewN m :=
    fun W => ht2 ▸ impl_turned a 2 13 22 (by decide) (by decide) (by decide) (by decide) (by decide) (by decide) W
  obtain ⟨ch, hch⟩ : ∃ x, x = (e &&& f ^^^ ~~~ e &&& g) := ⟨_, rfl⟩
  obtain ⟨mj, hmj⟩ : ∃ x, x = (a &&& b ^^^ a &&& c ^^^ b &&& c) := ⟨_, rfl⟩
  have e1 : bits .xor .u32 (bits .and .u32 (e.toNat : Int) (f.toNat : Int)) (bits .and .u32 (bits .xor .u32 IntKind.u32.max (e.toNat : Int)) (g.toNat : Int)) = (ch.toNat : Int) := by
    rw [u_max, u_not, u_and, u_and, u_xor, hch]
  have e2 : bits .xor .u32 (bits .xor .u32 (bits .and .u32 (a.toNat : Int) (b.toNat : Int)) (bits .and .u32 (a.toNat : Int) (c.toNat : Int))) (bits .and .u32 (b.toNat : Int) (c.toNat : Int)) = (mj.toNat : Int) := by
    rw [u_and, u_and, u_and, u_xor, u_xor, hmj]
  obtain ⟨p1, hp1⟩ : ∃ x, x = h + t1 := ⟨_, rfl⟩
  obtain ⟨p2, hp2⟩ : ∃ x, x = p1 + ch := ⟨_, rfl⟩
  obtain ⟨lo, hlo⟩ : ∃ x, x = p2 + i := ⟨_, rfl⟩
  obtain ⟨hi, hhi⟩ : ∃ x, x = t2 + mj := ⟨_, rfl⟩
  obtain ⟨na, hna⟩ : ∃ x, x = lo + hi := ⟨_, rfl⟩
  obtain ⟨ne, hne⟩ : ∃ x, x = d + lo := ⟨_, rfl⟩
  have s1 : ((h.toNat : Int) + (t1.toNat : Int)) % 4294967296 = (p1.toNat : Int) := by rw [u_addm, hp1]
  have s2 : ((p1.toNat : Int) + (ch.toNat : Int)) % 4294967296 = (p2.toNat : Int) := by rw [u_addm, hp2]
  have s3 : ((p2.toNat : Int) + (i.toNat : Int)) % 4294967296 = (lo.toNat : Int) := by rw [u_addm, hlo]
  have s4 : ((t2.toNat : Int) + (mj.toNat : Int)) % 4294967296 = (hi.toNat : Int) := by rw [u_addm, hhi]
  have s5 : ((lo.toNat : Int) + (hi.toNat : Int)) % 4294967296 = (na.toNat : Int) := by rw [u_addm, hna]
  have s6 : ((d.toNat : Int) + (lo.toNat : Int)) % 4294967296 = (ne.toNat : Int) := by rw [u_addm, hne]
  have hfin : low e f g h i + high a b c = na ∧ d + low e f g h i = ne := by
    subst hna hne hlo hhi hp2 hp1 hch hmj ht1 ht2
    exact ⟨rfl, rfl⟩
  rw [hfin.1, hfin.2]
  clear hfin hna hne hlo hhi hp2 hp1 hch hmj ht1 ht2
  go_enter Tryd.func57, Tryd.ntmps57
  go_wp2_with (fail)
  go_quiet (fail)
  go_wp2_with (fail)
  go_quiet ((go_at_call 59; exact drew_next c1))
  go_wp2_with (go_at_call 59; refine (c2 _).mono ?_; rintro e w' ⟨rfl, m, rfl⟩)
  refine bodyPost_ret (v := .agg #[u na, u a, u b, u c, u ne, u e, u f, u g]) (by simp [results, Tryd.results57, go_sem]) rfl ⟨rfl, ?_⟩
  repeat' (refine Below.setCell ?_ (by simp) _)
  refine below_drewN ?_ _
  exact ((Below.refl _ _).alloc (Nat.le_refl _) _).alloc (by simp) _
end Go.Proofs.YtjnobggefofjcacDoor
