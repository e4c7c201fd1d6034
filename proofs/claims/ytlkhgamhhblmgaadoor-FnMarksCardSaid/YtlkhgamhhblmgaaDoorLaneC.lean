import Derived.Test.YtlkhgamhhblmgaaDoorLaneB
namespace Go.Proofs.YtlkhgamhhblmgaaDoor
open Go.RowKit

/-! Blocks whose bytes are each a lane's own byte, or fixed. -/

theorem or4 (a b c d : Nat) (hb : b < 256) (hc : c < 256) (hd : d < 256) : a * 2 ^ 24 + b * 2 ^ 16 + c * 2 ^ 8 + d = a * 2 ^ 24 ||| b * 2 ^ 16 ||| c * 2 ^ 8 ||| d := by
  have h1 := Nat.two_pow_add_eq_or_of_lt (i := 8) (b := d) (by omega) c
  have h2 := Nat.two_pow_add_eq_or_of_lt (i := 16) (b := 2 ^ 8 * c + d) (by omega) b
  have h3 := Nat.two_pow_add_eq_or_of_lt (i := 24) (b := 2 ^ 16 * b + (2 ^ 8 * c + d)) (by omega) a
  rw [Nat.mul_comm a, Nat.mul_comm b, Nat.mul_comm c, Nat.or_assoc, Nat.or_assoc, ← h1, ← h2, ← h3]
  omega

theorem wordAt_nat (s : ByteArray) (k : Nat) : wordAt s k = BitVec.ofNat 32 ((s.data[4 * k]!).toNat * 2 ^ 24 + (s.data[4 * k + 1]!).toNat * 2 ^ 16 + (s.data[4 * k + 2]!).toNat * 2 ^ 8 + (s.data[4 * k + 3]!).toNat) := by
  unfold wordAt byteW
  generalize s.data[4 * k]! = a
  generalize s.data[4 * k + 1]! = b
  generalize s.data[4 * k + 2]! = c
  generalize s.data[4 * k + 3]! = d
  have ha := a.toNat_lt
  have hb := b.toNat_lt
  have hc := c.toNat_lt
  have hd := d.toNat_lt
  rw [or4 _ _ _ _ (by omega) (by omega) (by omega)]
  apply BitVec.eq_of_toNat_eq
  simp only [BitVec.toNat_or, BitVec.toNat_shiftLeft, BitVec.toNat_ofNat, Nat.shiftLeft_eq]
  rw [← or4 _ _ _ _ (by omega) (by omega) (by omega)]
  rw [Nat.mod_eq_of_lt (show a.toNat < 2 ^ 32 by omega), Nat.mod_eq_of_lt (show b.toNat < 2 ^ 32 by omega), Nat.mod_eq_of_lt (show c.toNat < 2 ^ 32 by omega), Nat.mod_eq_of_lt (show d.toNat < 2 ^ 32 by omega)]
  rw [Nat.mod_eq_of_lt (show a.toNat * 2 ^ 24 < 2 ^ 32 by omega), Nat.mod_eq_of_lt (show b.toNat * 2 ^ 16 < 2 ^ 32 by omega), Nat.mod_eq_of_lt (show c.toNat * 2 ^ 8 < 2 ^ 32 by omega)]
  rw [← or4 _ _ _ _ (by omega) (by omega) (by omega)]
  omega

/-- One byte of a template. -/
def cf : Option UInt8 → Nat
  | none => 1
  | some _ => 0
def ct : Option UInt8 → Nat
  | none => 0
  | some b => b.toNat
theorem cf_ct (o : Option UInt8) (v : UInt8) : (o.getD v).toNat = v.toNat * cf o + ct o := by
  cases o <;> simp [cf, ct]

/-- A block, where a lane's byte is v. -/
def inst (T : List (Option UInt8)) (v : UInt8) : ByteArray := ⟨(T.map fun o => o.getD v).toArray⟩

def nth (T : List (Option UInt8)) (j : Nat) : Option UInt8 := T.getD j none
def cA (T : List (Option UInt8)) (j : Nat) : Nat := cf (nth T (4 * j)) * 2 ^ 24 + cf (nth T (4 * j + 1)) * 2 ^ 16 + cf (nth T (4 * j + 2)) * 2 ^ 8 + cf (nth T (4 * j + 3))
def cB (T : List (Option UInt8)) (j : Nat) : Nat := ct (nth T (4 * j)) * 2 ^ 24 + ct (nth T (4 * j + 1)) * 2 ^ 16 + ct (nth T (4 * j + 2)) * 2 ^ 8 + ct (nth T (4 * j + 3))

theorem inst_get (T : List (Option UInt8)) (v : UInt8) (j : Nat) (hj : j < T.length) : ((inst T v).data[j]!).toNat = v.toNat * cf (nth T j) + ct (nth T j) := by
  rw [← cf_ct]
  unfold inst nth
  rw [getElem!_pos (T.map fun o => o.getD v).toArray j (by simpa using hj)]
  rw [List.getD_eq_getElem?_getD, List.getElem?_eq_getElem hj]
  simp

theorem inst_word (T : List (Option UInt8)) (hT : T.length = 64) (v : UInt8) (j : Nat) (hj : j < 16) : wordAt (inst T v) j = BitVec.ofNat 32 (v.toNat * cA T j + cB T j) ∧ v.toNat * cA T j + cB T j < 2 ^ 32 := by
  have h0 := inst_get T v (4 * j) (by omega)
  have h1 := inst_get T v (4 * j + 1) (by omega)
  have h2 := inst_get T v (4 * j + 2) (by omega)
  have h3 := inst_get T v (4 * j + 3) (by omega)
  have b0 := ((inst T v).data[4 * j]!).toNat_lt
  have b1 := ((inst T v).data[4 * j + 1]!).toNat_lt
  have b2 := ((inst T v).data[4 * j + 2]!).toNat_lt
  have b3 := ((inst T v).data[4 * j + 3]!).toNat_lt
  have e : v.toNat * cA T j + cB T j = ((inst T v).data[4 * j]!).toNat * 2 ^ 24 + ((inst T v).data[4 * j + 1]!).toNat * 2 ^ 16 + ((inst T v).data[4 * j + 2]!).toNat * 2 ^ 8 + ((inst T v).data[4 * j + 3]!).toNat := by
    rw [h0, h1, h2, h3]
    unfold cA cB
    simp only [Nat.mul_add, Nat.add_mul, Nat.mul_assoc]
    omega
  rw [wordAt_nat, e]
  exact ⟨rfl, by omega⟩

/-- A word of such a block in lanes. -/
def wd (V O : Nat) (T : List (Option UInt8)) (j : Nat) : Nat := Nat.add (Nat.mul V (cA T j)) (Nat.mul O (cB T j))

theorem wd_lane (n : Nat) (v : Nat → UInt8) (T : List (Option UInt8)) (hT : T.length = 64) (j : Nat) (hj : j < 16) : wd (Lane.PN n fun i => (v i).toNat) (Lane.ON n) T j = Lane.PF n fun i => ws (inst T (v i)) j := by
  show Lane.PN n _ * cA T j + Lane.ON n * cB T j = _
  rw [Lane.ON, Lane.PN_mul, Lane.PN_mul, Lane.PN_add]
  apply Lane.PN_congr
  intro i _
  have h := inst_word T hT (v i) j hj
  dsimp only
  rw [ws_lo _ _ hj, h.1, BitVec.toNat_ofNat, Nat.mod_eq_of_lt h.2]
  omega

noncomputable def tb {R : Type} (n V : Nat) (T : List (Option UInt8)) (k : Lane.St R) : Lane.St R := fun s0 s1 s2 s3 s4 s5 s6 s7 =>
  Lane.blockN (Lane.MM n) (Lane.ON n) k s0 s1 s2 s3 s4 s5 s6 s7 (wd V (Lane.ON n) T 0) (wd V (Lane.ON n) T 1) (wd V (Lane.ON n) T 2) (wd V (Lane.ON n) T 3) (wd V (Lane.ON n) T 4) (wd V (Lane.ON n) T 5) (wd V (Lane.ON n) T 6) (wd V (Lane.ON n) T 7)
    (wd V (Lane.ON n) T 8) (wd V (Lane.ON n) T 9) (wd V (Lane.ON n) T 10) (wd V (Lane.ON n) T 11) (wd V (Lane.ON n) T 12) (wd V (Lane.ON n) T 13) (wd V (Lane.ON n) T 14) (wd V (Lane.ON n) T 15)

/-- k at a state's words, in lanes. -/
def atLanes {R : Type} (n : Nat) (k : Lane.St R) (D : Nat → Array (BitVec 32)) : R := k (Lane.lane n D 0) (Lane.lane n D 1) (Lane.lane n D 2) (Lane.lane n D 3) (Lane.lane n D 4) (Lane.lane n D 5) (Lane.lane n D 6) (Lane.lane n D 7)

theorem tb_lanes {R : Type} (n : Nat) (v : Nat → UInt8) (T : List (Option UInt8)) (hT : T.length = 64) (k : Lane.St R) (H : Nat → Array (BitVec 32)) (hH : ∀ i, (H i).size = 8) :
    atLanes n (tb n (Lane.PN n fun i => (v i).toNat) T k) H = atLanes n k fun i => blockOf (H i) (inst T (v i)) := by
  unfold atLanes tb
  rw [wd_lane n v T hT 0 (by omega), wd_lane n v T hT 1 (by omega), wd_lane n v T hT 2 (by omega), wd_lane n v T hT 3 (by omega), wd_lane n v T hT 4 (by omega), wd_lane n v T hT 5 (by omega), wd_lane n v T hT 6 (by omega), wd_lane n v T hT 7 (by omega),
    wd_lane n v T hT 8 (by omega), wd_lane n v T hT 9 (by omega), wd_lane n v T hT 10 (by omega), wd_lane n v T hT 11 (by omega), wd_lane n v T hT 12 (by omega), wd_lane n v T hT 13 (by omega), wd_lane n v T hT 14 (by omega), wd_lane n v T hT 15 (by omega)]
  exact block_lanes n k H hH fun i => inst T (v i)

end Go.Proofs.YtlkhgamhhblmgaaDoor
