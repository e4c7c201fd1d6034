import Derived.Test.YtlkhgamhhblmgaaDoorLane
import Derived.Test.YtlkhgamhhblmgaaDoorMark
import Derived.Test.YtlkhgamhhblmgaaDoorDig
namespace Go.Proofs.YtlkhgamhhblmgaaDoor
open Go.RowKit

theorem lane_rotr (x : BitVec 32) (n : Nat) : Lane.rotr x n = rotr x n := by unfold Lane.rotr rotr; rfl
theorem lane_low (e f g h i : BitVec 32) : Lane.low e f g h i = low e f g h i := by unfold Lane.low low; simp only [lane_rotr]
theorem lane_high (a b c : BitVec 32) : Lane.high a b c = high a b c := by unfold Lane.high high; simp only [lane_rotr]
theorem lane_round (d : Array (BitVec 32)) (i : BitVec 32) : Lane.roundOf d i = roundOf d i := by
  unfold Lane.roundOf roundOf
  simp only [lane_low, lane_high]

/-- The words of a block, and what follows them. -/
def ws (s : ByteArray) (j : Nat) : BitVec 32 :=
  if j < 16 then wordAt s j else ws s (j - 16) + ws s (j - 7) + (rotr (ws s (j - 15)) 7 ^^^ rotr (ws s (j - 15)) 18 ^^^ ws s (j - 15) >>> 3) + (rotr (ws s (j - 2)) 17 ^^^ rotr (ws s (j - 2)) 19 ^^^ ws s (j - 2) >>> 10)
termination_by j
decreasing_by all_goals omega

theorem ws_lo (s : ByteArray) (j : Nat) (h : j < 16) : ws s j = wordAt s j := by rw [ws, if_pos h]
theorem ws_hi (s : ByteArray) (j : Nat) : ws s (j + 16) = ws s j + ws s (j + 9) + (rotr (ws s (j + 1)) 7 ^^^ rotr (ws s (j + 1)) 18 ^^^ ws s (j + 1) >>> 3) + (rotr (ws s (j + 14)) 17 ^^^ rotr (ws s (j + 14)) 19 ^^^ ws s (j + 14) >>> 10) := by
  rw [ws, if_neg (by omega)]
  rw [show j + 16 - 16 = j by omega, show j + 16 - 7 = j + 9 by omega, show j + 16 - 15 = j + 1 by omega, show j + 16 - 2 = j + 14 by omega]

theorem set_get {d : Array (BitVec 32)} (k : Nat) (x : BitVec 32) (j : Nat) (hj : j < d.size) : (d.setIfInBounds k x)[j]! = if j = k then x else d[j]! := by
  rw [getElem!_pos (d.setIfInBounds k x) j (by simpa using hj), getElem!_pos d j hj, Array.getElem_setIfInBounds]
  by_cases h : j = k
  · subst h; simp
  · rw [if_neg (fun e => h e.symm), if_neg h]

theorem fill_get (s : ByteArray) (k : Nat) (hk : k ≤ 16) : ∀ j < k, (fill s k)[j]! = wordAt s j := by
  induction k with
  | zero => intro j hj; omega
  | succ k ih =>
    intro j hj
    rw [fill_succ, set_get _ _ _ (by rw [fill_size]; omega)]
    split
    · subst_vars; rfl
    · exact ih (by omega) j (by omega)

theorem spread_get (s : ByteArray) (k : Nat) (hk : k ≤ 48) : ∀ j < 16 + k, (spread s k)[j]! = ws s j := by
  induction k with
  | zero => intro j hj; rw [spread_zero, fill_get s 16 (by omega) j (by omega), ws_lo s j (by omega)]
  | succ k ih =>
    intro j hj
    have ih := ih (by omega)
    rw [spread_succ, set_get _ _ _ (by rw [spread_size]; omega)]
    split
    · subst_vars
      unfold nextWord
      rw [ih _ (by omega), ih _ (by omega), ih _ (by omega), ih _ (by omega), show 16 + k = k + 16 by omega, ws_hi]
      rw [show k + 16 - 16 = k by omega, show k + 16 - 7 = k + 9 by omega, show k + 16 - 15 = k + 1 by omega, show k + 16 - 2 = k + 14 by omega]
    · exact ih j (by omega)

theorem runA_append (d : Array (BitVec 32)) (l : List Nat) (x : Nat) : Lane.runA d (l ++ [x]) = roundOf (Lane.runA d l) (BitVec.ofNat 32 x) := by
  induction l generalizing d with
  | nil => exact lane_round _ _
  | cons y l ih => exact ih _

theorem ksN_get (k : Nat) (h : k < 64) : BitVec.ofNat 32 (Lane.ksN[k]!) = keys[k]! := by
  have : ∀ i : Fin 64, BitVec.ofNat 32 (Lane.ksN[i.val]!) = keys[i.val]! := by unfold keys; decide
  exact this ⟨k, h⟩

/-- The numbers of the first k rounds. -/
def kwsOf (s : ByteArray) (k : Nat) : List Nat := (List.range k).map fun j => (ws s j).toNat + 1 * Lane.ksN[j]!

theorem rounds_run (h : Array (BitVec 32)) (s : ByteArray) (k : Nat) (hk : k ≤ 64) : Lane.runA h (kwsOf s k) = rounds h s k := by
  induction k with
  | zero => rw [rounds_zero]; rfl
  | succ k ih =>
    rw [rounds_succ, ← ih (by omega), kwsOf, List.range_succ, List.map_append]
    show Lane.runA h (kwsOf s k ++ [_]) = _
    rw [runA_append, Lane.of_add, Lane.of_to, Nat.one_mul, ksN_get k (by omega), spread_get s 48 (by omega) k (by omega)]

theorem kwl_at (w : Nat → Nat → BitVec 32) (i : Nat) : ∀ (ks : List Nat) (p : Nat), (Lane.kwl w ks p).map (fun f => f i) = (List.range ks.length).map fun j => (w (p + j) i).toNat + 1 * ks[j]!
  | [], p => rfl
  | c :: ks, p => by
    rw [Lane.kwl, List.map_cons, kwl_at w i ks (p + 1), List.length_cons, List.range_succ_eq_map, List.map_cons, List.map_map]
    congr 1
    apply List.map_congr_left
    intro j hj
    show _ = (w (p + (j + 1)) i).toNat + 1 * (c :: ks)[j + 1]!
    rw [show p + (j + 1) = p + 1 + j by omega]
    rfl

theorem addUp_get (h m : Array (BitVec 32)) (hh : h.size = 8) (k : Nat) (hk : k ≤ 8) : ∀ j < 8, (addUp h m k)[j]! = if j < k then h[j]! + m[j]! else h[j]! := by
  induction k with
  | zero => intro j hj; rw [addUp_zero, if_neg (by omega)]
  | succ k ih =>
    intro j hj
    have ih := ih (by omega)
    rw [addUp_succ, set_get _ _ _ (by rw [addUp_size _ _ hh]; omega), ih k (by omega), ih j hj, if_neg (show ¬ k < k by omega)]
    by_cases e : j = k
    · subst e; rw [if_pos rfl, if_pos (by omega)]
    · rw [if_neg e]
      by_cases e2 : j < k
      · rw [if_pos e2, if_pos (by omega)]
      · rw [if_neg e2, if_neg (by omega)]

theorem block_add (h : Array (BitVec 32)) (s : ByteArray) (hh : h.size = 8) : Lane.addA h (Lane.runA h (kwsOf s 64)) = blockOf h s := by
  rw [rounds_run h s 64 (by omega)]
  rw [eight (blockOf h s) (blockOf_size h s hh)]
  unfold blockOf
  have a := addUp_get h (rounds h s 64) hh 8 (by omega)
  rw [a 0 (by omega), a 1 (by omega), a 2 (by omega), a 3 (by omega), a 4 (by omega), a 5 (by omega), a 6 (by omega), a 7 (by omega)]
  rfl

theorem seq_ws (s : Nat → ByteArray) : Lane.Seq fun p i => ws (s i) p := fun p i => by
  simp only [lane_rotr]
  exact ws_hi (s i) p

/-- A block in lanes. -/
theorem block_lanes {R : Type} (n : Nat) (k : Lane.St R) (H : Nat → Array (BitVec 32)) (hH : ∀ i, (H i).size = 8) (s : Nat → ByteArray) :
    Lane.blockN (Lane.MM n) (Lane.ON n) k (Lane.lane n H 0) (Lane.lane n H 1) (Lane.lane n H 2) (Lane.lane n H 3) (Lane.lane n H 4) (Lane.lane n H 5) (Lane.lane n H 6) (Lane.lane n H 7)
      (Lane.PF n fun i => ws (s i) 0) (Lane.PF n fun i => ws (s i) 1) (Lane.PF n fun i => ws (s i) 2) (Lane.PF n fun i => ws (s i) 3) (Lane.PF n fun i => ws (s i) 4) (Lane.PF n fun i => ws (s i) 5) (Lane.PF n fun i => ws (s i) 6) (Lane.PF n fun i => ws (s i) 7)
      (Lane.PF n fun i => ws (s i) 8) (Lane.PF n fun i => ws (s i) 9) (Lane.PF n fun i => ws (s i) 10) (Lane.PF n fun i => ws (s i) 11) (Lane.PF n fun i => ws (s i) 12) (Lane.PF n fun i => ws (s i) 13) (Lane.PF n fun i => ws (s i) 14) (Lane.PF n fun i => ws (s i) 15) =
      (fun D : Nat → Array (BitVec 32) => k (Lane.lane n D 0) (Lane.lane n D 1) (Lane.lane n D 2) (Lane.lane n D 3) (Lane.lane n D 4) (Lane.lane n D 5) (Lane.lane n D 6) (Lane.lane n D 7)) fun i => blockOf (H i) (s i) := by
  rw [Lane.block_lane n k H (fun p i => ws (s i) p) (seq_ws s)]
  have e : (fun i => Lane.addA (H i) (Lane.runA (H i) ((Lane.kwl (fun p i => ws (s i) p) Lane.ksN 0).map fun f => f i))) = fun i => blockOf (H i) (s i) := by
    funext i
    rw [kwl_at, ← block_add (H i) (s i) (hH i)]
    congr 2
  rw [e]

end Go.Proofs.YtlkhgamhhblmgaaDoor
