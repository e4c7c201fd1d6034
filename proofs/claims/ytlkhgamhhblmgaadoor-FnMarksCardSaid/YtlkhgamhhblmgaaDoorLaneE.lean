import Derived.Test.YtlkhgamhhblmgaaDoorLaneD
namespace Go.Proofs.YtlkhgamhhblmgaaDoor
open Go.RowKit

/-! The mark in lanes. -/
def C32 : List UInt8 := [128] ++ List.replicate 23 0 ++ lenBytes 96 8
def T32 : List (Option UInt8) := (List.replicate 32 0 ++ C32).map some
theorem C32_length : C32.length = 32 := by simp [C32, lenBytes_length]
theorem T32_length : T32.length = 64 := by simp [T32, C32_length]
theorem tail32 (l : List UInt8) (h : l.length = 32) : tailT l = l ++ C32 := by
  unfold tailT C32
  rw [h]
  simp [zerosOf, List.append_assoc]

theorem getD_behind (l r : List UInt8) (n : Nat) (h : l.length ≤ n) : (l ++ r).getD n 0 = r.getD (n - l.length) 0 := by
  rw [List.getD_eq_getElem?_getD, List.getD_eq_getElem?_getD, List.getElem?_append_right h]

theorem word_behind (l l' r : List UInt8) (h : l.length = 32) (h' : l'.length = 32) (j : Nat) (hj : 8 ≤ j) : wordAt ⟨(l ++ r).toArray⟩ j = wordAt ⟨(l' ++ r).toArray⟩ j := by
  rw [wordAt_nat, wordAt_nat]
  rw [data_get, data_get, data_get, data_get, data_get, data_get, data_get, data_get]
  rw [getD_behind l r _ (by omega), getD_behind l r _ (by omega), getD_behind l r _ (by omega), getD_behind l r _ (by omega), getD_behind l' r _ (by omega), getD_behind l' r _ (by omega), getD_behind l' r _ (by omega), getD_behind l' r _ (by omega), h, h']

theorem st8_length (d : Array (BitVec 32)) : (stText d 8).length = 32 := stText_length d 8

theorem out_lo (d : Array (BitVec 32)) (j : Nat) (hj : j < 8) : ws ⟨(tailT (stText d 8)).toArray⟩ j = d[j]! := by
  rw [ws_lo _ _ (by omega), tail32 _ (st8_length d), st_word d C32 j hj]
theorem out_hi (d : Array (BitVec 32)) (v : UInt8) (j : Nat) (h8 : 8 ≤ j) (hj : j < 16) : ws ⟨(tailT (stText d 8)).toArray⟩ j = ws (inst T32 v) j := by
  rw [ws_lo _ _ hj, ws_lo _ _ hj, tail32 _ (st8_length d), T32, inst_some]
  exact word_behind _ _ C32 (st8_length d) (by simp) j h8

noncomputable def outN {R : Type} (n V : Nat) (o0 o1 o2 o3 o4 o5 o6 o7 : Nat) (k : Lane.St R) : Lane.St R := fun d0 d1 d2 d3 d4 d5 d6 d7 =>
  Lane.blockN (Lane.MM n) (Lane.ON n) k o0 o1 o2 o3 o4 o5 o6 o7 d0 d1 d2 d3 d4 d5 d6 d7 (wd V (Lane.ON n) T32 8) (wd V (Lane.ON n) T32 9) (wd V (Lane.ON n) T32 10) (wd V (Lane.ON n) T32 11) (wd V (Lane.ON n) T32 12) (wd V (Lane.ON n) T32 13) (wd V (Lane.ON n) T32 14) (wd V (Lane.ON n) T32 15)

theorem tail_32 (h : Array (BitVec 32)) (d : Array (BitVec 32)) : tailSt h (stText d 8) = blockOf h ⟨(tailT (stText d 8)).toArray⟩ := by
  unfold tailSt
  rw [if_pos (by rw [st8_length]; omega)]

theorem out_lanes {R : Type} (n : Nat) (v : Nat → UInt8) (k : Lane.St R) (H2 D : Nat → Array (BitVec 32)) (hH : ∀ i, (H2 i).size = 8) :
    atLanes n (outN n (Lane.PN n fun i => (v i).toNat) (Lane.lane n H2 0) (Lane.lane n H2 1) (Lane.lane n H2 2) (Lane.lane n H2 3) (Lane.lane n H2 4) (Lane.lane n H2 5) (Lane.lane n H2 6) (Lane.lane n H2 7) k) D = atLanes n k fun i => tailSt (H2 i) (stText (D i) 8) := by
  have b := block_lanes n k H2 hH fun i => ⟨(tailT (stText (D i) 8)).toArray⟩
  have lo : ∀ j, j < 8 → (Lane.PF n fun i => ws ⟨(tailT (stText (D i) 8)).toArray⟩ j) = Lane.lane n D j := fun j hj => Lane.PN_congr n fun i _ => by dsimp only; rw [out_lo _ _ hj]
  have hi : ∀ j, 8 ≤ j → j < 16 → (Lane.PF n fun i => ws ⟨(tailT (stText (D i) 8)).toArray⟩ j) = wd (Lane.PN n fun i => (v i).toNat) (Lane.ON n) T32 j := fun j h8 hj => by
    rw [wd_lane n v T32 T32_length j hj]
    exact Lane.PN_congr n fun i _ => by dsimp only; rw [out_hi _ (v i) _ h8 hj]
  rw [lo 0 (by omega), lo 1 (by omega), lo 2 (by omega), lo 3 (by omega), lo 4 (by omega), lo 5 (by omega), lo 6 (by omega), lo 7 (by omega), hi 8 (by omega) (by omega), hi 9 (by omega) (by omega), hi 10 (by omega) (by omega), hi 11 (by omega) (by omega), hi 12 (by omega) (by omega), hi 13 (by omega) (by omega), hi 14 (by omega) (by omega), hi 15 (by omega) (by omega)] at b
  unfold atLanes outN
  rw [b]
  simp only [tail_32]

/-- Every lane apart. -/
def apart (n X Y : Nat) : Bool := Nat.beq (Nat.land (Nat.add (Nat.xor X Y) (Lane.MM n)) (Nat.mul (Lane.ON n) 4294967296)) (Nat.mul (Lane.ON n) 4294967296)

theorem PN_all (n : Nat) : ∀ (a : Nat → Nat), (∀ i, i < n → a i < 2 ^ 64) → Lane.PN n a &&& Lane.PN n (fun _ => 4294967296) = Lane.PN n (fun _ => 4294967296) → ∀ i, i < n → (a i).testBit 32 = true := by
  induction n with
  | zero => intro a _ _ i hi; omega
  | succ n ih =>
    intro a ha h i hi
    have hb : ∀ j, ((Lane.PN (n + 1) a).testBit j && (Lane.PN (n + 1) fun _ => 4294967296).testBit j) = (Lane.PN (n + 1) fun _ => 4294967296).testBit j := fun j => by
      rw [← Nat.testBit_and, h]
    match i with
    | 0 =>
      have h0 := hb 32
      rw [Lane.PN_bit n a (ha 0 (by omega)), Lane.PN_bit n _ (by decide), if_pos (by omega), if_pos (by omega), show (4294967296 : Nat).testBit 32 = true by decide] at h0
      simpa using h0
    | i + 1 =>
      refine ih (fun i => a (i + 1)) (fun i hi => ha (i + 1) (by omega)) ?_ i (by omega)
      apply Nat.eq_of_testBit_eq
      intro j
      have h0 := hb (j + 64)
      rw [Lane.PN_bit n a (ha 0 (by omega)), Lane.PN_bit n _ (by decide), if_neg (by omega), if_neg (by omega), Nat.add_sub_cancel] at h0
      rw [Nat.testBit_and]
      exact h0

theorem apart_lanes (n : Nat) (f g : Nat → BitVec 32) (h : apart n (Lane.PF n f) (Lane.PF n g) = true) : ∀ i, i < n → f i ≠ g i := by
  intro i hi e
  unfold apart at h
  have h := Nat.eq_of_beq_eq_true h
  rw [Lane.PF_xor, Lane.PF_nat] at h
  have e1 : Nat.add (Lane.PN n fun i => (f i ^^^ g i).toNat) (Lane.MM n) = Lane.PN n fun i => (f i ^^^ g i).toNat + 4294967295 := Lane.PN_add n _ _
  have e2 : Nat.mul (Lane.ON n) 4294967296 = Lane.PN n fun _ => 4294967296 := by
    show Lane.ON n * 4294967296 = _
    rw [Lane.ON, Lane.PN_mul]
  rw [e1, e2] at h
  have hb := PN_all n _ (fun i _ => by have := (f i ^^^ g i).isLt; omega) h i hi
  rw [e, BitVec.xor_self] at hb
  exact absurd hb (by decide)

/-- The first word of the mark of a text, in lanes. -/
noncomputable def markN (n V o0 o1 o2 o3 o4 o5 o6 o7 : Nat) (t : List UInt8) : Lane.St Nat := tailN n V t (outN n V o0 o1 o2 o3 o4 o5 o6 o7 fun a _ _ _ _ _ _ _ => a)

def markSt (h1 h2 : Array (BitVec 32)) (t : List UInt8) : Array (BitVec 32) := tailSt h2 (stText (tailSt h1 t) 8)

theorem mark_lanes (n : Nat) (v : Nat → UInt8) (H1 H2 : Nat → Array (BitVec 32)) (h1 : ∀ i, (H1 i).size = 8) (h2 : ∀ i, (H2 i).size = 8) (t : List UInt8) (ht : t.length ≤ 119) :
    atLanes n (markN n (Lane.PN n fun i => (v i).toNat) (Lane.lane n H2 0) (Lane.lane n H2 1) (Lane.lane n H2 2) (Lane.lane n H2 3) (Lane.lane n H2 4) (Lane.lane n H2 5) (Lane.lane n H2 6) (Lane.lane n H2 7) t) H1 = Lane.PF n fun i => (markSt (H1 i) (H2 i) t)[0]! := by
  unfold markN
  rw [tailN_lanes n v t ht _ H1 h1, out_lanes n v _ H2 _ h2]
  rfl

theorem hmac_state (key : ByteArray) (h1 : (xorText (keyOf key) 54).size = 64) (h2 : (xorText (keyOf key) 92).size = 64) (t : List UInt8) (ht : t.length ≤ 119) :
    hmacOf key ⟨t.toArray⟩ = stB (markSt (blockOf start (xorText (keyOf key) 54)) (blockOf start (xorText (keyOf key) 92)) t) := by
  unfold hmacOf markSt
  rw [dig_tail _ h1 t ht]
  exact dig_tail _ h2 _ (by rw [st8_length]; omega)

theorem stB_first (d e : Array (BitVec 32)) (h : d[0]! ≠ e[0]!) : stB d ≠ stB e := fun he => by
  have h1 := st_word d [] 0 (by omega)
  have h2 := st_word e [] 0 (by omega)
  rw [List.append_nil] at h1 h2
  unfold stB at he
  rw [he] at h1
  exact h (h1.symm.trans h2)

end Go.Proofs.YtlkhgamhhblmgaaDoor
