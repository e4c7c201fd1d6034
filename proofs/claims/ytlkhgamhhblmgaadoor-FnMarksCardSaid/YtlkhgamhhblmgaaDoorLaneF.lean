import Derived.Test.YtlkhgamhhblmgaaDoorLaneE
namespace Go.Proofs.YtlkhgamhhblmgaaDoor
open Go.RowKit

/-! The keys: so many times one byte. -/
def keyB (L : Nat) (c : UInt8) : ByteArray := ⟨(List.replicate L c).toArray⟩
theorem keyB_size (L : Nat) (c : UInt8) : (keyB L c).size = L := by show (List.replicate L c).toArray.size = L; simp

/-- k at the first state. -/
noncomputable def atStart {R : Type} (n : Nat) (k : Lane.St R) : R := k (Nat.mul (Lane.ON n) 1779033703) (Nat.mul (Lane.ON n) 3144134277) (Nat.mul (Lane.ON n) 1013904242) (Nat.mul (Lane.ON n) 2773480762) (Nat.mul (Lane.ON n) 1359893119) (Nat.mul (Lane.ON n) 2600822924) (Nat.mul (Lane.ON n) 528734635) (Nat.mul (Lane.ON n) 1541459225)

theorem start_lane (n : Nat) (j c : Nat) (h : (start[j]!).toNat = c) : Nat.mul (Lane.ON n) c = Lane.lane n (fun _ => start) j := by
  show Lane.ON n * c = _
  rw [Lane.ON, Lane.PN_mul]
  exact Lane.PN_congr n fun i _ => by dsimp only; rw [h, Nat.one_mul]

theorem atStart_lanes {R : Type} (n : Nat) (k : Lane.St R) : atStart n k = atLanes n k fun _ => start := by
  unfold atStart atLanes
  rw [start_lane n 0 1779033703 (by unfold start; rfl), start_lane n 1 3144134277 (by unfold start; rfl), start_lane n 2 1013904242 (by unfold start; rfl), start_lane n 3 2773480762 (by unfold start; rfl), start_lane n 4 1359893119 (by unfold start; rfl), start_lane n 5 2600822924 (by unfold start; rfl), start_lane n 6 528734635 (by unfold start; rfl), start_lane n 7 1541459225 (by unfold start; rfl)]

/-- A short key's block, each byte exclusive-or m. -/
def TK (L : Nat) (m : UInt8) : List (Option UInt8) := List.replicate L none ++ List.replicate (64 - L) (some m)
theorem TK_length (L : Nat) (m : UInt8) (h : L ≤ 64) : (TK L m).length = 64 := by simp [TK]; omega

theorem key_short (L : Nat) (hL : L ≤ 64) (c m : UInt8) : xorText (keyOf (keyB L c)) m = inst (TK L m) (c ^^^ m) := by
  unfold keyOf
  rw [if_neg (by rw [keyB_size]; omega)]
  unfold fill64 xorText inst TK
  rw [keyB_size]
  congr 2
  simp [keyB]

/-- A long key's padded blocks. -/
def padT (L : Nat) : List (Option UInt8) := List.replicate L none ++ ([128] ++ List.replicate (zerosOf L) 0 ++ lenBytes L 8).map some
theorem padT_length (L : Nat) : (padT L).length = L + 1 + zerosOf L + 8 := by simp [padT, lenBytes_length]; omega

theorem key_pad (L : Nat) (c : UInt8) : padText (keyB L c) = ⟨((padT L).map fun o => o.getD c).toArray⟩ := by
  unfold padText padOf headPad padT
  rw [keyB_size]
  congr 2
  have e : ((fun o : Option UInt8 => o.getD c) ∘ some) = id := rfl
  simp [keyB, List.append_assoc, e]

theorem key_digest (L : Nat) (h : L + 1 + zerosOf L + 8 = 128) (c : UInt8) : digestOf (keyB L c) = stB (blockOf (blockOf start (inst ((padT L).take 64) c)) (inst ((padT L).drop 64) c)) := by
  have hl : (padT L).length = 128 := by rw [padT_length]; exact h
  have hsz : (⟨((padT L).map fun o => o.getD c).toArray⟩ : ByteArray).size = 128 := by
    show ((padT L).map fun o => o.getD c).toArray.size = _
    rw [List.size_toArray, List.length_map, hl]
  unfold digestOf stB
  rw [key_pad, hsz, show 128 / 64 = 0 + 1 + 1 by rfl, digState_succ, digState_succ, digState_zero, blk_list, blk_list, Nat.mul_zero, List.drop_zero, ← List.map_take, ← List.map_drop, show 64 * (0 + 1) = 64 by rfl, ← List.map_take]
  rw [List.take_of_length_le (l := (padT L).drop 64) (by rw [List.length_drop]; omega)]
  rfl

theorem xor_split (i a b c d : Nat) (hb : b < 2 ^ i) (hd : d < 2 ^ i) : (2 ^ i * a + b) ^^^ (2 ^ i * c + d) = 2 ^ i * (a ^^^ c) + (b ^^^ d) := by
  apply Nat.eq_of_testBit_eq
  intro j
  rw [Nat.testBit_xor, Nat.testBit_two_pow_mul_add _ hb, Nat.testBit_two_pow_mul_add _ hd, Nat.testBit_two_pow_mul_add _ (Nat.xor_lt_two_pow hb hd)]
  split
  · rw [Nat.testBit_xor]
  · rw [Nat.testBit_xor]

theorem xor_word (a b c d m : UInt8) : BitVec.ofNat 32 ((a ^^^ m).toNat * 2 ^ 24 + (b ^^^ m).toNat * 2 ^ 16 + (c ^^^ m).toNat * 2 ^ 8 + (d ^^^ m).toNat) =
    BitVec.ofNat 32 (a.toNat * 2 ^ 24 + b.toNat * 2 ^ 16 + c.toNat * 2 ^ 8 + d.toNat) ^^^ BitVec.ofNat 32 (m.toNat * 16843009) := by
  have ha := a.toNat_lt
  have hb := b.toNat_lt
  have hc := c.toNat_lt
  have hd := d.toNat_lt
  have hm := m.toNat_lt
  have h1 := xor_split 8 (2 ^ 8 * (2 ^ 8 * a.toNat + b.toNat) + c.toNat) d.toNat (2 ^ 8 * (2 ^ 8 * m.toNat + m.toNat) + m.toNat) m.toNat (by omega) (by omega)
  have h2 := xor_split 8 (2 ^ 8 * a.toNat + b.toNat) c.toNat (2 ^ 8 * m.toNat + m.toNat) m.toNat (by omega) (by omega)
  have h3 := xor_split 8 a.toNat b.toNat m.toNat m.toNat (by omega) (by omega)
  rw [h2, h3] at h1
  apply BitVec.eq_of_toNat_eq
  rw [BitVec.toNat_xor, BitVec.toNat_ofNat, BitVec.toNat_ofNat, BitVec.toNat_ofNat, Nat.mod_eq_of_lt (show m.toNat * 16843009 < 2 ^ 32 by omega), Nat.mod_eq_of_lt (show a.toNat * 2 ^ 24 + b.toNat * 2 ^ 16 + c.toNat * 2 ^ 8 + d.toNat < 2 ^ 32 by omega)]
  have k0 := (a ^^^ m).toNat_lt
  have k1 := (b ^^^ m).toNat_lt
  have k2 := (c ^^^ m).toNat_lt
  have k3 := (d ^^^ m).toNat_lt
  rw [Nat.mod_eq_of_lt (by omega)]
  rw [show a.toNat * 2 ^ 24 + b.toNat * 2 ^ 16 + c.toNat * 2 ^ 8 + d.toNat = 2 ^ 8 * (2 ^ 8 * (2 ^ 8 * a.toNat + b.toNat) + c.toNat) + d.toNat by omega, show m.toNat * 16843009 = 2 ^ 8 * (2 ^ 8 * (2 ^ 8 * m.toNat + m.toNat) + m.toNat) + m.toNat by omega, h1]
  simp only [UInt8.toNat_xor]
  omega

theorem getD_xor (l : List UInt8) (m : UInt8) (j : Nat) (h : j < l.length) : (l.map (· ^^^ m)).getD j 0 = l.getD j 0 ^^^ m := by
  rw [List.getD_eq_getElem?_getD, List.getD_eq_getElem?_getD, List.getElem?_map, List.getElem?_eq_getElem h]
  rfl

theorem xor_at (l : List UInt8) (m : UInt8) (hl : l.length = 64) (j : Nat) (hj : j < 16) : wordAt ⟨(l.map (· ^^^ m)).toArray⟩ j = wordAt ⟨l.toArray⟩ j ^^^ BitVec.ofNat 32 (m.toNat * 16843009) := by
  rw [wordAt_nat, wordAt_nat, data_get, data_get, data_get, data_get, data_get, data_get, data_get, data_get, getD_xor _ _ _ (by omega), getD_xor _ _ _ (by omega), getD_xor _ _ _ (by omega), getD_xor _ _ _ (by omega), xor_word]

theorem zero_hi (l : List UInt8) (hl : l.length = 32) (j : Nat) (h8 : 8 ≤ j) (hj : j < 16) : wordAt ⟨(l ++ List.replicate 32 0).toArray⟩ j = 0 := by
  have h : ∀ k, (List.replicate 32 (0 : UInt8)).getD k 0 = 0 := fun k => by
    rw [List.getD_eq_getElem?_getD, List.getElem?_replicate]
    split <;> rfl
  rw [wordAt_nat, data_get, data_get, data_get, data_get, getD_behind l _ _ (by omega), getD_behind l _ _ (by omega), getD_behind l _ _ (by omega), getD_behind l _ _ (by omega), h, h, h, h]
  rfl

theorem long_list (d : Array (BitVec 32)) (m : UInt8) : xorText (fill64 (stB d)) m = ⟨((stText d 8 ++ List.replicate 32 0).map (· ^^^ m)).toArray⟩ := by
  have hs : (stB d).size = 32 := by show (stText d 8).toArray.size = 32; rw [List.size_toArray, st8_length]
  unfold xorText fill64
  rw [hs]
  rfl

theorem long_lo (d : Array (BitVec 32)) (m : UInt8) (j : Nat) (hj : j < 8) : ws (xorText (fill64 (stB d)) m) j = d[j]! ^^^ BitVec.ofNat 32 (m.toNat * 16843009) := by
  rw [ws_lo _ _ (by omega), long_list, xor_at _ _ (by simp [st8_length]) _ (by omega), st_word d _ j hj]
theorem long_hi (d : Array (BitVec 32)) (m : UInt8) (j : Nat) (h8 : 8 ≤ j) (hj : j < 16) : ws (xorText (fill64 (stB d)) m) j = BitVec.ofNat 32 (m.toNat * 16843009) := by
  rw [ws_lo _ _ hj, long_list, xor_at _ _ (by simp [st8_length]) _ hj, zero_hi _ (st8_length d) j h8 hj]
  exact BitVec.zero_xor

noncomputable def keyN {R : Type} (n m : Nat) (k : Lane.St R) : Lane.St R := fun d0 d1 d2 d3 d4 d5 d6 d7 =>
  Lane.blockN (Lane.MM n) (Lane.ON n) k (Nat.mul (Lane.ON n) 1779033703) (Nat.mul (Lane.ON n) 3144134277) (Nat.mul (Lane.ON n) 1013904242) (Nat.mul (Lane.ON n) 2773480762) (Nat.mul (Lane.ON n) 1359893119) (Nat.mul (Lane.ON n) 2600822924) (Nat.mul (Lane.ON n) 528734635) (Nat.mul (Lane.ON n) 1541459225) (Nat.xor d0 (Nat.mul (Lane.ON n) (m * 16843009))) (Nat.xor d1 (Nat.mul (Lane.ON n) (m * 16843009))) (Nat.xor d2 (Nat.mul (Lane.ON n) (m * 16843009))) (Nat.xor d3 (Nat.mul (Lane.ON n) (m * 16843009))) (Nat.xor d4 (Nat.mul (Lane.ON n) (m * 16843009))) (Nat.xor d5 (Nat.mul (Lane.ON n) (m * 16843009))) (Nat.xor d6 (Nat.mul (Lane.ON n) (m * 16843009))) (Nat.xor d7 (Nat.mul (Lane.ON n) (m * 16843009))) (Nat.mul (Lane.ON n) (m * 16843009)) (Nat.mul (Lane.ON n) (m * 16843009)) (Nat.mul (Lane.ON n) (m * 16843009)) (Nat.mul (Lane.ON n) (m * 16843009)) (Nat.mul (Lane.ON n) (m * 16843009)) (Nat.mul (Lane.ON n) (m * 16843009)) (Nat.mul (Lane.ON n) (m * 16843009)) (Nat.mul (Lane.ON n) (m * 16843009))

theorem const_lane (n c : Nat) (hc : c < 2 ^ 32) : Nat.mul (Lane.ON n) c = Lane.PF n fun _ => BitVec.ofNat 32 c := by
  show Lane.ON n * c = _
  rw [Lane.ON, Lane.PN_mul]
  exact Lane.PN_congr n fun i _ => by dsimp only; rw [BitVec.toNat_ofNat, Nat.mod_eq_of_lt hc, Nat.one_mul]

theorem keyN_lanes {R : Type} (n : Nat) (m : UInt8) (k : Lane.St R) (D : Nat → Array (BitVec 32)) :
    atLanes n (keyN n m.toNat k) D = atLanes n k fun i => blockOf start (xorText (fill64 (stB (D i))) m) := by
  have hm := m.toNat_lt
  have b := block_lanes n k (fun _ => start) (fun _ => start_size) fun i => xorText (fill64 (stB (D i))) m
  have lo : ∀ j, j < 8 → (Lane.PF n fun i => ws (xorText (fill64 (stB (D i))) m) j) = Nat.xor (Lane.lane n D j) (Nat.mul (Lane.ON n) (m.toNat * 16843009)) := fun j hj => by
    rw [const_lane n _ (by omega), Lane.lane, Lane.PF_xor]
    exact Lane.PN_congr n fun i _ => by dsimp only; rw [long_lo _ _ _ hj]
  have hi : ∀ j, 8 ≤ j → j < 16 → (Lane.PF n fun i => ws (xorText (fill64 (stB (D i))) m) j) = Nat.mul (Lane.ON n) (m.toNat * 16843009) := fun j h8 hj => by
    rw [const_lane n _ (by omega)]
    exact Lane.PN_congr n fun i _ => by dsimp only; rw [long_hi _ _ _ h8 hj]
  rw [lo 0 (by omega), lo 1 (by omega), lo 2 (by omega), lo 3 (by omega), lo 4 (by omega), lo 5 (by omega), lo 6 (by omega), lo 7 (by omega), hi 8 (by omega) (by omega), hi 9 (by omega) (by omega), hi 10 (by omega) (by omega), hi 11 (by omega) (by omega), hi 12 (by omega) (by omega), hi 13 (by omega) (by omega), hi 14 (by omega) (by omega), hi 15 (by omega) (by omega)] at b
  rw [← start_lane n 0 1779033703 (by unfold start; rfl), ← start_lane n 1 3144134277 (by unfold start; rfl), ← start_lane n 2 1013904242 (by unfold start; rfl), ← start_lane n 3 2773480762 (by unfold start; rfl), ← start_lane n 4 1359893119 (by unfold start; rfl), ← start_lane n 5 2600822924 (by unfold start; rfl), ← start_lane n 6 528734635 (by unfold start; rfl), ← start_lane n 7 1541459225 (by unfold start; rfl)] at b
  unfold atLanes keyN
  exact b

end Go.Proofs.YtlkhgamhhblmgaaDoor
