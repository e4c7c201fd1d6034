import Derived.Test.YtkpajakangaekabSoe
import Derived.Test.YtkpajakangaekabRdx
import Derived.Test.YtkpajakangaekabBytM
namespace Go.Proofs.Ytkpajakangaekab
open Go.RowKit

/-- The text x stands in s at a. -/
def At (s : ByteArray) (a : Int) (x : ByteArray) : Prop := Part s a x.size ∧ s.extract a.toNat (a + x.size).toNat = x

theorem ext_list (s : ByteArray) (a b : Nat) : (s.extract a b).data.toList = (s.data.toList.drop a).take (b - a) := by
  simp only [ByteArray.data_extract, Array.toList_extract, List.extract_eq_take_drop]

theorem list_size (x : ByteArray) : x.data.toList.length = x.size := by rw [Array.length_toList]; rfl

theorem at_iff (s : ByteArray) (a : Int) (x : ByteArray) : At s a x ↔ (0 ≤ a ∧ a + (x.size : Int) ≤ (s.size : Int) ∧ (s.data.toList.drop a.toNat).take x.size = x.data.toList) := by
  unfold At Part
  constructor
  · rintro ⟨⟨h0, -, h1⟩, h2⟩
    refine ⟨h0, h1, ?_⟩
    have := congrArg (fun y : ByteArray => y.data.toList) h2
    simp only [ext_list] at this
    rw [show (a + (x.size : Int)).toNat - a.toNat = x.size by omega] at this
    exact this
  · rintro ⟨h0, h1, h2⟩
    refine ⟨⟨h0, by omega, h1⟩, ?_⟩
    apply ByteArray.ext
    apply Array.toList_inj.1
    rw [ext_list, show (a + (x.size : Int)).toNat - a.toNat = x.size by omega]
    exact h2

theorem take_split {α : Type} (L X Y : List α) (n m : Nat) (hx : X.length = n) (h : L.take (n + m) = X ++ Y) : L.take n = X ∧ (L.drop n).take m = Y := by
  constructor
  · have h1 : L.take n = (L.take (n + m)).take n := by rw [List.take_take, Nat.min_eq_left (by omega)]
    rw [h1, h, List.take_append_of_le_length (by omega), List.take_of_length_le (by omega)]
  · have h1 : (L.drop n).take m = (L.take (n + m)).drop n := by rw [List.drop_take, Nat.add_sub_cancel_left]
    rw [h1, h, List.drop_append_of_le_length (by omega), List.drop_of_length_le (by omega), List.nil_append]

theorem at_app {s : ByteArray} {a : Int} {x y : ByteArray} (m b : Int) (h : At s a (x ++ y)) (hx : (x.size : Int) = m) (hb : a + m = b) : At s a x ∧ At s b y := by
  subst hx hb
  rw [at_iff, ByteArray.size_append] at h
  obtain ⟨h0, h1, h2⟩ := h
  rw [ByteArray.data_append, Array.toList_append] at h2
  obtain ⟨h3, h4⟩ := take_split _ _ _ _ _ (list_size x) h2
  rw [List.drop_drop] at h4
  rw [at_iff, at_iff]
  refine ⟨⟨h0, by omega, h3⟩, by omega, by omega, ?_⟩
  rw [show (a + (x.size : Int)).toNat = a.toNat + x.size by omega]
  exact h4

theorem at_self (x : ByteArray) : At x 0 x := by
  rw [at_iff]
  refine ⟨by omega, by omega, ?_⟩
  rw [show (0 : Int).toNat = 0 from rfl, List.drop_zero, List.take_of_length_le (by rw [list_size]; omega)]

theorem at_of (s : ByteArray) (a m : Int) (h : Part s a m) : At s a (s.extract a.toNat (a + m).toNat) := by
  have hz := part_size s a m h
  obtain ⟨h0, h1, h2⟩ := h
  refine ⟨⟨h0, by omega, by omega⟩, ?_⟩
  rw [hz, show a + ((m.toNat : Nat) : Int) = a + m by omega]

theorem num_back (n w : Nat) (h1 : 1 ≤ w) (h6 : w ≤ 6) (hn : n < 256 ^ w) : numOf (numText (n : Int) (w : Int)).data.toList = n := by
  rw [numText_yes n w h1 h6 hn]
  show numOf (numBytes n w).toArray.toList = n
  rw [List.toList_toArray]
  have hw : w = 1 ∨ w = 2 ∨ w = 3 ∨ w = 4 ∨ w = 5 ∨ w = 6 := by omega
  unfold numOf numBytes
  rcases hw with rfl | rfl | rfl | rfl | rfl | rfl
  all_goals
    simp [List.range_succ] at hn ⊢
    omega

theorem num_wide (n m : Int) (hn : ¬ numText n m = ⟨#[]⟩) : ((numText n m).size : Int) = m := by
  obtain ⟨h1, h6, h0, hlt⟩ := (num_ne n m).1 hn
  obtain ⟨N, rfl⟩ : ∃ N : Nat, n = N := ⟨n.toNat, by omega⟩
  obtain ⟨M, rfl⟩ : ∃ M : Nat, m = M := ⟨m.toNat, by omega⟩
  rw [Int.toNat_natCast] at hlt
  have hlt' : N < 256 ^ M := by
    have e : ((256 : Int) ^ M) = ((256 ^ M : Nat) : Int) := by rw [Int.natCast_pow]; rfl
    omega
  rw [numText_size N M (by omega) (by omega) hlt']

theorem at_num {s : ByteArray} {a n m : Int} (h : At s a (numText n m)) (hn : ¬ numText n m = ⟨#[]⟩) : nAt s a m = n ∧ Part s a m := by
  have hw := num_wide n m hn
  obtain ⟨h1, h6, h0, hlt⟩ := (num_ne n m).1 hn
  obtain ⟨N, rfl⟩ : ∃ N : Nat, n = N := ⟨n.toNat, by omega⟩
  obtain ⟨M, rfl⟩ : ∃ M : Nat, m = M := ⟨m.toNat, by omega⟩
  rw [Int.toNat_natCast] at hlt
  have hlt' : N < 256 ^ M := by
    have e : ((256 : Int) ^ M) = ((256 ^ M : Nat) : Int) := by rw [Int.natCast_pow]; rfl
    omega
  obtain ⟨hp, he⟩ := h
  rw [hw] at hp he
  refine ⟨?_, hp⟩
  rw [nAt_yes s a _ hp]
  unfold natAt
  rw [he, num_back N M (by omega) (by omega) hlt']

theorem at_flag {s : ByteArray} {a : Int} {b : Bool} (h : At s a (flagTx b)) : nAt s a 1 = (if b then 1 else 0) := (at_num (show At s a (numText _ 1) from h) (flag_ne b)).1
theorem flag_wide (b : Bool) : ((flagTx b).size : Int) = 1 := num_wide _ _ (flag_ne b)

theorem at_txt {s : ByteArray} {a m : Int} {x : ByteArray} (h : At s a x) (hx : (x.size : Int) = m) : tAt s a m = x := by
  subst hx
  rw [tAt_yes s a _ h.1]
  exact h.2

theorem at_head {s : ByteArray} {a k c : Int} {F : ByteArray} (h : At s a (numText k 1 ++ numText c 1 ++ F)) (hk : ¬ numText k 1 = ⟨#[]⟩) (hc : ¬ numText c 1 = ⟨#[]⟩) :
    nAt s a 1 = k ∧ Part s a 1 ∧ nAt s (a + 1) 1 = c ∧ Part s (a + 1) 1 ∧ At s (a + 2) F := by
  rw [ByteArray.append_assoc] at h
  obtain ⟨h1, h2⟩ := at_app 1 (a + 1) h (num_wide _ _ hk) rfl
  obtain ⟨h3, h4⟩ := at_app 1 (a + 2) h2 (num_wide _ _ hc) (by omega)
  obtain ⟨e1, e2⟩ := at_num h1 hk
  obtain ⟨e3, e4⟩ := at_num h3 hc
  exact ⟨e1, e2, e3, e4, h4⟩

theorem num1_ne (k : Int) (h : 0 ≤ k ∧ k ≤ 255) : ¬ numText k 1 = ⟨#[]⟩ := by
  rw [num_ne]
  have : (256 : Int) ^ (1 : Int).toNat = 256 := by decide
  omega

/-- The model's reading: a field is laid into the option. -/
def putL (o : Ov) (b n : Int) (x : ByteArray) : Ov :=
  if b = 105 then { o with id := n } else if b = 102 then { o with flag := n != 0 } else if b = 116 then { o with token := n } else if b = 110 then { o with nonce := n } else if b = 97 then { o with ack := n }
  else if b = 115 then { o with seq := n } else if b = 117 then { o with sub := n } else if b = 108 then { o with len := n } else if b = 100 then { o with addr := n } else if b = 112 then { o with port := n }
  else if b = 107 then { o with key := x } else if b = 109 then { o with mark := x } else o
/-- What the model's NumAt answers of a field's bytes. -/
def numP (x : ByteArray) (w : Int) : Int := if 1 ≤ w ∧ w ≤ 6 then nAt x 0 w else 0
def offUp (sh : ByteArray) : Nat → Int
  | 0 => 0
  | k + 1 => offUp sh k + wideOf (widOf sh k)
def candUp (k0 : Int) (t sh : ByteArray) : Nat → Ov
  | 0 => { Ov.zero with kind := k0 }
  | k + 1 => putL (candUp k0 t sh k) (letOf sh k) (numP (tAt t (offUp sh k) (wideOf (widOf sh k))) (wideOf (widOf sh k))) (tAt t (offUp sh k) (wideOf (widOf sh k)))
theorem offUp_zero (sh : ByteArray) : offUp sh 0 = 0 := rfl
theorem offUp_succ (sh : ByteArray) (k : Nat) : offUp sh (k + 1) = offUp sh k + wideOf (widOf sh k) := rfl
theorem candUp_zero (k0 : Int) (t sh : ByteArray) : candUp k0 t sh 0 = { Ov.zero with kind := k0 } := rfl
theorem candUp_succ (k0 : Int) (t sh : ByteArray) (k : Nat) : candUp k0 t sh (k + 1) = putL (candUp k0 t sh k) (letOf sh k) (numP (tAt t (offUp sh k) (wideOf (widOf sh k))) (wideOf (widOf sh k))) (tAt t (offUp sh k) (wideOf (widOf sh k))) := rfl
attribute [irreducible] offUp candUp

theorem numP_num (n w : Int) (hn : ¬ numText n w = ⟨#[]⟩) : numP (numText n w) w = n := by
  obtain ⟨h1, h6, -, -⟩ := (num_ne n w).1 hn
  unfold numP
  rw [if_pos ⟨h1, h6⟩]
  exact (at_num (at_self _) hn).1
theorem numP_flag (b : Bool) : numP (flagTx b) 1 = (if b then 1 else 0) := numP_num _ _ (flag_ne b)

/-- The bytes as numbers. -/
def bytesOf (t : ByteArray) : List Int := t.data.toList.map fun b => (b.toNat : Int)
def candOf (k0 : Int) (t : ByteArray) : Ov := if k0 = 8 then { candUp k0 t (shapeOf k0) (shN k0) with ids := bytesOf t } else candUp k0 t (shapeOf k0) (shN k0)


theorem wide_49 : wideOf 49 = 1 := by decide
theorem wide_50 : wideOf 50 = 2 := by decide
theorem wide_52 : wideOf 52 = 4 := by decide
theorem wide_54 : wideOf 54 = 6 := by decide
theorem wide_56 : wideOf 56 = 8 := by decide
theorem wide_58 : wideOf 58 = 20 := by decide

/-- An option's text reads back. -/
structure Back (o : Ov) (s : ByteArray) (a : Int) : Prop where
  k : nAt s a 1 = o.kind
  pk : Part s a 1
  c : nAt s (a + 1) 1 = ((fieldsOf o).size : Int)
  pc : Part s (a + 1) 1
  f : At s (a + 2) (fieldsOf o)
  rd : rdo s a = o
  off : offUp (shapeOf o.kind) (shN o.kind) ≤ ((fieldsOf o).size : Int)
  cand : candOf o.kind (fieldsOf o) = o


set_option linter.unusedSimpArgs false in
theorem back_1 (o : Ov) (hk : o.kind = 1) (hs : specOk o = true) (s : ByteArray) (a : Int) (h : At s a (optTx o)) : Back o s a := by
  obtain ⟨h1, h2⟩ := (ok_1 o hk).1 hs
  have h3 := (plain_1 o hk).1 h1
  have hp := (parts_1 o).1 h2
  rw [optTx_yes o hs, tx_1 o hk hs, hk] at h
  have e1 : fieldsOf o = ofSz o.key 8 := by unfold fieldsOf; simp [hk]
  have q0 := hp
  rw [ofSz_self _ _ q0] at h e1
  have hF : ((fieldsOf o).size : Int) = 8 := by rw [e1]; omega
  rw [← e1] at h
  have hF3 := at_self (fieldsOf o)
  obtain ⟨a1, a2, a3, a4, hF2⟩ := at_head h (num1_ne _ (by decide)) (num1_ne _ (by omega))
  have hF4 := hF2
  rw [e1] at hF2
  have e2 := e1
  have e3 : fieldsOf o = o.key := e1
  rw [e1] at hF3
  have b0 := hF2
  have c0 := hF3
  have r0 := at_txt b0 q0
  have t0 : tAt (fieldsOf o) 0 8 = o.key := by rw [e3]; exact at_txt (by simpa only [ByteArray.append_assoc] using c0) q0
  refine ⟨by rw [hk]; exact a1, a2, a3, a4, hF4, ?_, ?_, ?_⟩
  · rw [rdo_1 s a a1]
    unfold rdo1
    rw [r0]
    clear e1 e2 e3 h hF hF2 hF3 hF4 a1 a2 a3 a4 t0 b0 c0 r0 h1 h2 hs q0 
    obtain ⟨kind, id, addr, port, token, nonce, seq, sub, len, ack, flag, key, mark, ids⟩ := o
    simp only at hk h3
    cases flag <;> simp_all [Ov.zero]
  · rw [hk, shn_1, hF]
    simp only [offUp_succ, offUp_zero, wid_1_0, let_1_0, wide_56]
    decide
  · rw [hk]
    unfold candOf
    rw [if_neg (by decide), shn_1]
    simp only [candUp_succ, candUp_zero, offUp_succ, offUp_zero, wid_1_0, let_1_0, wide_56, Int.zero_add, Int.reduceAdd, t0]
    clear e1 e2 e3 h hF hF2 hF3 hF4 a1 a2 a3 a4 t0 b0 c0 r0 h1 h2 hs q0 
    obtain ⟨kind, id, addr, port, token, nonce, seq, sub, len, ack, flag, key, mark, ids⟩ := o
    simp only at hk h3
    cases flag <;> simp_all [Ov.zero, putL]

set_option linter.unusedSimpArgs false in
theorem back_2 (o : Ov) (hk : o.kind = 2) (hs : specOk o = true) (s : ByteArray) (a : Int) (h : At s a (optTx o)) : Back o s a := by
  obtain ⟨h1, h2⟩ := (ok_2 o hk).1 hs
  have h3 := (plain_2 o hk).1 h1
  have hp := (parts_2 o).1 h2
  rw [optTx_yes o hs, tx_2 o hk hs, hk] at h
  have e1 : fieldsOf o = rowOf [numText o.id 1, flagTx o.flag, numText o.token 4, numText o.nonce 4] := by unfold fieldsOf; simp [hk]
  rw [rowOf_join _ ((rowOf_ne _ (List.cons_ne_nil _ _)).1 h2), join_four] at h e1
  obtain ⟨q0, q1, q2, q3⟩ := hp
  have z0 := num_wide _ _ q0
  have z1 := flag_wide o.flag
  have z2 := num_wide _ _ q2
  have z3 := num_wide _ _ q3
  have hF : ((fieldsOf o).size : Int) = 10 := by rw [e1]; simp only [ByteArray.size_append]; omega
  rw [← e1] at h
  have hF3 := at_self (fieldsOf o)
  obtain ⟨a1, a2, a3, a4, hF2⟩ := at_head h (num1_ne _ (by decide)) (num1_ne _ (by omega))
  have hF4 := hF2
  rw [e1] at hF2
  have e2 := e1
  have e3 : fieldsOf o = numText o.id 1 ++ flagTx o.flag ++ numText o.token 4 ++ numText o.nonce 4 := e1
  rw [e1] at hF3
  simp only [ByteArray.append_assoc] at hF2 hF3
  obtain ⟨b0, hF2⟩ := at_app 1 (a + 3) hF2 z0 (by omega)
  obtain ⟨c0, hF3⟩ := at_app 1 1 hF3 z0 (by omega)
  have r0 := (at_num b0 q0).1
  have t0 : tAt (fieldsOf o) 0 1 = numText o.id 1 := by rw [e3]; exact at_txt (by simpa only [ByteArray.append_assoc] using c0) z0
  obtain ⟨b1, hF2⟩ := at_app 1 (a + 4) hF2 z1 (by omega)
  obtain ⟨c1, hF3⟩ := at_app 1 2 hF3 z1 (by omega)
  have r1 := at_flag b1
  have t1 : tAt (fieldsOf o) 1 1 = flagTx o.flag := by rw [e3]; exact at_txt (by simpa only [ByteArray.append_assoc] using c1) z1
  obtain ⟨b2, hF2⟩ := at_app 4 (a + 8) hF2 z2 (by omega)
  obtain ⟨c2, hF3⟩ := at_app 4 6 hF3 z2 (by omega)
  have r2 := (at_num b2 q2).1
  have t2 : tAt (fieldsOf o) 2 4 = numText o.token 4 := by rw [e3]; exact at_txt (by simpa only [ByteArray.append_assoc] using c2) z2
  have b3 := hF2
  have c3 := hF3
  have r3 := (at_num b3 q3).1
  have t3 : tAt (fieldsOf o) 6 4 = numText o.nonce 4 := by rw [e3]; exact at_txt (by simpa only [ByteArray.append_assoc] using c3) z3
  refine ⟨by rw [hk]; exact a1, a2, a3, a4, hF4, ?_, ?_, ?_⟩
  · rw [rdo_2 s a a1]
    unfold rdo2
    rw [r0, r1, r2, r3]
    clear e1 e2 e3 h hF hF2 hF3 hF4 a1 a2 a3 a4 t0 b0 c0 r0 t1 b1 c1 r1 t2 b2 c2 r2 t3 b3 c3 r3 h1 h2 hs q0 q1 q2 q3 z0 z1 z2 z3
    obtain ⟨kind, id, addr, port, token, nonce, seq, sub, len, ack, flag, key, mark, ids⟩ := o
    simp only at hk h3
    cases flag <;> simp_all [Ov.zero]
  · rw [hk, shn_2, hF]
    simp only [offUp_succ, offUp_zero, wid_2_0, let_2_0, wid_2_1, let_2_1, wid_2_2, let_2_2, wid_2_3, let_2_3, wide_49, wide_52]
    decide
  · rw [hk]
    unfold candOf
    rw [if_neg (by decide), shn_2]
    simp only [candUp_succ, candUp_zero, offUp_succ, offUp_zero, wid_2_0, let_2_0, wid_2_1, let_2_1, wid_2_2, let_2_2, wid_2_3, let_2_3, wide_49, wide_52, Int.zero_add, Int.reduceAdd, t0, t1, t2, t3, numP_num _ _ q0, numP_flag, numP_num _ _ q2, numP_num _ _ q3]
    clear e1 e2 e3 h hF hF2 hF3 hF4 a1 a2 a3 a4 t0 b0 c0 r0 t1 b1 c1 r1 t2 b2 c2 r2 t3 b3 c3 r3 h1 h2 hs q0 q1 q2 q3 z0 z1 z2 z3
    obtain ⟨kind, id, addr, port, token, nonce, seq, sub, len, ack, flag, key, mark, ids⟩ := o
    simp only at hk h3
    cases flag <;> simp_all [Ov.zero, putL]

set_option linter.unusedSimpArgs false in
theorem back_3 (o : Ov) (hk : o.kind = 3) (hs : specOk o = true) (s : ByteArray) (a : Int) (h : At s a (optTx o)) : Back o s a := by
  obtain ⟨h1, h2⟩ := (ok_3 o hk).1 hs
  have h3 := (plain_3 o hk).1 h1
  have hp := (parts_3 o).1 h2
  rw [optTx_yes o hs, tx_3 o hk hs, hk] at h
  have e1 : fieldsOf o = rowOf [numText o.id 1, flagTx o.flag, ofSz o.mark 8, numText o.nonce 4] := by unfold fieldsOf; simp [hk]
  rw [rowOf_join _ ((rowOf_ne _ (List.cons_ne_nil _ _)).1 h2), join_four] at h e1
  obtain ⟨q0, q1, q2, q3⟩ := hp
  have z0 := num_wide _ _ q0
  have z1 := flag_wide o.flag
  rw [ofSz_self _ _ q2] at h e1
  have z3 := num_wide _ _ q3
  have hF : ((fieldsOf o).size : Int) = 14 := by rw [e1]; simp only [ByteArray.size_append]; omega
  rw [← e1] at h
  have hF3 := at_self (fieldsOf o)
  obtain ⟨a1, a2, a3, a4, hF2⟩ := at_head h (num1_ne _ (by decide)) (num1_ne _ (by omega))
  have hF4 := hF2
  rw [e1] at hF2
  have e2 := e1
  have e3 : fieldsOf o = numText o.id 1 ++ flagTx o.flag ++ o.mark ++ numText o.nonce 4 := e1
  rw [e1] at hF3
  simp only [ByteArray.append_assoc] at hF2 hF3
  obtain ⟨b0, hF2⟩ := at_app 1 (a + 3) hF2 z0 (by omega)
  obtain ⟨c0, hF3⟩ := at_app 1 1 hF3 z0 (by omega)
  have r0 := (at_num b0 q0).1
  have t0 : tAt (fieldsOf o) 0 1 = numText o.id 1 := by rw [e3]; exact at_txt (by simpa only [ByteArray.append_assoc] using c0) z0
  obtain ⟨b1, hF2⟩ := at_app 1 (a + 4) hF2 z1 (by omega)
  obtain ⟨c1, hF3⟩ := at_app 1 2 hF3 z1 (by omega)
  have r1 := at_flag b1
  have t1 : tAt (fieldsOf o) 1 1 = flagTx o.flag := by rw [e3]; exact at_txt (by simpa only [ByteArray.append_assoc] using c1) z1
  obtain ⟨b2, hF2⟩ := at_app 8 (a + 12) hF2 q2 (by omega)
  obtain ⟨c2, hF3⟩ := at_app 8 10 hF3 q2 (by omega)
  have r2 := at_txt b2 q2
  have t2 : tAt (fieldsOf o) 2 8 = o.mark := by rw [e3]; exact at_txt (by simpa only [ByteArray.append_assoc] using c2) q2
  have b3 := hF2
  have c3 := hF3
  have r3 := (at_num b3 q3).1
  have t3 : tAt (fieldsOf o) 10 4 = numText o.nonce 4 := by rw [e3]; exact at_txt (by simpa only [ByteArray.append_assoc] using c3) z3
  refine ⟨by rw [hk]; exact a1, a2, a3, a4, hF4, ?_, ?_, ?_⟩
  · rw [rdo_3 s a a1]
    unfold rdo3
    rw [r0, r1, r2, r3]
    clear e1 e2 e3 h hF hF2 hF3 hF4 a1 a2 a3 a4 t0 b0 c0 r0 t1 b1 c1 r1 t2 b2 c2 r2 t3 b3 c3 r3 h1 h2 hs q0 q1 q2 q3 z0 z1 z3
    obtain ⟨kind, id, addr, port, token, nonce, seq, sub, len, ack, flag, key, mark, ids⟩ := o
    simp only at hk h3
    cases flag <;> simp_all [Ov.zero]
  · rw [hk, shn_3, hF]
    simp only [offUp_succ, offUp_zero, wid_3_0, let_3_0, wid_3_1, let_3_1, wid_3_2, let_3_2, wid_3_3, let_3_3, wide_49, wide_52, wide_56]
    decide
  · rw [hk]
    unfold candOf
    rw [if_neg (by decide), shn_3]
    simp only [candUp_succ, candUp_zero, offUp_succ, offUp_zero, wid_3_0, let_3_0, wid_3_1, let_3_1, wid_3_2, let_3_2, wid_3_3, let_3_3, wide_49, wide_52, wide_56, Int.zero_add, Int.reduceAdd, t0, t1, t2, t3, numP_num _ _ q0, numP_flag, numP_num _ _ q3]
    clear e1 e2 e3 h hF hF2 hF3 hF4 a1 a2 a3 a4 t0 b0 c0 r0 t1 b1 c1 r1 t2 b2 c2 r2 t3 b3 c3 r3 h1 h2 hs q0 q1 q2 q3 z0 z1 z3
    obtain ⟨kind, id, addr, port, token, nonce, seq, sub, len, ack, flag, key, mark, ids⟩ := o
    simp only at hk h3
    cases flag <;> simp_all [Ov.zero, putL]

set_option linter.unusedSimpArgs false in
theorem back_4 (o : Ov) (hk : o.kind = 4) (hs : specOk o = true) (s : ByteArray) (a : Int) (h : At s a (optTx o)) : Back o s a := by
  obtain ⟨h1, h2⟩ := (ok_4 o hk).1 hs
  have h3 := (plain_4 o hk).1 h1
  have hp := (parts_4 o).1 h2
  rw [optTx_yes o hs, tx_4 o hk hs, hk] at h
  have e1 : fieldsOf o = ofSz o.mark 20 := by unfold fieldsOf; simp [hk]
  have q0 := hp
  rw [ofSz_self _ _ q0] at h e1
  have hF : ((fieldsOf o).size : Int) = 20 := by rw [e1]; omega
  rw [← e1] at h
  have hF3 := at_self (fieldsOf o)
  obtain ⟨a1, a2, a3, a4, hF2⟩ := at_head h (num1_ne _ (by decide)) (num1_ne _ (by omega))
  have hF4 := hF2
  rw [e1] at hF2
  have e2 := e1
  have e3 : fieldsOf o = o.mark := e1
  rw [e1] at hF3
  have b0 := hF2
  have c0 := hF3
  have r0 := at_txt b0 q0
  have t0 : tAt (fieldsOf o) 0 20 = o.mark := by rw [e3]; exact at_txt (by simpa only [ByteArray.append_assoc] using c0) q0
  refine ⟨by rw [hk]; exact a1, a2, a3, a4, hF4, ?_, ?_, ?_⟩
  · rw [rdo_4 s a a1]
    unfold rdo4
    rw [r0]
    clear e1 e2 e3 h hF hF2 hF3 hF4 a1 a2 a3 a4 t0 b0 c0 r0 h1 h2 hs q0 
    obtain ⟨kind, id, addr, port, token, nonce, seq, sub, len, ack, flag, key, mark, ids⟩ := o
    simp only at hk h3
    cases flag <;> simp_all [Ov.zero]
  · rw [hk, shn_4, hF]
    simp only [offUp_succ, offUp_zero, wid_4_0, let_4_0, wide_58]
    decide
  · rw [hk]
    unfold candOf
    rw [if_neg (by decide), shn_4]
    simp only [candUp_succ, candUp_zero, offUp_succ, offUp_zero, wid_4_0, let_4_0, wide_58, Int.zero_add, Int.reduceAdd, t0]
    clear e1 e2 e3 h hF hF2 hF3 hF4 a1 a2 a3 a4 t0 b0 c0 r0 h1 h2 hs q0 
    obtain ⟨kind, id, addr, port, token, nonce, seq, sub, len, ack, flag, key, mark, ids⟩ := o
    simp only at hk h3
    cases flag <;> simp_all [Ov.zero, putL]

set_option linter.unusedSimpArgs false in
theorem back_5 (o : Ov) (hk : o.kind = 5) (hs : specOk o = true) (s : ByteArray) (a : Int) (h : At s a (optTx o)) : Back o s a := by
  obtain ⟨h1, h2⟩ := (ok_5 o hk).1 hs
  have h3 := (plain_5 o hk).1 h1
  have hp := (parts_5 o).1 h2
  rw [optTx_yes o hs, tx_5 o hk hs, hk] at h
  have e1 : fieldsOf o = rowOf [numText o.ack 6, numText o.seq 6, numText o.sub 4, numText o.len 2] := by unfold fieldsOf; simp [hk]
  rw [rowOf_join _ ((rowOf_ne _ (List.cons_ne_nil _ _)).1 h2), join_four] at h e1
  obtain ⟨q0, q1, q2, q3⟩ := hp
  have z0 := num_wide _ _ q0
  have z1 := num_wide _ _ q1
  have z2 := num_wide _ _ q2
  have z3 := num_wide _ _ q3
  have hF : ((fieldsOf o).size : Int) = 18 := by rw [e1]; simp only [ByteArray.size_append]; omega
  rw [← e1] at h
  have hF3 := at_self (fieldsOf o)
  obtain ⟨a1, a2, a3, a4, hF2⟩ := at_head h (num1_ne _ (by decide)) (num1_ne _ (by omega))
  have hF4 := hF2
  rw [e1] at hF2
  have e2 := e1
  have e3 : fieldsOf o = numText o.ack 6 ++ numText o.seq 6 ++ numText o.sub 4 ++ numText o.len 2 := e1
  rw [e1] at hF3
  simp only [ByteArray.append_assoc] at hF2 hF3
  obtain ⟨b0, hF2⟩ := at_app 6 (a + 8) hF2 z0 (by omega)
  obtain ⟨c0, hF3⟩ := at_app 6 6 hF3 z0 (by omega)
  have r0 := (at_num b0 q0).1
  have t0 : tAt (fieldsOf o) 0 6 = numText o.ack 6 := by rw [e3]; exact at_txt (by simpa only [ByteArray.append_assoc] using c0) z0
  obtain ⟨b1, hF2⟩ := at_app 6 (a + 14) hF2 z1 (by omega)
  obtain ⟨c1, hF3⟩ := at_app 6 12 hF3 z1 (by omega)
  have r1 := (at_num b1 q1).1
  have t1 : tAt (fieldsOf o) 6 6 = numText o.seq 6 := by rw [e3]; exact at_txt (by simpa only [ByteArray.append_assoc] using c1) z1
  obtain ⟨b2, hF2⟩ := at_app 4 (a + 18) hF2 z2 (by omega)
  obtain ⟨c2, hF3⟩ := at_app 4 16 hF3 z2 (by omega)
  have r2 := (at_num b2 q2).1
  have t2 : tAt (fieldsOf o) 12 4 = numText o.sub 4 := by rw [e3]; exact at_txt (by simpa only [ByteArray.append_assoc] using c2) z2
  have b3 := hF2
  have c3 := hF3
  have r3 := (at_num b3 q3).1
  have t3 : tAt (fieldsOf o) 16 2 = numText o.len 2 := by rw [e3]; exact at_txt (by simpa only [ByteArray.append_assoc] using c3) z3
  refine ⟨by rw [hk]; exact a1, a2, a3, a4, hF4, ?_, ?_, ?_⟩
  · rw [rdo_5 s a a1]
    unfold rdo5
    rw [r0, r1, r2, r3]
    clear e1 e2 e3 h hF hF2 hF3 hF4 a1 a2 a3 a4 t0 b0 c0 r0 t1 b1 c1 r1 t2 b2 c2 r2 t3 b3 c3 r3 h1 h2 hs q0 q1 q2 q3 z0 z1 z2 z3
    obtain ⟨kind, id, addr, port, token, nonce, seq, sub, len, ack, flag, key, mark, ids⟩ := o
    simp only at hk h3
    cases flag <;> simp_all [Ov.zero]
  · rw [hk, shn_5, hF]
    simp only [offUp_succ, offUp_zero, wid_5_0, let_5_0, wid_5_1, let_5_1, wid_5_2, let_5_2, wid_5_3, let_5_3, wide_50, wide_52, wide_54]
    decide
  · rw [hk]
    unfold candOf
    rw [if_neg (by decide), shn_5]
    simp only [candUp_succ, candUp_zero, offUp_succ, offUp_zero, wid_5_0, let_5_0, wid_5_1, let_5_1, wid_5_2, let_5_2, wid_5_3, let_5_3, wide_50, wide_52, wide_54, Int.zero_add, Int.reduceAdd, t0, t1, t2, t3, numP_num _ _ q0, numP_num _ _ q1, numP_num _ _ q2, numP_num _ _ q3]
    clear e1 e2 e3 h hF hF2 hF3 hF4 a1 a2 a3 a4 t0 b0 c0 r0 t1 b1 c1 r1 t2 b2 c2 r2 t3 b3 c3 r3 h1 h2 hs q0 q1 q2 q3 z0 z1 z2 z3
    obtain ⟨kind, id, addr, port, token, nonce, seq, sub, len, ack, flag, key, mark, ids⟩ := o
    simp only at hk h3
    cases flag <;> simp_all [Ov.zero, putL]

set_option linter.unusedSimpArgs false in
theorem back_6 (o : Ov) (hk : o.kind = 6) (hs : specOk o = true) (s : ByteArray) (a : Int) (h : At s a (optTx o)) : Back o s a := by
  obtain ⟨h1, h2⟩ := (ok_6 o hk).1 hs
  have h3 := (plain_6 o hk).1 h1
  have hp := (parts_6 o).1 h2
  rw [optTx_yes o hs, tx_6 o hk hs, hk] at h
  have e1 : fieldsOf o = rowOf [numText o.id 1, numText o.addr 4, numText o.port 2, ofSz o.mark 8] := by unfold fieldsOf; simp [hk]
  rw [rowOf_join _ ((rowOf_ne _ (List.cons_ne_nil _ _)).1 h2), join_four] at h e1
  obtain ⟨q0, q1, q2, q3⟩ := hp
  have z0 := num_wide _ _ q0
  have z1 := num_wide _ _ q1
  have z2 := num_wide _ _ q2
  rw [ofSz_self _ _ q3] at h e1
  have hF : ((fieldsOf o).size : Int) = 15 := by rw [e1]; simp only [ByteArray.size_append]; omega
  rw [← e1] at h
  have hF3 := at_self (fieldsOf o)
  obtain ⟨a1, a2, a3, a4, hF2⟩ := at_head h (num1_ne _ (by decide)) (num1_ne _ (by omega))
  have hF4 := hF2
  rw [e1] at hF2
  have e2 := e1
  have e3 : fieldsOf o = numText o.id 1 ++ numText o.addr 4 ++ numText o.port 2 ++ o.mark := e1
  rw [e1] at hF3
  simp only [ByteArray.append_assoc] at hF2 hF3
  obtain ⟨b0, hF2⟩ := at_app 1 (a + 3) hF2 z0 (by omega)
  obtain ⟨c0, hF3⟩ := at_app 1 1 hF3 z0 (by omega)
  have r0 := (at_num b0 q0).1
  have t0 : tAt (fieldsOf o) 0 1 = numText o.id 1 := by rw [e3]; exact at_txt (by simpa only [ByteArray.append_assoc] using c0) z0
  obtain ⟨b1, hF2⟩ := at_app 4 (a + 7) hF2 z1 (by omega)
  obtain ⟨c1, hF3⟩ := at_app 4 5 hF3 z1 (by omega)
  have r1 := (at_num b1 q1).1
  have t1 : tAt (fieldsOf o) 1 4 = numText o.addr 4 := by rw [e3]; exact at_txt (by simpa only [ByteArray.append_assoc] using c1) z1
  obtain ⟨b2, hF2⟩ := at_app 2 (a + 9) hF2 z2 (by omega)
  obtain ⟨c2, hF3⟩ := at_app 2 7 hF3 z2 (by omega)
  have r2 := (at_num b2 q2).1
  have t2 : tAt (fieldsOf o) 5 2 = numText o.port 2 := by rw [e3]; exact at_txt (by simpa only [ByteArray.append_assoc] using c2) z2
  have b3 := hF2
  have c3 := hF3
  have r3 := at_txt b3 q3
  have t3 : tAt (fieldsOf o) 7 8 = o.mark := by rw [e3]; exact at_txt (by simpa only [ByteArray.append_assoc] using c3) q3
  refine ⟨by rw [hk]; exact a1, a2, a3, a4, hF4, ?_, ?_, ?_⟩
  · rw [rdo_6 s a a1]
    unfold rdo6
    rw [r0, r1, r2, r3]
    clear e1 e2 e3 h hF hF2 hF3 hF4 a1 a2 a3 a4 t0 b0 c0 r0 t1 b1 c1 r1 t2 b2 c2 r2 t3 b3 c3 r3 h1 h2 hs q0 q1 q2 q3 z0 z1 z2
    obtain ⟨kind, id, addr, port, token, nonce, seq, sub, len, ack, flag, key, mark, ids⟩ := o
    simp only at hk h3
    cases flag <;> simp_all [Ov.zero]
  · rw [hk, shn_6, hF]
    simp only [offUp_succ, offUp_zero, wid_6_0, let_6_0, wid_6_1, let_6_1, wid_6_2, let_6_2, wid_6_3, let_6_3, wide_49, wide_50, wide_52, wide_56]
    decide
  · rw [hk]
    unfold candOf
    rw [if_neg (by decide), shn_6]
    simp only [candUp_succ, candUp_zero, offUp_succ, offUp_zero, wid_6_0, let_6_0, wid_6_1, let_6_1, wid_6_2, let_6_2, wid_6_3, let_6_3, wide_49, wide_50, wide_52, wide_56, Int.zero_add, Int.reduceAdd, t0, t1, t2, t3, numP_num _ _ q0, numP_num _ _ q1, numP_num _ _ q2]
    clear e1 e2 e3 h hF hF2 hF3 hF4 a1 a2 a3 a4 t0 b0 c0 r0 t1 b1 c1 r1 t2 b2 c2 r2 t3 b3 c3 r3 h1 h2 hs q0 q1 q2 q3 z0 z1 z2
    obtain ⟨kind, id, addr, port, token, nonce, seq, sub, len, ack, flag, key, mark, ids⟩ := o
    simp only at hk h3
    cases flag <;> simp_all [Ov.zero, putL]

set_option linter.unusedSimpArgs false in
theorem back_7 (o : Ov) (hk : o.kind = 7) (hs : specOk o = true) (s : ByteArray) (a : Int) (h : At s a (optTx o)) : Back o s a := by
  obtain ⟨h1, h2⟩ := (ok_7 o hk).1 hs
  have h3 := (plain_7 o hk).1 h1
  have hp := (parts_7 o).1 h2
  rw [optTx_yes o hs, tx_7 o hk hs, hk] at h
  have e1 : fieldsOf o = rowOf [numText o.id 1, numText o.addr 4, numText o.port 2] := by unfold fieldsOf; simp [hk]
  rw [rowOf_join _ ((rowOf_ne _ (List.cons_ne_nil _ _)).1 h2), join_three] at h e1
  obtain ⟨q0, q1, q2⟩ := hp
  have z0 := num_wide _ _ q0
  have z1 := num_wide _ _ q1
  have z2 := num_wide _ _ q2
  have hF : ((fieldsOf o).size : Int) = 7 := by rw [e1]; simp only [ByteArray.size_append]; omega
  rw [← e1] at h
  have hF3 := at_self (fieldsOf o)
  obtain ⟨a1, a2, a3, a4, hF2⟩ := at_head h (num1_ne _ (by decide)) (num1_ne _ (by omega))
  have hF4 := hF2
  rw [e1] at hF2
  have e2 := e1
  have e3 : fieldsOf o = numText o.id 1 ++ numText o.addr 4 ++ numText o.port 2 := e1
  rw [e1] at hF3
  simp only [ByteArray.append_assoc] at hF2 hF3
  obtain ⟨b0, hF2⟩ := at_app 1 (a + 3) hF2 z0 (by omega)
  obtain ⟨c0, hF3⟩ := at_app 1 1 hF3 z0 (by omega)
  have r0 := (at_num b0 q0).1
  have t0 : tAt (fieldsOf o) 0 1 = numText o.id 1 := by rw [e3]; exact at_txt (by simpa only [ByteArray.append_assoc] using c0) z0
  obtain ⟨b1, hF2⟩ := at_app 4 (a + 7) hF2 z1 (by omega)
  obtain ⟨c1, hF3⟩ := at_app 4 5 hF3 z1 (by omega)
  have r1 := (at_num b1 q1).1
  have t1 : tAt (fieldsOf o) 1 4 = numText o.addr 4 := by rw [e3]; exact at_txt (by simpa only [ByteArray.append_assoc] using c1) z1
  have b2 := hF2
  have c2 := hF3
  have r2 := (at_num b2 q2).1
  have t2 : tAt (fieldsOf o) 5 2 = numText o.port 2 := by rw [e3]; exact at_txt (by simpa only [ByteArray.append_assoc] using c2) z2
  refine ⟨by rw [hk]; exact a1, a2, a3, a4, hF4, ?_, ?_, ?_⟩
  · rw [rdo_7 s a a1]
    unfold rdo7
    rw [r0, r1, r2]
    clear e1 e2 e3 h hF hF2 hF3 hF4 a1 a2 a3 a4 t0 b0 c0 r0 t1 b1 c1 r1 t2 b2 c2 r2 h1 h2 hs q0 q1 q2 z0 z1 z2
    obtain ⟨kind, id, addr, port, token, nonce, seq, sub, len, ack, flag, key, mark, ids⟩ := o
    simp only at hk h3
    cases flag <;> simp_all [Ov.zero]
  · rw [hk, shn_7, hF]
    simp only [offUp_succ, offUp_zero, wid_7_0, let_7_0, wid_7_1, let_7_1, wid_7_2, let_7_2, wide_49, wide_50, wide_52]
    decide
  · rw [hk]
    unfold candOf
    rw [if_neg (by decide), shn_7]
    simp only [candUp_succ, candUp_zero, offUp_succ, offUp_zero, wid_7_0, let_7_0, wid_7_1, let_7_1, wid_7_2, let_7_2, wide_49, wide_50, wide_52, Int.zero_add, Int.reduceAdd, t0, t1, t2, numP_num _ _ q0, numP_num _ _ q1, numP_num _ _ q2]
    clear e1 e2 e3 h hF hF2 hF3 hF4 a1 a2 a3 a4 t0 b0 c0 r0 t1 b1 c1 r1 t2 b2 c2 r2 h1 h2 hs q0 q1 q2 z0 z1 z2
    obtain ⟨kind, id, addr, port, token, nonce, seq, sub, len, ack, flag, key, mark, ids⟩ := o
    simp only at hk h3
    cases flag <;> simp_all [Ov.zero, putL]

set_option linter.unusedSimpArgs false in
theorem back_9 (o : Ov) (hk : o.kind = 9) (hs : specOk o = true) (s : ByteArray) (a : Int) (h : At s a (optTx o)) : Back o s a := by
  obtain ⟨h1, h2⟩ := (ok_9 o hk).1 hs
  have h3 := (plain_9 o hk).1 h1
  have hp := (parts_9 o).1 h2
  rw [optTx_yes o hs, tx_9 o hk hs, hk] at h
  have e1 : fieldsOf o = numText o.seq 6 := by unfold fieldsOf; simp [hk]
  have q0 := hp
  have z0 := num_wide _ _ q0
  have hF : ((fieldsOf o).size : Int) = 6 := by rw [e1]; omega
  rw [← e1] at h
  have hF3 := at_self (fieldsOf o)
  obtain ⟨a1, a2, a3, a4, hF2⟩ := at_head h (num1_ne _ (by decide)) (num1_ne _ (by omega))
  have hF4 := hF2
  rw [e1] at hF2
  have e2 := e1
  have e3 : fieldsOf o = numText o.seq 6 := e1
  rw [e1] at hF3
  have b0 := hF2
  have c0 := hF3
  have r0 := (at_num b0 q0).1
  have t0 : tAt (fieldsOf o) 0 6 = numText o.seq 6 := by rw [e3]; exact at_txt (by simpa only [ByteArray.append_assoc] using c0) z0
  refine ⟨by rw [hk]; exact a1, a2, a3, a4, hF4, ?_, ?_, ?_⟩
  · rw [rdo_9 s a a1]
    unfold rdo9
    rw [r0]
    clear e1 e2 e3 h hF hF2 hF3 hF4 a1 a2 a3 a4 t0 b0 c0 r0 h1 h2 hs q0 z0
    obtain ⟨kind, id, addr, port, token, nonce, seq, sub, len, ack, flag, key, mark, ids⟩ := o
    simp only at hk h3
    cases flag <;> simp_all [Ov.zero]
  · rw [hk, shn_9, hF]
    simp only [offUp_succ, offUp_zero, wid_9_0, let_9_0, wide_54]
    decide
  · rw [hk]
    unfold candOf
    rw [if_neg (by decide), shn_9]
    simp only [candUp_succ, candUp_zero, offUp_succ, offUp_zero, wid_9_0, let_9_0, wide_54, Int.zero_add, Int.reduceAdd, t0, numP_num _ _ q0]
    clear e1 e2 e3 h hF hF2 hF3 hF4 a1 a2 a3 a4 t0 b0 c0 r0 h1 h2 hs q0 z0
    obtain ⟨kind, id, addr, port, token, nonce, seq, sub, len, ack, flag, key, mark, ids⟩ := o
    simp only at hk h3
    cases flag <;> simp_all [Ov.zero, putL]

set_option linter.unusedSimpArgs false in
theorem back_10 (o : Ov) (hk : o.kind = 10) (hs : specOk o = true) (s : ByteArray) (a : Int) (h : At s a (optTx o)) : Back o s a := by
  obtain ⟨h1, h2⟩ := (ok_10 o hk).1 hs
  have h3 := (plain_10 o hk).1 h1
  have hp := (parts_10 o).1 h2
  rw [optTx_yes o hs, tx_10 o hk hs, hk] at h
  have e1 : fieldsOf o = ofSz o.key 8 := by unfold fieldsOf; simp [hk]
  have q0 := hp
  rw [ofSz_self _ _ q0] at h e1
  have hF : ((fieldsOf o).size : Int) = 8 := by rw [e1]; omega
  rw [← e1] at h
  have hF3 := at_self (fieldsOf o)
  obtain ⟨a1, a2, a3, a4, hF2⟩ := at_head h (num1_ne _ (by decide)) (num1_ne _ (by omega))
  have hF4 := hF2
  rw [e1] at hF2
  have e2 := e1
  have e3 : fieldsOf o = o.key := e1
  rw [e1] at hF3
  have b0 := hF2
  have c0 := hF3
  have r0 := at_txt b0 q0
  have t0 : tAt (fieldsOf o) 0 8 = o.key := by rw [e3]; exact at_txt (by simpa only [ByteArray.append_assoc] using c0) q0
  refine ⟨by rw [hk]; exact a1, a2, a3, a4, hF4, ?_, ?_, ?_⟩
  · rw [rdo_10 s a a1]
    unfold rdo10
    rw [r0]
    clear e1 e2 e3 h hF hF2 hF3 hF4 a1 a2 a3 a4 t0 b0 c0 r0 h1 h2 hs q0 
    obtain ⟨kind, id, addr, port, token, nonce, seq, sub, len, ack, flag, key, mark, ids⟩ := o
    simp only at hk h3
    cases flag <;> simp_all [Ov.zero]
  · rw [hk, shn_10, hF]
    simp only [offUp_succ, offUp_zero, wid_10_0, let_10_0, wide_56]
    decide
  · rw [hk]
    unfold candOf
    rw [if_neg (by decide), shn_10]
    simp only [candUp_succ, candUp_zero, offUp_succ, offUp_zero, wid_10_0, let_10_0, wide_56, Int.zero_add, Int.reduceAdd, t0]
    clear e1 e2 e3 h hF hF2 hF3 hF4 a1 a2 a3 a4 t0 b0 c0 r0 h1 h2 hs q0 
    obtain ⟨kind, id, addr, port, token, nonce, seq, sub, len, ack, flag, key, mark, ids⟩ := o
    simp only at hk h3
    cases flag <;> simp_all [Ov.zero, putL]

theorem num1_bytes (z : Int) (h : 0 ≤ z ∧ z ≤ 255) : bytesOf (numText z 1) = [z] := by
  obtain ⟨N, rfl⟩ : ∃ N : Nat, z = N := ⟨z.toNat, by omega⟩
  have h2 := numText_yes N 1 (by omega) (by omega) (by omega)
  rw [show ((1 : Nat) : Int) = (1 : Int) from rfl] at h2
  rw [h2]
  unfold bytesOf numBytes
  simp [List.range_succ]
  omega
theorem bytesOf_app (x y : ByteArray) : bytesOf (x ++ y) = bytesOf x ++ bytesOf y := by unfold bytesOf; simp [ByteArray.data_append]
theorem joinOf_cons (x : ByteArray) (r : List ByteArray) : joinOf (x :: r) = x ++ joinOf r := by
  apply ByteArray.ext
  apply Array.toList_inj.1
  simp [joinOf]
theorem idsAt_succ (s : ByteArray) (a : Int) (n : Nat) : idsAt s a (n + 1) = nAt s a 1 :: idsAt s (a + 1) n := by
  unfold idsAt
  rw [List.range_succ_eq_map, List.map_cons, List.map_map]
  congr 1
  · simp
  · apply List.map_congr_left
    intro j hj
    show nAt s (a + ((j + 1 : Nat) : Int)) 1 = _
    rw [show a + ((j + 1 : Nat) : Int) = a + 1 + (j : Int) by omega]
theorem ids_back (zs : List Int) (h : ∀ x ∈ zs.map (fun z => numText z 1), ¬ x = ⟨#[]⟩) (s : ByteArray) (a : Int) (hA : At s a (joinOf (zs.map fun z => numText z 1))) :
    idsAt s a zs.length = zs ∧ bytesOf (joinOf (zs.map fun z => numText z 1)) = zs ∧ (joinOf (zs.map fun z => numText z 1)).size = zs.length := by
  induction zs generalizing a with
  | nil => exact ⟨rfl, rfl, rfl⟩
  | cons z r ih =>
    rw [List.map_cons, joinOf_cons] at hA ⊢
    have hz := h (numText z 1) (by simp)
    obtain ⟨h1, h2⟩ := at_app 1 (a + 1) hA (num_wide _ _ hz) rfl
    obtain ⟨i1, i2, i3⟩ := ih (fun x hx => h x (by simp [List.map_cons]; right; simpa using hx)) (a + 1) h2
    have hr : 0 ≤ z ∧ z ≤ 255 := by
      have := (num_ne _ _).1 hz
      have e : (256 : Int) ^ (1 : Int).toNat = 256 := by decide
      omega
    refine ⟨?_, ?_, ?_⟩
    · rw [List.length_cons, idsAt_succ, i1, (at_num h1 hz).1]
    · rw [bytesOf_app, i2, num1_bytes z hr]; rfl
    · have := num_wide _ _ hz
      rw [ByteArray.size_append, i3, List.length_cons]
      omega

theorem back_8 (o : Ov) (hk : o.kind = 8) (hs : specOk o = true) (s : ByteArray) (a : Int) (h : At s a (optTx o)) : Back o s a := by
  obtain ⟨h1, h2⟩ := (ok_8 o hk).1 hs
  have h3 := (plain_8 o hk).1 h1
  obtain ⟨hl, hu⟩ := (gone_ne _).1 h2
  obtain ⟨ha, hp⟩ := (ids_iff _).1 hu
  rw [optTx_yes o hs, tx_8 o hk hs, hk] at h
  have e1 : fieldsOf o = goneTx o.ids := by unfold fieldsOf; simp [hk]
  have e2 : goneTx o.ids = joinOf (o.ids.map fun z => numText z 1) := by
    unfold goneTx
    rw [if_pos ⟨hl.1, hl.2, ha⟩, rowOf_join _ hp]
  rw [e2] at h e1
  have hF := (ids_back o.ids hp _ 0 (at_self _)).2
  rw [← e1] at h hF
  obtain ⟨a1, a2, a3, a4, hF2⟩ := at_head h (num1_ne _ (by decide)) (num1_ne _ (by omega))
  have hF4 := hF2
  rw [e1] at hF2
  have hi := (ids_back o.ids hp _ _ hF2).1
  refine ⟨by rw [hk]; exact a1, a2, a3, a4, hF4, ?_, ?_, ?_⟩
  · rw [rdo_8 s a a1]
    unfold rdo8
    rw [a3, hF.2, Int.toNat_natCast, hi]
    clear e1 e2 h hF hF2 hF4 a1 a2 a3 a4 h1 h2 hs hl hu ha hp hi
    obtain ⟨kind, id, addr, port, token, nonce, seq, sub, len, ack, flag, key, mark, ids⟩ := o
    simp only at hk h3
    simp_all [Ov.zero]
  · rw [hk, shn_8, offUp_zero]
    omega
  · rw [hk]
    unfold candOf
    rw [if_pos rfl, shn_8, candUp_zero, hF.1]
    clear e1 e2 h hF hF2 hF4 a1 a2 a3 a4 h1 h2 hs hl hu ha hp hi
    obtain ⟨kind, id, addr, port, token, nonce, seq, sub, len, ack, flag, key, mark, ids⟩ := o
    simp only at hk h3
    simp_all [Ov.zero]

theorem back_all (o : Ov) (hs : specOk o = true) (s : ByteArray) (a : Int) (h : At s a (optTx o)) : Back o s a := by
  rcases kind_ten _ (specOk_kind o hs) with hk | hk | hk | hk | hk | hk | hk | hk | hk | hk
  · exact back_1 o hk hs s a h
  · exact back_2 o hk hs s a h
  · exact back_3 o hk hs s a h
  · exact back_4 o hk hs s a h
  · exact back_5 o hk hs s a h
  · exact back_6 o hk hs s a h
  · exact back_7 o hk hs s a h
  · exact back_8 o hk hs s a h
  · exact back_9 o hk hs s a h
  · exact back_10 o hk hs s a h

/-- What the model reads. -/
def sroC (s : ByteArray) (a : Int) : Ov := candOf (nAt s a 1) (tAt s (a + 2) (nAt s (a + 1) 1))
structure Sro (s : ByteArray) (a : Int) : Prop where
  pk : Part s a 1
  pc : Part s (a + 1) 1
  k : 1 ≤ nAt s a 1 ∧ nAt s a 1 ≤ 10
  pt : Part s (a + 2) (nAt s (a + 1) 1)
  off : offUp (shapeOf (nAt s a 1)) (shN (nAt s a 1)) ≤ ((tAt s (a + 2) (nAt s (a + 1) 1)).size : Int)
  ne : ¬ optTx (sroC s a) = ⟨#[]⟩
  eq : optTx (sroC s a) = s.extract a.toNat (a + 2 + nAt s (a + 1) 1).toNat

theorem specOk_ne (o : Ov) : specOk o = true ↔ ¬ optTx o = ⟨#[]⟩ := by
  rw [specOk_eq]
  simp

theorem readOk_iff (s : ByteArray) (a : Int) : readOk s a = true ↔ ¬ optTx (rdo s a) = ⟨#[]⟩ ∧ At s a (optTx (rdo s a)) := by
  unfold readOk At Part
  rw [decide_eq_true_eq]
  constructor
  · rintro ⟨h1, h2, h3⟩
    exact ⟨h1, ⟨h2.1, by omega, h2.2⟩, h3⟩
  · rintro ⟨h1, h2, h3⟩
    exact ⟨h1, ⟨h2.1, h2.2.2⟩, h3⟩

theorem sro_read (s : ByteArray) (a : Int) (h : Sro s a) : readOk s a = true ∧ sroC s a = rdo s a ∧ a + 2 + nAt s (a + 1) 1 = a + ((optTx (rdo s a)).size : Int) := by
  have hs := (specOk_ne _).2 h.ne
  have hp : Part s a (2 + nAt s (a + 1) 1) := by
    have h1 := h.pk
    have h2 := h.pt
    unfold Part at h1 h2 ⊢
    omega
  have hA := at_of s a _ hp
  have hz := part_size s a _ hp
  rw [show a + (2 + nAt s (a + 1) 1) = a + 2 + nAt s (a + 1) 1 by omega, ← h.eq] at hA hz
  have b := back_all _ hs s a hA
  have e := b.rd
  refine ⟨(readOk_iff s a).2 ⟨by rw [e]; exact h.ne, by rw [e]; exact hA⟩, e.symm, ?_⟩
  rw [e, hz]
  have := hp.2.1
  omega

theorem read_sro (s : ByteArray) (a : Int) (h : readOk s a = true) : Sro s a := by
  obtain ⟨h1, h2⟩ := (readOk_iff s a).1 h
  have hs := (specOk_ne _).2 h1
  have b := back_all _ hs s a h2
  have hk := specOk_kind _ hs
  have ht : tAt s (a + 2) (nAt s (a + 1) 1) = fieldsOf (rdo s a) := at_txt b.f b.c.symm
  have hC : sroC s a = rdo s a := by
    unfold sroC
    rw [ht, b.k]
    exact b.cand
  refine ⟨b.pk, b.pc, by rw [b.k]; exact hk, by rw [b.c]; exact b.f.1, by rw [ht, b.k]; exact b.off, by rw [hC]; exact h1, ?_⟩
  rw [hC, b.c]
  have hz : ((optTx (rdo s a)).size : Int) = 2 + ((fieldsOf (rdo s a)).size : Int) := by
    have hc : ((fieldsOf (rdo s a)).size : Int) ≤ 255 := by
      obtain ⟨n, hn, en⟩ := nAt_byte s (a + 1)
      rw [← b.c, en]
      omega
    rw [optTx_yes _ hs, tx_all _ hk hs]
    simp only [ByteArray.size_append]
    have z1 := num_wide _ _ (num1_ne (rdo s a).kind (by omega))
    have z2 := num_wide _ _ (num1_ne ((fieldsOf (rdo s a)).size : Int) (by omega))
    omega
  have := h2.2
  rw [show a + 2 + ((fieldsOf (rdo s a)).size : Int) = a + ((optTx (rdo s a)).size : Int) by omega]
  exact this.symm
end Go.Proofs.Ytkpajakangaekab
