import Derived.Test.YtkpajakangaekabOty
import Derived.Test.YtkpajakangaekabSot
namespace Go.Proofs.Ytkpajakangaekab
open Go.RowKit

theorem ba_nil (x : ByteArray) : x = ⟨#[]⟩ ↔ x.size = 0 := by
  constructor
  · rintro rfl; rfl
  · intro h
    apply ByteArray.ext
    exact Array.eq_empty_of_size_eq_zero h

theorem rowOf_ne (xs : List ByteArray) (h0 : xs ≠ []) : (¬ rowOf xs = ⟨#[]⟩) ↔ ∀ x ∈ xs, ¬ x = ⟨#[]⟩ := by
  unfold rowOf
  by_cases hm : placeOf xs ⟨#[]⟩ < xs.length
  · rw [if_pos hm]
    have mem := (placeOf_mem xs ⟨#[]⟩).1 hm
    exact ⟨fun h => absurd rfl h, fun h => absurd rfl (h _ mem)⟩
  · rw [if_neg hm]
    refine ⟨fun _ x hx he => hm ((placeOf_mem xs ⟨#[]⟩).2 (he ▸ hx)), fun h hj => ?_⟩
    match xs, h0 with
    | x :: r, _ =>
      have h1 := (ba_nil _).1 hj
      rw [joinOf_size] at h1
      simp only [List.map_cons, List.sum_cons] at h1
      exact h x (by simp) ((ba_nil x).2 (by omega))

theorem rowOf_join (xs : List ByteArray) (h : ∀ x ∈ xs, ¬ x = ⟨#[]⟩) : rowOf xs = joinOf xs := by
  unfold rowOf
  rw [if_neg (fun hm => h _ ((placeOf_mem xs ⟨#[]⟩).1 hm) rfl)]

theorem ofSz_ne (t : ByteArray) (n : Int) (h : 0 < n) : (¬ ofSz t n = ⟨#[]⟩) ↔ (t.size : Int) = n := by
  unfold ofSz
  by_cases ht : (t.size : Int) = n
  · rw [if_pos ht, ba_nil]
    exact ⟨fun _ => ht, fun _ => by omega⟩
  · rw [if_neg ht]
    exact ⟨fun h => absurd rfl h, fun h => absurd h ht⟩
theorem ofSz_self (t : ByteArray) (n : Int) (h : (t.size : Int) = n) : ofSz t n = t := by unfold ofSz; rw [if_pos h]

theorem num_ne (n m : Int) : (¬ numText n m = ⟨#[]⟩) ↔ (1 ≤ m ∧ m ≤ 6 ∧ 0 ≤ n ∧ n < 256 ^ m.toNat) := by
  unfold numText
  by_cases h : 1 ≤ m ∧ m ≤ 6 ∧ 0 ≤ n ∧ n < 256 ^ m.toNat
  · rw [if_pos h]
    refine ⟨fun _ => h, fun _ he => ?_⟩
    have h2 := (ba_nil _).1 he
    have h3 : (numBytes n.toNat m.toNat).toArray.size = 0 := h2
    rw [List.size_toArray, numBytes_length] at h3
    omega
  · rw [if_neg h]
    exact ⟨fun h => absurd rfl h, fun h2 => absurd h2 h⟩

theorem flag_ne (b : Bool) : ¬ flagTx b = ⟨#[]⟩ := by
  unfold flagTx
  rw [num_ne]
  cases b <;> decide

theorem app_nil (a : ByteArray) : (⟨#[]⟩ : ByteArray) ++ a = a := by
  apply ByteArray.ext
  simp [ByteArray.data_append]

theorem join_four (a b c d : ByteArray) : joinOf [a, b, c, d] = a ++ b ++ c ++ d := by
  apply ByteArray.ext
  apply Array.toList_inj.1
  simp [joinOf]
theorem join_three (a b c : ByteArray) : joinOf [a, b, c] = a ++ b ++ c := by
  apply ByteArray.ext
  apply Array.toList_inj.1
  simp [joinOf]

theorem idUp_nil (zs : List Int) (h : zs = []) : idUp zs zs.length = true := by rw [h]; exact idUp_zero []
theorem sUp_nil (zs : List Int) (s : ByteArray) (h : zs = []) : sUp zs s zs.length = s := by rw [h]; exact sUp_zero [] s


theorem has_1 : hasUp (shapeOf 1) 1 = [false, false, false, false, false, false, false, false, false, false, true, false] := by decide +kernel
theorem shn_1 : shN 1 = 1 := by decide +kernel

theorem let_1_0 : letOf (shapeOf 1) 0 = 107 := by decide +kernel
theorem wid_1_0 : widOf (shapeOf 1) 0 = 56 := by decide +kernel
theorem oka_1_0 (o : Ov) : okAt o 107 56 = decide ((o.key.size : Int) = 8) := by simp [okAt, numL, textL, wideOf]
theorem txa_1_0 (o : Ov) : txtAt o 107 56 = o.key := by simp [txtAt, numL, textL]

set_option linter.unusedSimpArgs false in
theorem okup_1 (o : Ov) : okUp o (shapeOf 1) 1 = true ↔ (o.key.size : Int) = 8 := by
  simp only [okUp_eq, okUp_zero, let_1_0, wid_1_0, oka_1_0, Bool.true_and, Bool.and_eq_true, decide_eq_true_eq, Bool.not_eq_true', decide_eq_false_iff_not, and_assoc]

theorem rest_1 (o : Ov) (hk : o.kind = 1) : restB o [false, false, false, false, false, false, false, false, false, false, true, false] = false ↔ o.id = 0 ∧ o.flag = false ∧ o.token = 0 ∧ o.nonce = 0 ∧ o.ack = 0 ∧ o.seq = 0 ∧ o.sub = 0 ∧ o.len = 0 ∧ o.addr = 0 ∧ o.port = 0 ∧ o.mark = ⟨#[]⟩ ∧ o.ids = [] := by
  simp [restB, hk, and_assoc]

set_option linter.unusedSimpArgs false in
theorem plain_1 (o : Ov) (hk : o.kind = 1) : sameOv (plain1 o) o = true ↔ o.id = 0 ∧ o.flag = false ∧ o.token = 0 ∧ o.nonce = 0 ∧ o.ack = 0 ∧ o.seq = 0 ∧ o.sub = 0 ∧ o.len = 0 ∧ o.addr = 0 ∧ o.port = 0 ∧ o.mark = ⟨#[]⟩ ∧ o.ids = [] := by
  rw [sameOv_iff]
  obtain ⟨kind, id, addr, port, token, nonce, seq, sub, len, ack, flag, key, mark, ids⟩ := o
  simp only at hk
  subst hk
  simp only [plain1, Ov.zero, Ov.mk.injEq, true_and, and_true]
  constructor
  · rintro ⟨h0, h1, h2, h3, h4, h5, h6, h7, h8, h9, h10, h11⟩
    simp_all
  · rintro ⟨h0, h1, h2, h3, h4, h5, h6, h7, h8, h9, h10, h11⟩
    simp_all

set_option linter.unusedSimpArgs false in
theorem parts_1 (o : Ov) : (¬ ofSz o.key 8 = ⟨#[]⟩) ↔ (o.key.size : Int) = 8 := by
  exact ofSz_ne _ _ (by decide)

set_option linter.unusedSimpArgs false in
theorem ok_1 (o : Ov) (hk : o.kind = 1) : specOk o = true ↔ (sameOv (plain1 o) o = true ∧ ¬ ofSz o.key 8 = ⟨#[]⟩) := by
  have h0 : (1 : Int) ≤ 1 ∧ (1 : Int) ≤ 10 := by decide
  have hr := rest_1 o hk
  have hd : decide ((1 : Int) = 8) = false := by decide
  rw [plain_1 o hk, parts_1, ← hr, ← okup_1]
  unfold specOk
  rw [hk, shn_1, has_1, decide_eq_true h0, hd]
  simp only [Bool.true_and, Bool.false_and, Bool.or_false, Bool.and_eq_true, Bool.not_eq_true']
  constructor
  · rintro ⟨⟨h1, h2⟩, h3⟩
    exact ⟨h1, h2⟩
  · rintro ⟨h1, h2⟩
    exact ⟨⟨h1, h2⟩, idUp_nil _ (by simp_all)⟩

theorem tx_1 (o : Ov) (hk : o.kind = 1) (h : specOk o = true) : specS o = ofSz o.key 8 := by
  obtain ⟨h1, h2⟩ := (ok_1 o hk).1 h
  have h3 := (plain_1 o hk).1 h1
  have hp := (parts_1 o).1 h2
  have hi : o.ids = [] := by simp_all
  unfold specS
  rw [hk, shn_1, sUp_nil _ _ hi]
  simp only [txtUp_succ, txtUp_zero, let_1_0, wid_1_0, txa_1_0, app_nil]
  rw [ofSz_self _ _ (by simp_all)]


theorem has_2 : hasUp (shapeOf 2) 4 = [true, true, true, true, false, false, false, false, false, false, false, false] := by decide +kernel
theorem shn_2 : shN 2 = 4 := by decide +kernel

theorem let_2_0 : letOf (shapeOf 2) 0 = 105 := by decide +kernel
theorem wid_2_0 : widOf (shapeOf 2) 0 = 49 := by decide +kernel
theorem oka_2_0 (o : Ov) : okAt o 105 49 = !decide (numText o.id 1 = ⟨#[]⟩) := by simp [okAt, numL, wideOf]
theorem txa_2_0 (o : Ov) : txtAt o 105 49 = numText o.id 1 := by simp [txtAt, numL, wideOf]
theorem let_2_1 : letOf (shapeOf 2) 1 = 102 := by decide +kernel
theorem wid_2_1 : widOf (shapeOf 2) 1 = 49 := by decide +kernel
theorem oka_2_1 (o : Ov) : okAt o 102 49 = !decide (flagTx o.flag = ⟨#[]⟩) := by simp [okAt, numL, wideOf, flagTx]; congr
theorem txa_2_1 (o : Ov) : txtAt o 102 49 = flagTx o.flag := by simp [txtAt, numL, wideOf, flagTx]
theorem let_2_2 : letOf (shapeOf 2) 2 = 116 := by decide +kernel
theorem wid_2_2 : widOf (shapeOf 2) 2 = 52 := by decide +kernel
theorem oka_2_2 (o : Ov) : okAt o 116 52 = !decide (numText o.token 4 = ⟨#[]⟩) := by simp [okAt, numL, wideOf]
theorem txa_2_2 (o : Ov) : txtAt o 116 52 = numText o.token 4 := by simp [txtAt, numL, wideOf]
theorem let_2_3 : letOf (shapeOf 2) 3 = 110 := by decide +kernel
theorem wid_2_3 : widOf (shapeOf 2) 3 = 52 := by decide +kernel
theorem oka_2_3 (o : Ov) : okAt o 110 52 = !decide (numText o.nonce 4 = ⟨#[]⟩) := by simp [okAt, numL, wideOf]
theorem txa_2_3 (o : Ov) : txtAt o 110 52 = numText o.nonce 4 := by simp [txtAt, numL, wideOf]

set_option linter.unusedSimpArgs false in
theorem okup_2 (o : Ov) : okUp o (shapeOf 2) 4 = true ↔ ¬ numText o.id 1 = ⟨#[]⟩ ∧ ¬ flagTx o.flag = ⟨#[]⟩ ∧ ¬ numText o.token 4 = ⟨#[]⟩ ∧ ¬ numText o.nonce 4 = ⟨#[]⟩ := by
  simp only [okUp_eq, okUp_zero, let_2_0, wid_2_0, oka_2_0, let_2_1, wid_2_1, oka_2_1, let_2_2, wid_2_2, oka_2_2, let_2_3, wid_2_3, oka_2_3, Bool.true_and, Bool.and_eq_true, decide_eq_true_eq, Bool.not_eq_true', decide_eq_false_iff_not, and_assoc]

theorem rest_2 (o : Ov) (hk : o.kind = 2) : restB o [true, true, true, true, false, false, false, false, false, false, false, false] = false ↔ o.ack = 0 ∧ o.seq = 0 ∧ o.sub = 0 ∧ o.len = 0 ∧ o.addr = 0 ∧ o.port = 0 ∧ o.key = ⟨#[]⟩ ∧ o.mark = ⟨#[]⟩ ∧ o.ids = [] := by
  simp [restB, hk, and_assoc]

set_option linter.unusedSimpArgs false in
theorem plain_2 (o : Ov) (hk : o.kind = 2) : sameOv (plain2 o) o = true ↔ o.ack = 0 ∧ o.seq = 0 ∧ o.sub = 0 ∧ o.len = 0 ∧ o.addr = 0 ∧ o.port = 0 ∧ o.key = ⟨#[]⟩ ∧ o.mark = ⟨#[]⟩ ∧ o.ids = [] := by
  rw [sameOv_iff]
  obtain ⟨kind, id, addr, port, token, nonce, seq, sub, len, ack, flag, key, mark, ids⟩ := o
  simp only at hk
  subst hk
  simp only [plain2, Ov.zero, Ov.mk.injEq, true_and, and_true]
  constructor
  · rintro ⟨h0, h1, h2, h3, h4, h5, h6, h7, h8⟩
    simp_all
  · rintro ⟨h0, h1, h2, h3, h4, h5, h6, h7, h8⟩
    simp_all

set_option linter.unusedSimpArgs false in
theorem parts_2 (o : Ov) : (¬ rowOf [numText o.id 1, flagTx o.flag, numText o.token 4, numText o.nonce 4] = ⟨#[]⟩) ↔ ¬ numText o.id 1 = ⟨#[]⟩ ∧ ¬ flagTx o.flag = ⟨#[]⟩ ∧ ¬ numText o.token 4 = ⟨#[]⟩ ∧ ¬ numText o.nonce 4 = ⟨#[]⟩ := by
  rw [rowOf_ne _ (List.cons_ne_nil _ _)]
  simp only [List.forall_mem_cons, List.not_mem_nil, false_implies, implies_true, and_true, ofSz_ne _ _ (show (0 : Int) < 8 by decide)]

set_option linter.unusedSimpArgs false in
theorem ok_2 (o : Ov) (hk : o.kind = 2) : specOk o = true ↔ (sameOv (plain2 o) o = true ∧ ¬ rowOf [numText o.id 1, flagTx o.flag, numText o.token 4, numText o.nonce 4] = ⟨#[]⟩) := by
  have h0 : (1 : Int) ≤ 2 ∧ (2 : Int) ≤ 10 := by decide
  have hr := rest_2 o hk
  have hd : decide ((2 : Int) = 8) = false := by decide
  rw [plain_2 o hk, parts_2, ← hr, ← okup_2]
  unfold specOk
  rw [hk, shn_2, has_2, decide_eq_true h0, hd]
  simp only [Bool.true_and, Bool.false_and, Bool.or_false, Bool.and_eq_true, Bool.not_eq_true']
  constructor
  · rintro ⟨⟨h1, h2⟩, h3⟩
    exact ⟨h1, h2⟩
  · rintro ⟨h1, h2⟩
    exact ⟨⟨h1, h2⟩, idUp_nil _ (by simp_all)⟩

theorem tx_2 (o : Ov) (hk : o.kind = 2) (h : specOk o = true) : specS o = rowOf [numText o.id 1, flagTx o.flag, numText o.token 4, numText o.nonce 4] := by
  obtain ⟨h1, h2⟩ := (ok_2 o hk).1 h
  have h3 := (plain_2 o hk).1 h1
  have hp := (parts_2 o).1 h2
  have hi : o.ids = [] := by simp_all
  unfold specS
  rw [hk, shn_2, sUp_nil _ _ hi]
  rw [rowOf_join _ ((rowOf_ne _ (List.cons_ne_nil _ _)).1 h2), join_four]
  simp only [txtUp_succ, txtUp_zero, let_2_0, wid_2_0, txa_2_0, let_2_1, wid_2_1, txa_2_1, let_2_2, wid_2_2, txa_2_2, let_2_3, wid_2_3, txa_2_3, app_nil]


theorem has_3 : hasUp (shapeOf 3) 4 = [true, true, false, true, false, false, false, false, false, false, false, true] := by decide +kernel
theorem shn_3 : shN 3 = 4 := by decide +kernel

theorem let_3_0 : letOf (shapeOf 3) 0 = 105 := by decide +kernel
theorem wid_3_0 : widOf (shapeOf 3) 0 = 49 := by decide +kernel
theorem oka_3_0 (o : Ov) : okAt o 105 49 = !decide (numText o.id 1 = ⟨#[]⟩) := by simp [okAt, numL, wideOf]
theorem txa_3_0 (o : Ov) : txtAt o 105 49 = numText o.id 1 := by simp [txtAt, numL, wideOf]
theorem let_3_1 : letOf (shapeOf 3) 1 = 102 := by decide +kernel
theorem wid_3_1 : widOf (shapeOf 3) 1 = 49 := by decide +kernel
theorem oka_3_1 (o : Ov) : okAt o 102 49 = !decide (flagTx o.flag = ⟨#[]⟩) := by simp [okAt, numL, wideOf, flagTx]; congr
theorem txa_3_1 (o : Ov) : txtAt o 102 49 = flagTx o.flag := by simp [txtAt, numL, wideOf, flagTx]
theorem let_3_2 : letOf (shapeOf 3) 2 = 109 := by decide +kernel
theorem wid_3_2 : widOf (shapeOf 3) 2 = 56 := by decide +kernel
theorem oka_3_2 (o : Ov) : okAt o 109 56 = decide ((o.mark.size : Int) = 8) := by simp [okAt, numL, textL, wideOf]
theorem txa_3_2 (o : Ov) : txtAt o 109 56 = o.mark := by simp [txtAt, numL, textL]
theorem let_3_3 : letOf (shapeOf 3) 3 = 110 := by decide +kernel
theorem wid_3_3 : widOf (shapeOf 3) 3 = 52 := by decide +kernel
theorem oka_3_3 (o : Ov) : okAt o 110 52 = !decide (numText o.nonce 4 = ⟨#[]⟩) := by simp [okAt, numL, wideOf]
theorem txa_3_3 (o : Ov) : txtAt o 110 52 = numText o.nonce 4 := by simp [txtAt, numL, wideOf]

set_option linter.unusedSimpArgs false in
theorem okup_3 (o : Ov) : okUp o (shapeOf 3) 4 = true ↔ ¬ numText o.id 1 = ⟨#[]⟩ ∧ ¬ flagTx o.flag = ⟨#[]⟩ ∧ (o.mark.size : Int) = 8 ∧ ¬ numText o.nonce 4 = ⟨#[]⟩ := by
  simp only [okUp_eq, okUp_zero, let_3_0, wid_3_0, oka_3_0, let_3_1, wid_3_1, oka_3_1, let_3_2, wid_3_2, oka_3_2, let_3_3, wid_3_3, oka_3_3, Bool.true_and, Bool.and_eq_true, decide_eq_true_eq, Bool.not_eq_true', decide_eq_false_iff_not, and_assoc]

theorem rest_3 (o : Ov) (hk : o.kind = 3) : restB o [true, true, false, true, false, false, false, false, false, false, false, true] = false ↔ o.token = 0 ∧ o.ack = 0 ∧ o.seq = 0 ∧ o.sub = 0 ∧ o.len = 0 ∧ o.addr = 0 ∧ o.port = 0 ∧ o.key = ⟨#[]⟩ ∧ o.ids = [] := by
  simp [restB, hk, and_assoc]

set_option linter.unusedSimpArgs false in
theorem plain_3 (o : Ov) (hk : o.kind = 3) : sameOv (plain3 o) o = true ↔ o.token = 0 ∧ o.ack = 0 ∧ o.seq = 0 ∧ o.sub = 0 ∧ o.len = 0 ∧ o.addr = 0 ∧ o.port = 0 ∧ o.key = ⟨#[]⟩ ∧ o.ids = [] := by
  rw [sameOv_iff]
  obtain ⟨kind, id, addr, port, token, nonce, seq, sub, len, ack, flag, key, mark, ids⟩ := o
  simp only at hk
  subst hk
  simp only [plain3, Ov.zero, Ov.mk.injEq, true_and, and_true]
  constructor
  · rintro ⟨h0, h1, h2, h3, h4, h5, h6, h7, h8⟩
    simp_all
  · rintro ⟨h0, h1, h2, h3, h4, h5, h6, h7, h8⟩
    simp_all

set_option linter.unusedSimpArgs false in
theorem parts_3 (o : Ov) : (¬ rowOf [numText o.id 1, flagTx o.flag, ofSz o.mark 8, numText o.nonce 4] = ⟨#[]⟩) ↔ ¬ numText o.id 1 = ⟨#[]⟩ ∧ ¬ flagTx o.flag = ⟨#[]⟩ ∧ (o.mark.size : Int) = 8 ∧ ¬ numText o.nonce 4 = ⟨#[]⟩ := by
  rw [rowOf_ne _ (List.cons_ne_nil _ _)]
  simp only [List.forall_mem_cons, List.not_mem_nil, false_implies, implies_true, and_true, ofSz_ne _ _ (show (0 : Int) < 8 by decide)]

set_option linter.unusedSimpArgs false in
theorem ok_3 (o : Ov) (hk : o.kind = 3) : specOk o = true ↔ (sameOv (plain3 o) o = true ∧ ¬ rowOf [numText o.id 1, flagTx o.flag, ofSz o.mark 8, numText o.nonce 4] = ⟨#[]⟩) := by
  have h0 : (1 : Int) ≤ 3 ∧ (3 : Int) ≤ 10 := by decide
  have hr := rest_3 o hk
  have hd : decide ((3 : Int) = 8) = false := by decide
  rw [plain_3 o hk, parts_3, ← hr, ← okup_3]
  unfold specOk
  rw [hk, shn_3, has_3, decide_eq_true h0, hd]
  simp only [Bool.true_and, Bool.false_and, Bool.or_false, Bool.and_eq_true, Bool.not_eq_true']
  constructor
  · rintro ⟨⟨h1, h2⟩, h3⟩
    exact ⟨h1, h2⟩
  · rintro ⟨h1, h2⟩
    exact ⟨⟨h1, h2⟩, idUp_nil _ (by simp_all)⟩

theorem tx_3 (o : Ov) (hk : o.kind = 3) (h : specOk o = true) : specS o = rowOf [numText o.id 1, flagTx o.flag, ofSz o.mark 8, numText o.nonce 4] := by
  obtain ⟨h1, h2⟩ := (ok_3 o hk).1 h
  have h3 := (plain_3 o hk).1 h1
  have hp := (parts_3 o).1 h2
  have hi : o.ids = [] := by simp_all
  unfold specS
  rw [hk, shn_3, sUp_nil _ _ hi]
  rw [rowOf_join _ ((rowOf_ne _ (List.cons_ne_nil _ _)).1 h2), join_four]
  simp only [txtUp_succ, txtUp_zero, let_3_0, wid_3_0, txa_3_0, let_3_1, wid_3_1, txa_3_1, let_3_2, wid_3_2, txa_3_2, let_3_3, wid_3_3, txa_3_3, app_nil]
  rw [ofSz_self _ _ (by simp_all)]


theorem has_4 : hasUp (shapeOf 4) 1 = [false, false, false, false, false, false, false, false, false, false, false, true] := by decide +kernel
theorem shn_4 : shN 4 = 1 := by decide +kernel

theorem let_4_0 : letOf (shapeOf 4) 0 = 109 := by decide +kernel
theorem wid_4_0 : widOf (shapeOf 4) 0 = 58 := by decide +kernel
theorem oka_4_0 (o : Ov) : okAt o 109 58 = decide ((o.mark.size : Int) = 20) := by simp [okAt, numL, textL, wideOf]
theorem txa_4_0 (o : Ov) : txtAt o 109 58 = o.mark := by simp [txtAt, numL, textL]

set_option linter.unusedSimpArgs false in
theorem okup_4 (o : Ov) : okUp o (shapeOf 4) 1 = true ↔ (o.mark.size : Int) = 20 := by
  simp only [okUp_eq, okUp_zero, let_4_0, wid_4_0, oka_4_0, Bool.true_and, Bool.and_eq_true, decide_eq_true_eq, Bool.not_eq_true', decide_eq_false_iff_not, and_assoc]

theorem rest_4 (o : Ov) (hk : o.kind = 4) : restB o [false, false, false, false, false, false, false, false, false, false, false, true] = false ↔ o.id = 0 ∧ o.flag = false ∧ o.token = 0 ∧ o.nonce = 0 ∧ o.ack = 0 ∧ o.seq = 0 ∧ o.sub = 0 ∧ o.len = 0 ∧ o.addr = 0 ∧ o.port = 0 ∧ o.key = ⟨#[]⟩ ∧ o.ids = [] := by
  simp [restB, hk, and_assoc]

set_option linter.unusedSimpArgs false in
theorem plain_4 (o : Ov) (hk : o.kind = 4) : sameOv (plain4 o) o = true ↔ o.id = 0 ∧ o.flag = false ∧ o.token = 0 ∧ o.nonce = 0 ∧ o.ack = 0 ∧ o.seq = 0 ∧ o.sub = 0 ∧ o.len = 0 ∧ o.addr = 0 ∧ o.port = 0 ∧ o.key = ⟨#[]⟩ ∧ o.ids = [] := by
  rw [sameOv_iff]
  obtain ⟨kind, id, addr, port, token, nonce, seq, sub, len, ack, flag, key, mark, ids⟩ := o
  simp only at hk
  subst hk
  simp only [plain4, Ov.zero, Ov.mk.injEq, true_and, and_true]
  constructor
  · rintro ⟨h0, h1, h2, h3, h4, h5, h6, h7, h8, h9, h10, h11⟩
    simp_all
  · rintro ⟨h0, h1, h2, h3, h4, h5, h6, h7, h8, h9, h10, h11⟩
    simp_all

set_option linter.unusedSimpArgs false in
theorem parts_4 (o : Ov) : (¬ ofSz o.mark 20 = ⟨#[]⟩) ↔ (o.mark.size : Int) = 20 := by
  exact ofSz_ne _ _ (by decide)

set_option linter.unusedSimpArgs false in
theorem ok_4 (o : Ov) (hk : o.kind = 4) : specOk o = true ↔ (sameOv (plain4 o) o = true ∧ ¬ ofSz o.mark 20 = ⟨#[]⟩) := by
  have h0 : (1 : Int) ≤ 4 ∧ (4 : Int) ≤ 10 := by decide
  have hr := rest_4 o hk
  have hd : decide ((4 : Int) = 8) = false := by decide
  rw [plain_4 o hk, parts_4, ← hr, ← okup_4]
  unfold specOk
  rw [hk, shn_4, has_4, decide_eq_true h0, hd]
  simp only [Bool.true_and, Bool.false_and, Bool.or_false, Bool.and_eq_true, Bool.not_eq_true']
  constructor
  · rintro ⟨⟨h1, h2⟩, h3⟩
    exact ⟨h1, h2⟩
  · rintro ⟨h1, h2⟩
    exact ⟨⟨h1, h2⟩, idUp_nil _ (by simp_all)⟩

theorem tx_4 (o : Ov) (hk : o.kind = 4) (h : specOk o = true) : specS o = ofSz o.mark 20 := by
  obtain ⟨h1, h2⟩ := (ok_4 o hk).1 h
  have h3 := (plain_4 o hk).1 h1
  have hp := (parts_4 o).1 h2
  have hi : o.ids = [] := by simp_all
  unfold specS
  rw [hk, shn_4, sUp_nil _ _ hi]
  simp only [txtUp_succ, txtUp_zero, let_4_0, wid_4_0, txa_4_0, app_nil]
  rw [ofSz_self _ _ (by simp_all)]


theorem has_5 : hasUp (shapeOf 5) 4 = [false, false, false, false, true, true, true, true, false, false, false, false] := by decide +kernel
theorem shn_5 : shN 5 = 4 := by decide +kernel

theorem let_5_0 : letOf (shapeOf 5) 0 = 97 := by decide +kernel
theorem wid_5_0 : widOf (shapeOf 5) 0 = 54 := by decide +kernel
theorem oka_5_0 (o : Ov) : okAt o 97 54 = !decide (numText o.ack 6 = ⟨#[]⟩) := by simp [okAt, numL, wideOf]
theorem txa_5_0 (o : Ov) : txtAt o 97 54 = numText o.ack 6 := by simp [txtAt, numL, wideOf]
theorem let_5_1 : letOf (shapeOf 5) 1 = 115 := by decide +kernel
theorem wid_5_1 : widOf (shapeOf 5) 1 = 54 := by decide +kernel
theorem oka_5_1 (o : Ov) : okAt o 115 54 = !decide (numText o.seq 6 = ⟨#[]⟩) := by simp [okAt, numL, wideOf]
theorem txa_5_1 (o : Ov) : txtAt o 115 54 = numText o.seq 6 := by simp [txtAt, numL, wideOf]
theorem let_5_2 : letOf (shapeOf 5) 2 = 117 := by decide +kernel
theorem wid_5_2 : widOf (shapeOf 5) 2 = 52 := by decide +kernel
theorem oka_5_2 (o : Ov) : okAt o 117 52 = !decide (numText o.sub 4 = ⟨#[]⟩) := by simp [okAt, numL, wideOf]
theorem txa_5_2 (o : Ov) : txtAt o 117 52 = numText o.sub 4 := by simp [txtAt, numL, wideOf]
theorem let_5_3 : letOf (shapeOf 5) 3 = 108 := by decide +kernel
theorem wid_5_3 : widOf (shapeOf 5) 3 = 50 := by decide +kernel
theorem oka_5_3 (o : Ov) : okAt o 108 50 = !decide (numText o.len 2 = ⟨#[]⟩) := by simp [okAt, numL, wideOf]
theorem txa_5_3 (o : Ov) : txtAt o 108 50 = numText o.len 2 := by simp [txtAt, numL, wideOf]

set_option linter.unusedSimpArgs false in
theorem okup_5 (o : Ov) : okUp o (shapeOf 5) 4 = true ↔ ¬ numText o.ack 6 = ⟨#[]⟩ ∧ ¬ numText o.seq 6 = ⟨#[]⟩ ∧ ¬ numText o.sub 4 = ⟨#[]⟩ ∧ ¬ numText o.len 2 = ⟨#[]⟩ := by
  simp only [okUp_eq, okUp_zero, let_5_0, wid_5_0, oka_5_0, let_5_1, wid_5_1, oka_5_1, let_5_2, wid_5_2, oka_5_2, let_5_3, wid_5_3, oka_5_3, Bool.true_and, Bool.and_eq_true, decide_eq_true_eq, Bool.not_eq_true', decide_eq_false_iff_not, and_assoc]

theorem rest_5 (o : Ov) (hk : o.kind = 5) : restB o [false, false, false, false, true, true, true, true, false, false, false, false] = false ↔ o.id = 0 ∧ o.flag = false ∧ o.token = 0 ∧ o.nonce = 0 ∧ o.addr = 0 ∧ o.port = 0 ∧ o.key = ⟨#[]⟩ ∧ o.mark = ⟨#[]⟩ ∧ o.ids = [] := by
  simp [restB, hk, and_assoc]

set_option linter.unusedSimpArgs false in
theorem plain_5 (o : Ov) (hk : o.kind = 5) : sameOv (plain5 o) o = true ↔ o.id = 0 ∧ o.flag = false ∧ o.token = 0 ∧ o.nonce = 0 ∧ o.addr = 0 ∧ o.port = 0 ∧ o.key = ⟨#[]⟩ ∧ o.mark = ⟨#[]⟩ ∧ o.ids = [] := by
  rw [sameOv_iff]
  obtain ⟨kind, id, addr, port, token, nonce, seq, sub, len, ack, flag, key, mark, ids⟩ := o
  simp only at hk
  subst hk
  simp only [plain5, Ov.zero, Ov.mk.injEq, true_and, and_true]
  constructor
  · rintro ⟨h0, h1, h2, h3, h4, h5, h6, h7, h8⟩
    simp_all
  · rintro ⟨h0, h1, h2, h3, h4, h5, h6, h7, h8⟩
    simp_all

set_option linter.unusedSimpArgs false in
theorem parts_5 (o : Ov) : (¬ rowOf [numText o.ack 6, numText o.seq 6, numText o.sub 4, numText o.len 2] = ⟨#[]⟩) ↔ ¬ numText o.ack 6 = ⟨#[]⟩ ∧ ¬ numText o.seq 6 = ⟨#[]⟩ ∧ ¬ numText o.sub 4 = ⟨#[]⟩ ∧ ¬ numText o.len 2 = ⟨#[]⟩ := by
  rw [rowOf_ne _ (List.cons_ne_nil _ _)]
  simp only [List.forall_mem_cons, List.not_mem_nil, false_implies, implies_true, and_true, ofSz_ne _ _ (show (0 : Int) < 8 by decide)]

set_option linter.unusedSimpArgs false in
theorem ok_5 (o : Ov) (hk : o.kind = 5) : specOk o = true ↔ (sameOv (plain5 o) o = true ∧ ¬ rowOf [numText o.ack 6, numText o.seq 6, numText o.sub 4, numText o.len 2] = ⟨#[]⟩) := by
  have h0 : (1 : Int) ≤ 5 ∧ (5 : Int) ≤ 10 := by decide
  have hr := rest_5 o hk
  have hd : decide ((5 : Int) = 8) = false := by decide
  rw [plain_5 o hk, parts_5, ← hr, ← okup_5]
  unfold specOk
  rw [hk, shn_5, has_5, decide_eq_true h0, hd]
  simp only [Bool.true_and, Bool.false_and, Bool.or_false, Bool.and_eq_true, Bool.not_eq_true']
  constructor
  · rintro ⟨⟨h1, h2⟩, h3⟩
    exact ⟨h1, h2⟩
  · rintro ⟨h1, h2⟩
    exact ⟨⟨h1, h2⟩, idUp_nil _ (by simp_all)⟩

theorem tx_5 (o : Ov) (hk : o.kind = 5) (h : specOk o = true) : specS o = rowOf [numText o.ack 6, numText o.seq 6, numText o.sub 4, numText o.len 2] := by
  obtain ⟨h1, h2⟩ := (ok_5 o hk).1 h
  have h3 := (plain_5 o hk).1 h1
  have hp := (parts_5 o).1 h2
  have hi : o.ids = [] := by simp_all
  unfold specS
  rw [hk, shn_5, sUp_nil _ _ hi]
  rw [rowOf_join _ ((rowOf_ne _ (List.cons_ne_nil _ _)).1 h2), join_four]
  simp only [txtUp_succ, txtUp_zero, let_5_0, wid_5_0, txa_5_0, let_5_1, wid_5_1, txa_5_1, let_5_2, wid_5_2, txa_5_2, let_5_3, wid_5_3, txa_5_3, app_nil]


theorem has_6 : hasUp (shapeOf 6) 4 = [true, false, false, false, false, false, false, false, true, true, false, true] := by decide +kernel
theorem shn_6 : shN 6 = 4 := by decide +kernel

theorem let_6_0 : letOf (shapeOf 6) 0 = 105 := by decide +kernel
theorem wid_6_0 : widOf (shapeOf 6) 0 = 49 := by decide +kernel
theorem oka_6_0 (o : Ov) : okAt o 105 49 = !decide (numText o.id 1 = ⟨#[]⟩) := by simp [okAt, numL, wideOf]
theorem txa_6_0 (o : Ov) : txtAt o 105 49 = numText o.id 1 := by simp [txtAt, numL, wideOf]
theorem let_6_1 : letOf (shapeOf 6) 1 = 100 := by decide +kernel
theorem wid_6_1 : widOf (shapeOf 6) 1 = 52 := by decide +kernel
theorem oka_6_1 (o : Ov) : okAt o 100 52 = !decide (numText o.addr 4 = ⟨#[]⟩) := by simp [okAt, numL, wideOf]
theorem txa_6_1 (o : Ov) : txtAt o 100 52 = numText o.addr 4 := by simp [txtAt, numL, wideOf]
theorem let_6_2 : letOf (shapeOf 6) 2 = 112 := by decide +kernel
theorem wid_6_2 : widOf (shapeOf 6) 2 = 50 := by decide +kernel
theorem oka_6_2 (o : Ov) : okAt o 112 50 = !decide (numText o.port 2 = ⟨#[]⟩) := by simp [okAt, numL, wideOf]
theorem txa_6_2 (o : Ov) : txtAt o 112 50 = numText o.port 2 := by simp [txtAt, numL, wideOf]
theorem let_6_3 : letOf (shapeOf 6) 3 = 109 := by decide +kernel
theorem wid_6_3 : widOf (shapeOf 6) 3 = 56 := by decide +kernel
theorem oka_6_3 (o : Ov) : okAt o 109 56 = decide ((o.mark.size : Int) = 8) := by simp [okAt, numL, textL, wideOf]
theorem txa_6_3 (o : Ov) : txtAt o 109 56 = o.mark := by simp [txtAt, numL, textL]

set_option linter.unusedSimpArgs false in
theorem okup_6 (o : Ov) : okUp o (shapeOf 6) 4 = true ↔ ¬ numText o.id 1 = ⟨#[]⟩ ∧ ¬ numText o.addr 4 = ⟨#[]⟩ ∧ ¬ numText o.port 2 = ⟨#[]⟩ ∧ (o.mark.size : Int) = 8 := by
  simp only [okUp_eq, okUp_zero, let_6_0, wid_6_0, oka_6_0, let_6_1, wid_6_1, oka_6_1, let_6_2, wid_6_2, oka_6_2, let_6_3, wid_6_3, oka_6_3, Bool.true_and, Bool.and_eq_true, decide_eq_true_eq, Bool.not_eq_true', decide_eq_false_iff_not, and_assoc]

theorem rest_6 (o : Ov) (hk : o.kind = 6) : restB o [true, false, false, false, false, false, false, false, true, true, false, true] = false ↔ o.flag = false ∧ o.token = 0 ∧ o.nonce = 0 ∧ o.ack = 0 ∧ o.seq = 0 ∧ o.sub = 0 ∧ o.len = 0 ∧ o.key = ⟨#[]⟩ ∧ o.ids = [] := by
  simp [restB, hk, and_assoc]

set_option linter.unusedSimpArgs false in
theorem plain_6 (o : Ov) (hk : o.kind = 6) : sameOv (plain6 o) o = true ↔ o.flag = false ∧ o.token = 0 ∧ o.nonce = 0 ∧ o.ack = 0 ∧ o.seq = 0 ∧ o.sub = 0 ∧ o.len = 0 ∧ o.key = ⟨#[]⟩ ∧ o.ids = [] := by
  rw [sameOv_iff]
  obtain ⟨kind, id, addr, port, token, nonce, seq, sub, len, ack, flag, key, mark, ids⟩ := o
  simp only at hk
  subst hk
  simp only [plain6, Ov.zero, Ov.mk.injEq, true_and, and_true]
  constructor
  · rintro ⟨h0, h1, h2, h3, h4, h5, h6, h7, h8⟩
    simp_all
  · rintro ⟨h0, h1, h2, h3, h4, h5, h6, h7, h8⟩
    simp_all

set_option linter.unusedSimpArgs false in
theorem parts_6 (o : Ov) : (¬ rowOf [numText o.id 1, numText o.addr 4, numText o.port 2, ofSz o.mark 8] = ⟨#[]⟩) ↔ ¬ numText o.id 1 = ⟨#[]⟩ ∧ ¬ numText o.addr 4 = ⟨#[]⟩ ∧ ¬ numText o.port 2 = ⟨#[]⟩ ∧ (o.mark.size : Int) = 8 := by
  rw [rowOf_ne _ (List.cons_ne_nil _ _)]
  simp only [List.forall_mem_cons, List.not_mem_nil, false_implies, implies_true, and_true, ofSz_ne _ _ (show (0 : Int) < 8 by decide)]

set_option linter.unusedSimpArgs false in
theorem ok_6 (o : Ov) (hk : o.kind = 6) : specOk o = true ↔ (sameOv (plain6 o) o = true ∧ ¬ rowOf [numText o.id 1, numText o.addr 4, numText o.port 2, ofSz o.mark 8] = ⟨#[]⟩) := by
  have h0 : (1 : Int) ≤ 6 ∧ (6 : Int) ≤ 10 := by decide
  have hr := rest_6 o hk
  have hd : decide ((6 : Int) = 8) = false := by decide
  rw [plain_6 o hk, parts_6, ← hr, ← okup_6]
  unfold specOk
  rw [hk, shn_6, has_6, decide_eq_true h0, hd]
  simp only [Bool.true_and, Bool.false_and, Bool.or_false, Bool.and_eq_true, Bool.not_eq_true']
  constructor
  · rintro ⟨⟨h1, h2⟩, h3⟩
    exact ⟨h1, h2⟩
  · rintro ⟨h1, h2⟩
    exact ⟨⟨h1, h2⟩, idUp_nil _ (by simp_all)⟩

theorem tx_6 (o : Ov) (hk : o.kind = 6) (h : specOk o = true) : specS o = rowOf [numText o.id 1, numText o.addr 4, numText o.port 2, ofSz o.mark 8] := by
  obtain ⟨h1, h2⟩ := (ok_6 o hk).1 h
  have h3 := (plain_6 o hk).1 h1
  have hp := (parts_6 o).1 h2
  have hi : o.ids = [] := by simp_all
  unfold specS
  rw [hk, shn_6, sUp_nil _ _ hi]
  rw [rowOf_join _ ((rowOf_ne _ (List.cons_ne_nil _ _)).1 h2), join_four]
  simp only [txtUp_succ, txtUp_zero, let_6_0, wid_6_0, txa_6_0, let_6_1, wid_6_1, txa_6_1, let_6_2, wid_6_2, txa_6_2, let_6_3, wid_6_3, txa_6_3, app_nil]
  rw [ofSz_self _ _ (by simp_all)]


theorem has_7 : hasUp (shapeOf 7) 3 = [true, false, false, false, false, false, false, false, true, true, false, false] := by decide +kernel
theorem shn_7 : shN 7 = 3 := by decide +kernel

theorem let_7_0 : letOf (shapeOf 7) 0 = 105 := by decide +kernel
theorem wid_7_0 : widOf (shapeOf 7) 0 = 49 := by decide +kernel
theorem oka_7_0 (o : Ov) : okAt o 105 49 = !decide (numText o.id 1 = ⟨#[]⟩) := by simp [okAt, numL, wideOf]
theorem txa_7_0 (o : Ov) : txtAt o 105 49 = numText o.id 1 := by simp [txtAt, numL, wideOf]
theorem let_7_1 : letOf (shapeOf 7) 1 = 100 := by decide +kernel
theorem wid_7_1 : widOf (shapeOf 7) 1 = 52 := by decide +kernel
theorem oka_7_1 (o : Ov) : okAt o 100 52 = !decide (numText o.addr 4 = ⟨#[]⟩) := by simp [okAt, numL, wideOf]
theorem txa_7_1 (o : Ov) : txtAt o 100 52 = numText o.addr 4 := by simp [txtAt, numL, wideOf]
theorem let_7_2 : letOf (shapeOf 7) 2 = 112 := by decide +kernel
theorem wid_7_2 : widOf (shapeOf 7) 2 = 50 := by decide +kernel
theorem oka_7_2 (o : Ov) : okAt o 112 50 = !decide (numText o.port 2 = ⟨#[]⟩) := by simp [okAt, numL, wideOf]
theorem txa_7_2 (o : Ov) : txtAt o 112 50 = numText o.port 2 := by simp [txtAt, numL, wideOf]

set_option linter.unusedSimpArgs false in
theorem okup_7 (o : Ov) : okUp o (shapeOf 7) 3 = true ↔ ¬ numText o.id 1 = ⟨#[]⟩ ∧ ¬ numText o.addr 4 = ⟨#[]⟩ ∧ ¬ numText o.port 2 = ⟨#[]⟩ := by
  simp only [okUp_eq, okUp_zero, let_7_0, wid_7_0, oka_7_0, let_7_1, wid_7_1, oka_7_1, let_7_2, wid_7_2, oka_7_2, Bool.true_and, Bool.and_eq_true, decide_eq_true_eq, Bool.not_eq_true', decide_eq_false_iff_not, and_assoc]

theorem rest_7 (o : Ov) (hk : o.kind = 7) : restB o [true, false, false, false, false, false, false, false, true, true, false, false] = false ↔ o.flag = false ∧ o.token = 0 ∧ o.nonce = 0 ∧ o.ack = 0 ∧ o.seq = 0 ∧ o.sub = 0 ∧ o.len = 0 ∧ o.key = ⟨#[]⟩ ∧ o.mark = ⟨#[]⟩ ∧ o.ids = [] := by
  simp [restB, hk, and_assoc]

set_option linter.unusedSimpArgs false in
theorem plain_7 (o : Ov) (hk : o.kind = 7) : sameOv (plain7 o) o = true ↔ o.flag = false ∧ o.token = 0 ∧ o.nonce = 0 ∧ o.ack = 0 ∧ o.seq = 0 ∧ o.sub = 0 ∧ o.len = 0 ∧ o.key = ⟨#[]⟩ ∧ o.mark = ⟨#[]⟩ ∧ o.ids = [] := by
  rw [sameOv_iff]
  obtain ⟨kind, id, addr, port, token, nonce, seq, sub, len, ack, flag, key, mark, ids⟩ := o
  simp only at hk
  subst hk
  simp only [plain7, Ov.zero, Ov.mk.injEq, true_and, and_true]
  constructor
  · rintro ⟨h0, h1, h2, h3, h4, h5, h6, h7, h8, h9⟩
    simp_all
  · rintro ⟨h0, h1, h2, h3, h4, h5, h6, h7, h8, h9⟩
    simp_all

set_option linter.unusedSimpArgs false in
theorem parts_7 (o : Ov) : (¬ rowOf [numText o.id 1, numText o.addr 4, numText o.port 2] = ⟨#[]⟩) ↔ ¬ numText o.id 1 = ⟨#[]⟩ ∧ ¬ numText o.addr 4 = ⟨#[]⟩ ∧ ¬ numText o.port 2 = ⟨#[]⟩ := by
  rw [rowOf_ne _ (List.cons_ne_nil _ _)]
  simp only [List.forall_mem_cons, List.not_mem_nil, false_implies, implies_true, and_true, ofSz_ne _ _ (show (0 : Int) < 8 by decide)]

set_option linter.unusedSimpArgs false in
theorem ok_7 (o : Ov) (hk : o.kind = 7) : specOk o = true ↔ (sameOv (plain7 o) o = true ∧ ¬ rowOf [numText o.id 1, numText o.addr 4, numText o.port 2] = ⟨#[]⟩) := by
  have h0 : (1 : Int) ≤ 7 ∧ (7 : Int) ≤ 10 := by decide
  have hr := rest_7 o hk
  have hd : decide ((7 : Int) = 8) = false := by decide
  rw [plain_7 o hk, parts_7, ← hr, ← okup_7]
  unfold specOk
  rw [hk, shn_7, has_7, decide_eq_true h0, hd]
  simp only [Bool.true_and, Bool.false_and, Bool.or_false, Bool.and_eq_true, Bool.not_eq_true']
  constructor
  · rintro ⟨⟨h1, h2⟩, h3⟩
    exact ⟨h1, h2⟩
  · rintro ⟨h1, h2⟩
    exact ⟨⟨h1, h2⟩, idUp_nil _ (by simp_all)⟩

theorem tx_7 (o : Ov) (hk : o.kind = 7) (h : specOk o = true) : specS o = rowOf [numText o.id 1, numText o.addr 4, numText o.port 2] := by
  obtain ⟨h1, h2⟩ := (ok_7 o hk).1 h
  have h3 := (plain_7 o hk).1 h1
  have hp := (parts_7 o).1 h2
  have hi : o.ids = [] := by simp_all
  unfold specS
  rw [hk, shn_7, sUp_nil _ _ hi]
  rw [rowOf_join _ ((rowOf_ne _ (List.cons_ne_nil _ _)).1 h2), join_three]
  simp only [txtUp_succ, txtUp_zero, let_7_0, wid_7_0, txa_7_0, let_7_1, wid_7_1, txa_7_1, let_7_2, wid_7_2, txa_7_2, app_nil]


theorem has_9 : hasUp (shapeOf 9) 1 = [false, false, false, false, false, true, false, false, false, false, false, false] := by decide +kernel
theorem shn_9 : shN 9 = 1 := by decide +kernel

theorem let_9_0 : letOf (shapeOf 9) 0 = 115 := by decide +kernel
theorem wid_9_0 : widOf (shapeOf 9) 0 = 54 := by decide +kernel
theorem oka_9_0 (o : Ov) : okAt o 115 54 = !decide (numText o.seq 6 = ⟨#[]⟩) := by simp [okAt, numL, wideOf]
theorem txa_9_0 (o : Ov) : txtAt o 115 54 = numText o.seq 6 := by simp [txtAt, numL, wideOf]

set_option linter.unusedSimpArgs false in
theorem okup_9 (o : Ov) : okUp o (shapeOf 9) 1 = true ↔ ¬ numText o.seq 6 = ⟨#[]⟩ := by
  simp only [okUp_eq, okUp_zero, let_9_0, wid_9_0, oka_9_0, Bool.true_and, Bool.and_eq_true, decide_eq_true_eq, Bool.not_eq_true', decide_eq_false_iff_not, and_assoc]

theorem rest_9 (o : Ov) (hk : o.kind = 9) : restB o [false, false, false, false, false, true, false, false, false, false, false, false] = false ↔ o.id = 0 ∧ o.flag = false ∧ o.token = 0 ∧ o.nonce = 0 ∧ o.ack = 0 ∧ o.sub = 0 ∧ o.len = 0 ∧ o.addr = 0 ∧ o.port = 0 ∧ o.key = ⟨#[]⟩ ∧ o.mark = ⟨#[]⟩ ∧ o.ids = [] := by
  simp [restB, hk, and_assoc]

set_option linter.unusedSimpArgs false in
theorem plain_9 (o : Ov) (hk : o.kind = 9) : sameOv (plain9 o) o = true ↔ o.id = 0 ∧ o.flag = false ∧ o.token = 0 ∧ o.nonce = 0 ∧ o.ack = 0 ∧ o.sub = 0 ∧ o.len = 0 ∧ o.addr = 0 ∧ o.port = 0 ∧ o.key = ⟨#[]⟩ ∧ o.mark = ⟨#[]⟩ ∧ o.ids = [] := by
  rw [sameOv_iff]
  obtain ⟨kind, id, addr, port, token, nonce, seq, sub, len, ack, flag, key, mark, ids⟩ := o
  simp only at hk
  subst hk
  simp only [plain9, Ov.zero, Ov.mk.injEq, true_and, and_true]
  constructor
  · rintro ⟨h0, h1, h2, h3, h4, h5, h6, h7, h8, h9, h10, h11⟩
    simp_all
  · rintro ⟨h0, h1, h2, h3, h4, h5, h6, h7, h8, h9, h10, h11⟩
    simp_all

set_option linter.unusedSimpArgs false in
theorem parts_9 (o : Ov) : (¬ numText o.seq 6 = ⟨#[]⟩) ↔ ¬ numText o.seq 6 = ⟨#[]⟩ := by
  rfl

set_option linter.unusedSimpArgs false in
theorem ok_9 (o : Ov) (hk : o.kind = 9) : specOk o = true ↔ (sameOv (plain9 o) o = true ∧ ¬ numText o.seq 6 = ⟨#[]⟩) := by
  have h0 : (1 : Int) ≤ 9 ∧ (9 : Int) ≤ 10 := by decide
  have hr := rest_9 o hk
  have hd : decide ((9 : Int) = 8) = false := by decide
  rw [plain_9 o hk, parts_9, ← hr, ← okup_9]
  unfold specOk
  rw [hk, shn_9, has_9, decide_eq_true h0, hd]
  simp only [Bool.true_and, Bool.false_and, Bool.or_false, Bool.and_eq_true, Bool.not_eq_true']
  constructor
  · rintro ⟨⟨h1, h2⟩, h3⟩
    exact ⟨h1, h2⟩
  · rintro ⟨h1, h2⟩
    exact ⟨⟨h1, h2⟩, idUp_nil _ (by simp_all)⟩

theorem tx_9 (o : Ov) (hk : o.kind = 9) (h : specOk o = true) : specS o = numText o.seq 6 := by
  obtain ⟨h1, h2⟩ := (ok_9 o hk).1 h
  have h3 := (plain_9 o hk).1 h1
  have hp := (parts_9 o).1 h2
  have hi : o.ids = [] := by simp_all
  unfold specS
  rw [hk, shn_9, sUp_nil _ _ hi]
  simp only [txtUp_succ, txtUp_zero, let_9_0, wid_9_0, txa_9_0, app_nil]


theorem has_10 : hasUp (shapeOf 10) 1 = [false, false, false, false, false, false, false, false, false, false, true, false] := by decide +kernel
theorem shn_10 : shN 10 = 1 := by decide +kernel

theorem let_10_0 : letOf (shapeOf 10) 0 = 107 := by decide +kernel
theorem wid_10_0 : widOf (shapeOf 10) 0 = 56 := by decide +kernel
theorem oka_10_0 (o : Ov) : okAt o 107 56 = decide ((o.key.size : Int) = 8) := by simp [okAt, numL, textL, wideOf]
theorem txa_10_0 (o : Ov) : txtAt o 107 56 = o.key := by simp [txtAt, numL, textL]

set_option linter.unusedSimpArgs false in
theorem okup_10 (o : Ov) : okUp o (shapeOf 10) 1 = true ↔ (o.key.size : Int) = 8 := by
  simp only [okUp_eq, okUp_zero, let_10_0, wid_10_0, oka_10_0, Bool.true_and, Bool.and_eq_true, decide_eq_true_eq, Bool.not_eq_true', decide_eq_false_iff_not, and_assoc]

theorem rest_10 (o : Ov) (hk : o.kind = 10) : restB o [false, false, false, false, false, false, false, false, false, false, true, false] = false ↔ o.id = 0 ∧ o.flag = false ∧ o.token = 0 ∧ o.nonce = 0 ∧ o.ack = 0 ∧ o.seq = 0 ∧ o.sub = 0 ∧ o.len = 0 ∧ o.addr = 0 ∧ o.port = 0 ∧ o.mark = ⟨#[]⟩ ∧ o.ids = [] := by
  simp [restB, hk, and_assoc]

set_option linter.unusedSimpArgs false in
theorem plain_10 (o : Ov) (hk : o.kind = 10) : sameOv (plain10 o) o = true ↔ o.id = 0 ∧ o.flag = false ∧ o.token = 0 ∧ o.nonce = 0 ∧ o.ack = 0 ∧ o.seq = 0 ∧ o.sub = 0 ∧ o.len = 0 ∧ o.addr = 0 ∧ o.port = 0 ∧ o.mark = ⟨#[]⟩ ∧ o.ids = [] := by
  rw [sameOv_iff]
  obtain ⟨kind, id, addr, port, token, nonce, seq, sub, len, ack, flag, key, mark, ids⟩ := o
  simp only at hk
  subst hk
  simp only [plain10, Ov.zero, Ov.mk.injEq, true_and, and_true]
  constructor
  · rintro ⟨h0, h1, h2, h3, h4, h5, h6, h7, h8, h9, h10, h11⟩
    simp_all
  · rintro ⟨h0, h1, h2, h3, h4, h5, h6, h7, h8, h9, h10, h11⟩
    simp_all

set_option linter.unusedSimpArgs false in
theorem parts_10 (o : Ov) : (¬ ofSz o.key 8 = ⟨#[]⟩) ↔ (o.key.size : Int) = 8 := by
  exact ofSz_ne _ _ (by decide)

set_option linter.unusedSimpArgs false in
theorem ok_10 (o : Ov) (hk : o.kind = 10) : specOk o = true ↔ (sameOv (plain10 o) o = true ∧ ¬ ofSz o.key 8 = ⟨#[]⟩) := by
  have h0 : (1 : Int) ≤ 10 ∧ (10 : Int) ≤ 10 := by decide
  have hr := rest_10 o hk
  have hd : decide ((10 : Int) = 8) = false := by decide
  rw [plain_10 o hk, parts_10, ← hr, ← okup_10]
  unfold specOk
  rw [hk, shn_10, has_10, decide_eq_true h0, hd]
  simp only [Bool.true_and, Bool.false_and, Bool.or_false, Bool.and_eq_true, Bool.not_eq_true']
  constructor
  · rintro ⟨⟨h1, h2⟩, h3⟩
    exact ⟨h1, h2⟩
  · rintro ⟨h1, h2⟩
    exact ⟨⟨h1, h2⟩, idUp_nil _ (by simp_all)⟩

theorem tx_10 (o : Ov) (hk : o.kind = 10) (h : specOk o = true) : specS o = ofSz o.key 8 := by
  obtain ⟨h1, h2⟩ := (ok_10 o hk).1 h
  have h3 := (plain_10 o hk).1 h1
  have hp := (parts_10 o).1 h2
  have hi : o.ids = [] := by simp_all
  unfold specS
  rw [hk, shn_10, sUp_nil _ _ hi]
  simp only [txtUp_succ, txtUp_zero, let_10_0, wid_10_0, txa_10_0, app_nil]
  rw [ofSz_self _ _ (by simp_all)]


theorem has_8 : hasUp (shapeOf 8) 0 = [false, false, false, false, false, false, false, false, false, false, false, false] := by decide +kernel
theorem shn_8 : shN 8 = 0 := by decide +kernel
theorem rest_8 (o : Ov) (hk : o.kind = 8) : restB o [false, false, false, false, false, false, false, false, false, false, false, false] = false ↔ o.id = 0 ∧ o.flag = false ∧ o.token = 0 ∧ o.nonce = 0 ∧ o.ack = 0 ∧ o.seq = 0 ∧ o.sub = 0 ∧ o.len = 0 ∧ o.addr = 0 ∧ o.port = 0 ∧ o.key = ⟨#[]⟩ ∧ o.mark = ⟨#[]⟩ := by
  simp [restB, hk, and_assoc]
theorem plain_8 (o : Ov) (hk : o.kind = 8) : sameOv (plain8 o) o = true ↔ o.id = 0 ∧ o.flag = false ∧ o.token = 0 ∧ o.nonce = 0 ∧ o.ack = 0 ∧ o.seq = 0 ∧ o.sub = 0 ∧ o.len = 0 ∧ o.addr = 0 ∧ o.port = 0 ∧ o.key = ⟨#[]⟩ ∧ o.mark = ⟨#[]⟩ := by
  rw [sameOv_iff]
  obtain ⟨kind, id, addr, port, token, nonce, seq, sub, len, ack, flag, key, mark, ids⟩ := o
  simp only at hk
  subst hk
  simp only [plain8, Ov.zero, Ov.mk.injEq, true_and, and_true]
  constructor
  · rintro ⟨h0, h1, h2, h3, h4, h5, h6, h7, h8, h9, h10, h11⟩
    simp_all
  · rintro ⟨h0, h1, h2, h3, h4, h5, h6, h7, h8, h9, h10, h11⟩
    simp_all

theorem idUp_iff (zs : List Int) (m : Nat) : idUp zs m = true ↔ ∀ j, j < m → idAt zs j = true := by
  induction m with
  | zero => exact ⟨fun _ j h => by omega, fun _ => idUp_zero zs⟩
  | succ m ih =>
    rw [idUp_eq, Bool.and_eq_true, ih]
    constructor
    · rintro ⟨h1, h2⟩ j hj
      by_cases h : j = m
      · subst h; exact h2
      · exact h1 j (by omega)
    · intro h
      exact ⟨fun j hj => h j (by omega), h m (by omega)⟩

theorem ids_iff (zs : List Int) : idUp zs zs.length = true ↔ (asc zs = true ∧ ∀ x ∈ zs.map (fun z => numText z 1), ¬ x = ⟨#[]⟩) := by
  have hn : (∀ x ∈ zs.map (fun z => numText z 1), ¬ x = ⟨#[]⟩) ↔ ∀ j (h : j < zs.length), 0 ≤ zs[j] ∧ zs[j] ≤ 255 := by
    simp only [List.forall_mem_map]
    constructor
    · intro h j hj
      have := (num_ne _ _).1 (h zs[j] (List.getElem_mem hj))
      have e : (256 : Int) ^ (1 : Int).toNat = 256 := by decide
      omega
    · intro h z hz
      obtain ⟨j, hj, rfl⟩ := List.getElem_of_mem hz
      have e : (256 : Int) ^ (1 : Int).toNat = 256 := by decide
      have := h j hj
      exact (num_ne _ _).2 (by omega)
  rw [hn, asc_iff, idUp_iff]
  have hg : ∀ j (h : j < zs.length), zs.getD j 0 = zs[j] := fun j h => by rw [List.getD, List.getElem?_eq_getElem h]; rfl
  constructor
  · intro h
    refine ⟨fun j hj => ?_, fun j hj => ?_⟩
    · have := h (j + 1) hj
      unfold idAt at this
      simp only [Bool.and_eq_true, Bool.or_eq_true, decide_eq_true_eq, Nat.add_sub_cancel] at this
      rw [hg _ hj, hg j (by omega)] at this
      rcases this.2 with h2 | h2
      · omega
      · exact h2
    · have := h j hj
      unfold idAt at this
      simp only [Bool.and_eq_true, Bool.or_eq_true, decide_eq_true_eq] at this
      rw [hg _ hj] at this
      exact this.1
  · rintro ⟨h1, h2⟩ j hj
    unfold idAt
    simp only [Bool.and_eq_true, Bool.or_eq_true, decide_eq_true_eq]
    rw [hg _ hj]
    refine ⟨h2 j hj, ?_⟩
    cases j with
    | zero => exact .inl rfl
    | succ j =>
      rw [Nat.add_sub_cancel, hg j (by omega)]
      exact .inr (h1 j hj)

theorem gone_ne (zs : List Int) : (¬ goneTx zs = ⟨#[]⟩) ↔ ((1 ≤ zs.length ∧ zs.length ≤ 8) ∧ idUp zs zs.length = true) := by
  rw [ids_iff]
  unfold goneTx
  by_cases h : 1 ≤ zs.length ∧ zs.length ≤ 8 ∧ asc zs = true
  · rw [if_pos h, rowOf_ne]
    · exact ⟨fun h2 => ⟨⟨h.1, h.2.1⟩, h.2.2, h2⟩, fun h2 => h2.2.2⟩
    · intro he
      have := congrArg List.length he
      simp at this
      subst this
      exact absurd h.1 (by decide)
  · rw [if_neg h]
    exact ⟨fun h2 => absurd rfl h2, fun h2 => absurd ⟨h2.1.1, h2.1.2, h2.2.1⟩ h⟩

theorem ok_8 (o : Ov) (hk : o.kind = 8) : specOk o = true ↔ (sameOv (plain8 o) o = true ∧ ¬ goneTx o.ids = ⟨#[]⟩) := by
  have h0 : (1 : Int) ≤ 8 ∧ (8 : Int) ≤ 10 := by decide
  have hr := rest_8 o hk
  rw [plain_8 o hk, ← hr, gone_ne]
  unfold specOk
  rw [hk, shn_8, has_8, decide_eq_true h0, okUp_zero]
  simp only [Bool.true_and, Bool.and_true, Bool.and_eq_true, Bool.not_eq_true', Bool.or_eq_false_iff, decide_true, Bool.not_eq_false', decide_eq_true_eq]
  constructor
  · rintro ⟨⟨h1, h2⟩, h3⟩
    exact ⟨h1, by omega, h3⟩
  · rintro ⟨h1, h2, h3⟩
    exact ⟨⟨h1, by omega⟩, h3⟩

theorem sUp_join (zs : List Int) (j : Nat) (h : j ≤ zs.length) : sUp zs ⟨#[]⟩ j = joinOf ((zs.take j).map fun z => numText z 1) := by
  induction j with
  | zero => rw [sUp_zero]; rfl
  | succ j ih =>
    rw [sUp_succ, ih (by omega), List.take_succ_eq_append_getElem (by omega), List.map_append]
    have hg : zs.getD j 0 = zs[j] := by rw [List.getD, List.getElem?_eq_getElem (by omega)]; rfl
    rw [hg]
    apply ByteArray.ext
    apply Array.toList_inj.1
    simp [joinOf]

theorem tx_8 (o : Ov) (hk : o.kind = 8) (h : specOk o = true) : specS o = goneTx o.ids := by
  obtain ⟨h1, h2⟩ := (ok_8 o hk).1 h
  obtain ⟨hl, hu⟩ := (gone_ne _).1 h2
  obtain ⟨ha, hp⟩ := (ids_iff _).1 hu
  unfold specS goneTx
  rw [hk, shn_8, txtUp_zero, if_pos ⟨hl.1, hl.2, ha⟩, rowOf_join _ hp, sUp_join _ _ (Nat.le_refl _), List.take_length]


theorem kind_ten (k : Int) (h : 1 ≤ k ∧ k ≤ 10) : k = 1 ∨ k = 2 ∨ k = 3 ∨ k = 4 ∨ k = 5 ∨ k = 6 ∨ k = 7 ∨ k = 8 ∨ k = 9 ∨ k = 10 := by omega

theorem ok_all (o : Ov) (h : 1 ≤ o.kind ∧ o.kind ≤ 10) : specOk o = true ↔ (sameOv (plainOf o) o = true ∧ ¬ fieldsOf o = ⟨#[]⟩) := by
  rcases kind_ten _ h with hk | hk | hk | hk | hk | hk | hk | hk | hk | hk
  · have e1 : fieldsOf o = ofSz o.key 8 := by unfold fieldsOf; simp [hk]
    have e2 : plainOf o = plain1 o := by unfold plainOf; simp [hk]
    rw [e1, e2]
    exact ok_1 o hk
  · have e1 : fieldsOf o = rowOf [numText o.id 1, flagTx o.flag, numText o.token 4, numText o.nonce 4] := by unfold fieldsOf; simp [hk]
    have e2 : plainOf o = plain2 o := by unfold plainOf; simp [hk]
    rw [e1, e2]
    exact ok_2 o hk
  · have e1 : fieldsOf o = rowOf [numText o.id 1, flagTx o.flag, ofSz o.mark 8, numText o.nonce 4] := by unfold fieldsOf; simp [hk]
    have e2 : plainOf o = plain3 o := by unfold plainOf; simp [hk]
    rw [e1, e2]
    exact ok_3 o hk
  · have e1 : fieldsOf o = ofSz o.mark 20 := by unfold fieldsOf; simp [hk]
    have e2 : plainOf o = plain4 o := by unfold plainOf; simp [hk]
    rw [e1, e2]
    exact ok_4 o hk
  · have e1 : fieldsOf o = rowOf [numText o.ack 6, numText o.seq 6, numText o.sub 4, numText o.len 2] := by unfold fieldsOf; simp [hk]
    have e2 : plainOf o = plain5 o := by unfold plainOf; simp [hk]
    rw [e1, e2]
    exact ok_5 o hk
  · have e1 : fieldsOf o = rowOf [numText o.id 1, numText o.addr 4, numText o.port 2, ofSz o.mark 8] := by unfold fieldsOf; simp [hk]
    have e2 : plainOf o = plain6 o := by unfold plainOf; simp [hk]
    rw [e1, e2]
    exact ok_6 o hk
  · have e1 : fieldsOf o = rowOf [numText o.id 1, numText o.addr 4, numText o.port 2] := by unfold fieldsOf; simp [hk]
    have e2 : plainOf o = plain7 o := by unfold plainOf; simp [hk]
    rw [e1, e2]
    exact ok_7 o hk
  · have e1 : fieldsOf o = goneTx o.ids := by unfold fieldsOf; simp [hk]
    have e2 : plainOf o = plain8 o := by unfold plainOf; simp [hk]
    rw [e1, e2]
    exact ok_8 o hk
  · have e1 : fieldsOf o = numText o.seq 6 := by unfold fieldsOf; simp [hk]
    have e2 : plainOf o = plain9 o := by unfold plainOf; simp [hk]
    rw [e1, e2]
    exact ok_9 o hk
  · have e1 : fieldsOf o = ofSz o.key 8 := by unfold fieldsOf; simp [hk]
    have e2 : plainOf o = plain10 o := by unfold plainOf; simp [hk]
    rw [e1, e2]
    exact ok_10 o hk

theorem tx_all (o : Ov) (h : 1 ≤ o.kind ∧ o.kind ≤ 10) (hs : specOk o = true) : specS o = fieldsOf o := by
  rcases kind_ten _ h with hk | hk | hk | hk | hk | hk | hk | hk | hk | hk
  · have e1 : fieldsOf o = ofSz o.key 8 := by unfold fieldsOf; simp [hk]
    rw [e1]
    exact tx_1 o hk hs
  · have e1 : fieldsOf o = rowOf [numText o.id 1, flagTx o.flag, numText o.token 4, numText o.nonce 4] := by unfold fieldsOf; simp [hk]
    rw [e1]
    exact tx_2 o hk hs
  · have e1 : fieldsOf o = rowOf [numText o.id 1, flagTx o.flag, ofSz o.mark 8, numText o.nonce 4] := by unfold fieldsOf; simp [hk]
    rw [e1]
    exact tx_3 o hk hs
  · have e1 : fieldsOf o = ofSz o.mark 20 := by unfold fieldsOf; simp [hk]
    rw [e1]
    exact tx_4 o hk hs
  · have e1 : fieldsOf o = rowOf [numText o.ack 6, numText o.seq 6, numText o.sub 4, numText o.len 2] := by unfold fieldsOf; simp [hk]
    rw [e1]
    exact tx_5 o hk hs
  · have e1 : fieldsOf o = rowOf [numText o.id 1, numText o.addr 4, numText o.port 2, ofSz o.mark 8] := by unfold fieldsOf; simp [hk]
    rw [e1]
    exact tx_6 o hk hs
  · have e1 : fieldsOf o = rowOf [numText o.id 1, numText o.addr 4, numText o.port 2] := by unfold fieldsOf; simp [hk]
    rw [e1]
    exact tx_7 o hk hs
  · have e1 : fieldsOf o = goneTx o.ids := by unfold fieldsOf; simp [hk]
    rw [e1]
    exact tx_8 o hk hs
  · have e1 : fieldsOf o = numText o.seq 6 := by unfold fieldsOf; simp [hk]
    rw [e1]
    exact tx_9 o hk hs
  · have e1 : fieldsOf o = ofSz o.key 8 := by unfold fieldsOf; simp [hk]
    rw [e1]
    exact tx_10 o hk hs

theorem specOk_kind (o : Ov) (h : specOk o = true) : 1 ≤ o.kind ∧ o.kind ≤ 10 := (specOk_up o h).1

theorem optTx_yes (o : Ov) (h : specOk o = true) : optTx o = numText o.kind 1 ++ numText (specS o).size 1 ++ specS o := by
  have hk := specOk_kind o h
  have h1 := (ok_all o hk).1 h
  unfold optTx
  rw [if_pos hk, if_pos h1.1, headed_yes _ _ h1.2, tx_all o hk h]

theorem optTx_no (o : Ov) (h : specOk o = false) : optTx o = ⟨#[]⟩ := by
  unfold optTx
  by_cases hk : 1 ≤ o.kind ∧ o.kind ≤ 10
  · rw [if_pos hk]
    by_cases hs : sameOv (plainOf o) o = true
    · rw [if_pos hs]
      by_cases hf : fieldsOf o = ⟨#[]⟩
      · rw [hf, headed_no]
      · rw [(ok_all o hk).2 ⟨hs, hf⟩] at h
        cases h
    · rw [if_neg hs]
  · rw [if_neg hk]

theorem specTx_eq (o : Ov) : specTx o = optTx o := by
  unfold specTx
  cases h : specOk o with
  | true => rw [if_pos rfl, optTx_yes o h]
  | false => rw [if_neg (by decide), optTx_no o h]

theorem specOk_eq (o : Ov) : specOk o = !decide (optTx o = ⟨#[]⟩) := by
  cases h : specOk o with
  | false => rw [optTx_no o h]; rfl
  | true =>
    have hk := specOk_kind o h
    have h2 := ((ok_all o hk).1 h).2
    rw [optTx_yes o h, decide_eq_false]
    · rfl
    · intro he
      have h3 := (ba_nil _).1 he
      rw [ByteArray.size_append] at h3
      rw [← tx_all o hk h] at h2
      exact h2 ((ba_nil _).2 (by omega))

theorem spec_optOk (o : Ov) (v : Value) (w : World) (hv : Rd w v o.ids) (hn : o.ids.length ≤ 1048576) :
    Calls Try.prog 9 #[.agg (o.cells v)] w fun e w' => e = .returned (.bool (!decide (optTx o = ⟨#[]⟩))) ∧ Below w.heap.size w w' := by
  rw [← specOk_eq]
  exact spec_ok_head o v w hv hn

theorem spec_optText (o : Ov) (v : Value) (w : World) (hv : Rd w v o.ids) (hn : o.ids.length ≤ 1048576) :
    Calls Try.prog 40 #[.agg (o.cells v)] w fun e w' => e = .returned (.string (optTx o)) ∧ Below w.heap.size w w' := by
  rw [← specTx_eq]
  exact spec_optTx o v w hv hn

theorem spec_optSize (o : Ov) (v : Value) (w : World) (hv : Rd w v o.ids) (hn : o.ids.length ≤ 1048576) :
    Calls Try.prog 12 #[.agg (o.cells v)] w fun e w' => e = .returned (.int .i64 ((optTx o).size : Int)) ∧ Below w.heap.size w w' := by
  rw [← specTx_eq]
  exact spec_optSz o v w hv hn

end Go.Proofs.Ytkpajakangaekab
