import Derived.Test.YtoeflkmhofkiaaaLstz
import Derived.Test.YtoeflkmhofkiaaaZ4
import Derived.Test.YtoeflkmhofkiaaaZ1
import Derived.Test.YtoeflkmhofkiaaaZ3
import Derived.Laws.RangeString
namespace Go.Proofs.Ytoeflkmhofkiaaa
open Go.RowKit
set_option maxRecDepth 100000

/-! The program's functions of chapter 16. -/
def kwL : List UInt8 := [104, 101, 108, 108, 111, 44, 98, 97, 99, 107, 44, 100, 111, 110, 101, 44, 106, 111, 105, 110, 44, 106, 111, 105, 110, 98, 97, 99, 107, 44, 106, 111, 105, 110, 100, 111, 110, 101, 44, 106, 111, 105, 110, 97, 99, 107, 59, 97, 100, 100, 114, 59, 101, 99, 104, 111, 59, 103, 111, 110, 101, 59, 100, 97, 116, 97, 59, 99, 97, 109, 101, 59, 114, 101, 115, 101, 116, 59]
def kwS : ByteArray := ⟨kwL.toArray⟩
/-- What is behind the word of a kind. -/
def stopGo (k : Int) : List UInt8 → Int → Int
  | [], _ => 0
  | b :: bs, c => if (b.toNat : Int) = 44 ∨ (b.toNat : Int) = 59 then (if c + 1 = k then (b.toNat : Int) else stopGo k bs (c + 1)) else stopGo k bs c
def stopK (k : Int) : Int := stopGo k kwL 0
theorem stop_low (k : Int) (h : 1 ≤ k ∧ k ≤ 6) : stopK k = 44 := by
  have : k = 1 ∨ k = 2 ∨ k = 3 ∨ k = 4 ∨ k = 5 ∨ k = 6 := by omega
  rcases this with rfl | rfl | rfl | rfl | rfl | rfl <;> decide +kernel
theorem stop_high (k : Int) (h : 7 ≤ k ∧ k ≤ 13) : stopK k = 59 := by
  have : k = 7 ∨ k = 8 ∨ k = 9 ∨ k = 10 ∨ k = 11 ∨ k = 12 ∨ k = 13 := by omega
  rcases this with rfl | rfl | rfl | rfl | rfl | rfl | rfl <;> decide +kernel
/-- How many words end there. -/
def stops : List UInt8 → Int
  | [] => 0
  | b :: bs => if (b.toNat : Int) = 44 ∨ (b.toNat : Int) = 59 then stops bs + 1 else stops bs
theorem stops_nat : ∀ bs, 0 ≤ stops bs
  | [] => Int.le_refl _
  | b :: bs => by have := stops_nat bs; unfold stops; split <;> omega
theorem stop_none (k : Int) : ∀ (bs : List UInt8) (c : Int), k ≤ c ∨ c + stops bs < k → stopGo k bs c = 0
  | [], _, _ => rfl
  | b :: bs, c, h => by
    have hn := stops_nat bs
    unfold stops at h
    unfold stopGo
    split
    · rename_i hb
      rw [if_pos hb] at h
      rw [if_neg (by omega)]
      exact stop_none k bs (c + 1) (by omega)
    · rename_i hb
      rw [if_neg hb] at h
      exact stop_none k bs c h
theorem stop_out (k : Int) (h : ¬ (1 ≤ k ∧ k ≤ 13)) : stopK k = 0 :=
  stop_none k kwL 0 (by rw [show stops kwL = 13 by decide +kernel]; omega)
theorem stop_zero (k : Int) : (stopK k != 0) = inN k 1 13 := by
  unfold inN
  by_cases h : 1 ≤ k ∧ k ≤ 13
  · rw [decide_eq_true h]
    by_cases h6 : k ≤ 6
    · rw [stop_low k ⟨h.1, h6⟩]; rfl
    · rw [stop_high k ⟨by omega, h.2⟩]; rfl
  · rw [decide_eq_false h, stop_out k h]; rfl
theorem stop_signed (k : Int) : decide (stopK k = 59) = inN k 7 13 := by
  unfold inN
  by_cases h : 7 ≤ k ∧ k ≤ 13
  · rw [decide_eq_true h, stop_high k h]; rfl
  · rw [decide_eq_false h]
    by_cases h6 : 1 ≤ k ∧ k ≤ 6
    · rw [stop_low k h6]; rfl
    · rw [stop_out k (by omega)]; rfl
theorem kw_size : kwS.size = 78 := by decide +kernel
theorem kw_ascii (i : Nat) (h : i < kwS.size) : (kwS[i]'h).toNat < 128 := by
  have : ∀ b ∈ kwL, b.toNat < 128 := by decide +kernel
  exact this _ (List.getElem_mem (l := kwL) h)
theorem kw_drop (i : Nat) (h : i < kwS.size) : kwL.drop i = (kwS[i]'h) :: kwL.drop (i + 1) := List.drop_eq_getElem_cons (l := kwL) h
theorem kw_end : kwL.drop 78 = [] := by decide +kernel

set_option linter.unusedSimpArgs false in
set_option maxRecDepth 100000 in
set_option maxHeartbeats 4000000 in
theorem impl_stopOf (k : Int) (w : World) : Calls Try.prog 56 #[.int .i64 k] w fun e w' => e = .returned (.int .i32 (stopK k)) ∧ Below w.heap.size w w' := by
  have hk : (⟨(([104, 101, 108, 108, 111, 44, 98, 97, 99, 107, 44, 100, 111, 110, 101, 44, 106, 111, 105, 110, 44, 106, 111, 105, 110, 98, 97, 99, 107, 44, 106, 111, 105, 110, 100, 111, 110, 101, 44] : List UInt8).append [106, 111, 105, 110, 97, 99, 107, 59, 97, 100, 100, 114, 59, 101, 99, 104, 111, 59, 103, 111, 110, 101, 59, 100, 97, 116, 97, 59, 99, 97, 109, 101, 59, 114, 101, 115, 101, 116, 59]).toArray⟩ : ByteArray) = kwS := rfl
  have hz := kw_size
  obtain ⟨res, hres⟩ : ∃ res, stopK k = res := ⟨_, rfl⟩
  rw [hres]
  unfold stopK at hres
  have HR := Lib.hid hres
  clear hres
  go_enter Try.func56, Try.ntmps56
  rw [hk]
  clear hk
  go_wp2_with (fail)
  go_loopw [3, 5] (fun c x wr => ∃ (pos : Nat) (n y : Int), wr = w.iter kwS pos ∧ c = .int .i64 n ∧ 0 ≤ n ∧ n ≤ (pos : Int) ∧ pos ≤ 78 ∧ stopGo k (kwL.drop pos) n = res) (fun _ _ wr => kwS.size - wr.iterPos w.heap.size)
  case atStart => exact ⟨0, 0, 0, rfl, rfl, by omega, by omega, by omega, HR.out⟩
  case round =>
    obtain ⟨pos, n, y, rfl, rfl, hn0, hn1, hp, hg⟩ := hrel
    by_cases hlt : pos < kwS.size
    · have hnx := fun ty => run_next_ascii (P := Try.prog) w kwS pos ty hlt (kw_ascii pos hlt)
      rw [kw_drop pos hlt] at hg
      generalize kwS[pos]'hlt = b at *
      unfold stopGo at hg
      generalize (b.toNat : Int) = z at *
      by_cases h44 : z = 44
      · subst h44
        rw [if_pos (Or.inl rfl)] at hg
        by_cases he : n + 1 = k
        · subst he
          rw [if_pos rfl] at hg
          subst hg
          go_wp2_with (fail)
          go_ret
          exact ⟨rfl, below_new _ _⟩
        · rw [if_neg he] at hg
          have HG := Lib.hid hg
          clear hg
          go_wp2_with (fail)
          go_roundw
          case rel => exact ⟨pos + 1, n + 1, 0, rfl, by go_num, by omega, by omega, by omega, HG.out⟩
          case measure => simp; omega
      · by_cases h59 : z = 59
        · subst h59
          rw [if_pos (Or.inr rfl)] at hg
          by_cases he : n + 1 = k
          · subst he
            rw [if_pos rfl] at hg
            subst hg
            go_wp2_with (fail)
            go_ret
            exact ⟨rfl, below_new _ _⟩
          · rw [if_neg he] at hg
            have HG := Lib.hid hg
            clear hg
            go_wp2_with (fail)
            go_roundw
            case rel => exact ⟨pos + 1, n + 1, 0, rfl, by go_num, by omega, by omega, by omega, HG.out⟩
            case measure => simp; omega
        · rw [if_neg (by omega)] at hg
          have q1 : (z != 44) = true := by simpa using h44
          have q2 : (z != 59) = true := by simpa using h59
          have HG := Lib.hid hg
          clear hg
          go_wp2_with (fail)
          go_roundw
          case rel => exact ⟨pos + 1, n, 0, rfl, rfl, by omega, by omega, by omega, HG.out⟩
          case measure => simp; omega
    · have hnx := fun ty => run_next_end (P := Try.prog) w kwS pos ty hlt
      obtain rfl : pos = 78 := by omega
      rw [kw_end] at hg
      obtain rfl : 0 = res := hg
      go_wp2_with (fail)
      go_ret
      exact ⟨rfl, below_new _ _⟩

set_option linter.unusedSimpArgs false in
set_option maxRecDepth 100000 in
set_option maxHeartbeats 4000000 in
theorem impl_onRoad (k : Int) (w : World) : Calls Try.prog 26 #[.int .i64 k] w fun e w' => e = .returned (.bool (inN k 7 13)) ∧ Below w.heap.size w w' := by
  have c1 := fun W => impl_stopOf k W
  obtain ⟨res, hres⟩ : ∃ res, inN k 7 13 = res := ⟨_, rfl⟩
  have hs := stop_signed k
  rw [hres] at hs ⊢
  clear hres
  generalize stopK k = y at *
  subst hs
  go_enter Try.func26, Try.ntmps26
  go_wp2_with (fail)
  with_reducible refine (c1 _).mono ?_
  rintro e w1 ⟨rfl, b1⟩
  go_wp2_with (fail)
  go_ret
  exact ⟨rfl, b1⟩

set_option linter.unusedSimpArgs false in
set_option maxRecDepth 100000 in
set_option maxHeartbeats 4000000 in
theorem impl_letterNumbersOk (m : Lv) (w : World) :
    Calls Try.prog 57 #[.agg #[.int .i64 m.kind, .int .i64 m.frm, .int .i64 m.to, .int .i64 m.port, .int .i64 m.key, .int .i64 m.token, .int .i64 m.nonce, .int .i64 m.give, .int .i64 m.sign, .int .i64 m.tag.kind, .int .i64 m.tag.one, .int .i64 m.tag.two, .int .i64 m.tag.a, .int .i64 m.tag.b, .int .i64 m.id, .int .i64 m.addr, .bool m.spare, .int .i64 m.pos, .string m.text]] w fun e w' => e = .returned (.bool ((numsL m).all fun n => inN n 0 1000000000)) ∧ Below w.heap.size w w' := by
  have hb := below_lv w m
  have hC := Cel.new w 41 #[.int .i64 m.kind, .int .i64 m.frm, .int .i64 m.to, .int .i64 m.port, .int .i64 m.key, .int .i64 m.token, .int .i64 m.nonce, .int .i64 m.give, .int .i64 m.sign, .int .i64 m.tag.kind, .int .i64 m.tag.one, .int .i64 m.tag.two, .int .i64 m.tag.a, .int .i64 m.tag.b, .int .i64 m.id, .int .i64 m.addr, .bool m.spare, .int .i64 m.pos, .string m.text]
  have hb2 := Below.then_ hb (below_new (w.alloc (.cells #[.int .i64 m.kind, .int .i64 m.frm, .int .i64 m.to, .int .i64 m.port, .int .i64 m.key, .int .i64 m.token, .int .i64 m.nonce, .int .i64 m.give, .int .i64 m.sign, .int .i64 m.tag.kind, .int .i64 m.tag.one, .int .i64 m.tag.two, .int .i64 m.tag.a, .int .i64 m.tag.b, .int .i64 m.id, .int .i64 m.addr, .bool m.spare, .int .i64 m.pos, .string m.text] 41)) (.cells #[.int .i64 m.frm, .int .i64 m.to, .int .i64 m.port, .int .i64 m.key, .int .i64 m.token, .int .i64 m.nonce, .int .i64 m.give, .int .i64 m.sign, .int .i64 m.id, .int .i64 m.addr, .int .i64 m.pos, .int .i64 m.tag.kind, .int .i64 m.tag.one, .int .i64 m.tag.two, .int .i64 m.tag.a, .int .i64 m.tag.b] 3))
  have hz : RdE intK ((w.alloc (.cells #[.int .i64 m.kind, .int .i64 m.frm, .int .i64 m.to, .int .i64 m.port, .int .i64 m.key, .int .i64 m.token, .int .i64 m.nonce, .int .i64 m.give, .int .i64 m.sign, .int .i64 m.tag.kind, .int .i64 m.tag.one, .int .i64 m.tag.two, .int .i64 m.tag.a, .int .i64 m.tag.b, .int .i64 m.id, .int .i64 m.addr, .bool m.spare, .int .i64 m.pos, .string m.text] 41)).alloc (.cells #[.int .i64 m.frm, .int .i64 m.to, .int .i64 m.port, .int .i64 m.key, .int .i64 m.token, .int .i64 m.nonce, .int .i64 m.give, .int .i64 m.sign, .int .i64 m.id, .int .i64 m.addr, .int .i64 m.pos, .int .i64 m.tag.kind, .int .i64 m.tag.one, .int .i64 m.tag.two, .int .i64 m.tag.a, .int .i64 m.tag.b] 3)) (.slice (some ⟨w.heap.size + 1, 0, none⟩) 16 16) (numsL m) := by
    have h := (OwnE.of_cel (K := intK) (B := 0) (C := (w.alloc (.cells #[.int .i64 m.kind, .int .i64 m.frm, .int .i64 m.to, .int .i64 m.port, .int .i64 m.key, .int .i64 m.token, .int .i64 m.nonce, .int .i64 m.give, .int .i64 m.sign, .int .i64 m.tag.kind, .int .i64 m.tag.one, .int .i64 m.tag.two, .int .i64 m.tag.a, .int .i64 m.tag.b, .int .i64 m.id, .int .i64 m.addr, .bool m.spare, .int .i64 m.pos, .string m.text] 41)).heap.size + 1) (xs := numsL m) (Cel.new (w.alloc (.cells #[.int .i64 m.kind, .int .i64 m.frm, .int .i64 m.to, .int .i64 m.port, .int .i64 m.key, .int .i64 m.token, .int .i64 m.nonce, .int .i64 m.give, .int .i64 m.sign, .int .i64 m.tag.kind, .int .i64 m.tag.one, .int .i64 m.tag.two, .int .i64 m.tag.a, .int .i64 m.tag.b, .int .i64 m.id, .int .i64 m.addr, .bool m.spare, .int .i64 m.pos, .string m.text] 41)) 3 #[.int .i64 m.frm, .int .i64 m.to, .int .i64 m.port, .int .i64 m.key, .int .i64 m.token, .int .i64 m.nonce, .int .i64 m.give, .int .i64 m.sign, .int .i64 m.id, .int .i64 m.addr, .int .i64 m.pos, .int .i64 m.tag.kind, .int .i64 m.tag.one, .int .i64 m.tag.two, .int .i64 m.tag.a, .int .i64 m.tag.b]) (Nat.zero_le _) (Nat.lt_succ_self _) (by simp [maxLen, numsL])).rd
    rw [World.size_alloc] at h
    exact h
  have cN := impl_numbersOk _ _ _ hz (by show 16 ≤ 1048577; omega)
  obtain ⟨res, hres⟩ : ∃ res, ((numsL m).all fun n => inN n 0 1000000000) = res := ⟨_, rfl⟩
  rw [show ((numsL m).all fun n => decide ((0 : Int) ≤ n ∧ n ≤ 1000000000)) = res from hres] at cN
  rw [hres]
  clear hres
  obtain ⟨k0, k1, k2, k3, k4, k5, k6, k7, k8, k9, k10, k11, k12, k13, k14, k15, k16, k17, k18⟩ := cel19lv hC
  have HB := Lib.hid hb2
  clear hb hC hb2 hz
  go_enter Try.func57, Try.ntmps57
  go_wp2_with (fail)
  clear k0 k1 k2 k3 k4 k5 k6 k7 k8 k9 k10 k11 k12 k13 k14 k15 k16 k17 k18
  with_reducible refine cN.mono ?_
  rintro e w1 ⟨rfl, rfl⟩
  clear cN
  go_wp2_with (fail)
  go_ret
  exact ⟨rfl, HB.out⟩

section
attribute [-go_sem] loadCells loadCellsFrom
set_option linter.unusedSimpArgs false in
set_option maxRecDepth 100000 in
set_option maxHeartbeats 4000000 in
theorem impl_letterOk (m : Lv) (w : World) (hs : m.text.size ≤ 9223372036854775807) :
    Calls Try.prog 24 #[.agg (lvC m)] w fun e w' => e = .returned (.bool (okL m)) ∧ Below w.heap.size w w' := by
  have hb := below_new w (.cells (lvC m) 41)
  have hC := Cel.new w 41 (lvC m)
  have c1 := fun W => impl_stopOf m.kind W
  have c2 := fun W => impl_letterNumbersOk m W
  rw [← lvC_eq] at c2
  have HK := Lib.hid (show ∀ V, Below (w.heap.size + 1) (w.alloc (.cells (lvC m) 41)) V → Below w.heap.size w V ∧ V.cell? ⟨w.heap.size, 0, none⟩ = some (.int .i64 m.kind) ∧ V.cell? ⟨w.heap.size, 18, none⟩ = some (.string m.text) ∧ (loadCells ⟨w.heap.size, 0, none⟩ 19).run Try.prog V = .ok (lvC m) V from fun V h => by
    have h' := hC.kept (by rw [World.size_alloc]; exact h)
    refine ⟨Below.then_ hb (by rw [World.size_alloc]; exact h), (h'.cell 0).trans (by rw [lvC_eq]; rfl), (h'.cell 18).trans (by rw [lvC_eq]; rfl), ?_⟩
    have hl := run_loadCells_list (P := Try.prog) V ⟨w.heap.size, 0, none⟩ (lvC m).toList (fun j v hv => by
      have hadd : (⟨w.heap.size, 0, none⟩ : Addr).add j = ⟨w.heap.size, j, none⟩ := by unfold Addr.add; split <;> simp_all
      rw [hadd, cell_of_row V w.heap.size j (lvC m) 41 (0, 0) h']
      simpa using hv)
    rw [Array.length_toList, Array.toArray_toList, lvC_size] at hl
    exact hl)
  have H0 := Lib.hid (show Below (w.heap.size + 1) (w.alloc (.cells (lvC m) 41)) (w.alloc (.cells (lvC m) 41)) from Below.refl _ _)
  obtain ⟨-, k0, -, -⟩ := HK.out _ H0.out
  obtain ⟨W0, hW0⟩ : ∃ W0, w.alloc (.cells (lvC m) 41) = W0 := ⟨_, rfl⟩
  rw [hW0] at HK H0 k0
  have hsz : W0.heap.size = w.heap.size + 1 := by rw [← hW0, World.size_alloc]
  have HW := Lib.hid (And.intro hW0 hsz)
  clear hb hC hW0 hsz
  obtain ⟨res, hres⟩ : ∃ res, okL m = res := ⟨_, rfl⟩
  rw [hres]
  unfold okL at hres
  rw [← stop_zero] at hres
  generalize stopK m.kind = y at *
  generalize ((numsL m).all fun n => inN n 0 1000000000) = nb at *
  go_enter Try.func24, Try.ntmps24
  go_upto_region 1 with (fail)
  rw [HW.out.1]
  by_cases hy : y = 0
  · subst hy
    obtain rfl : false = res := by rw [← hres]; rfl
    clear hres
    go_wp2_with (fail)
    with_reducible refine (c1 _).mono ?_
    rintro e w1 ⟨rfl, b1⟩
    have HF := Lib.hid (HK.out _ (by rw [← HW.out.2]; exact b1)).1
    clear b1
    go_wp2_with (fail)
    go_ret
    exact ⟨rfl, HF.out⟩
  · have qy : (y != 0) = true := by simpa using hy
    rw [qy, Bool.true_and] at hres
    have HR := Lib.hid hres
    clear hres
    go_wp2_with (fail)
    with_reducible refine (c1 _).mono ?_
    rintro e w1 ⟨rfl, b1⟩
    have hb1 : Below (w.heap.size + 1) W0 w1 := by rw [← HW.out.2]; exact b1
    have HB1 := Lib.hid hb1
    obtain ⟨-, -, -, hld⟩ := HK.out _ hb1
    clear b1 hb1 k0 c1
    go_wp2_with (fail)
    with_reducible refine (c2 _).mono ?_
    rintro e w2 ⟨rfl, b2⟩
    have hb2 : Below (w.heap.size + 1) W0 w2 := HB1.out.trans (b2.mono (by have := HB1.out.size; rw [HW.out.2] at this; exact this))
    obtain ⟨hF, -, k18, -⟩ := HK.out _ hb2
    have HF := Lib.hid hF
    clear b2 hb2 hF hld c2
    cases nb with
    | false =>
      obtain rfl : false = res := by rw [← HR.out]; simp
      clear k18
      go_wp2_with (fail)
      go_ret
      exact ⟨rfl, HF.out⟩
    | true =>
      obtain rfl : decide ((m.text.size : Int) ≤ 20) = res := by
        rw [← HR.out, Bool.and_true]
        exact decide_eq_decide.2 (by omega)
      go_wp2_with (fail)
      go_ret
      exact ⟨rfl, HF.out⟩
end

set_option linter.unusedSimpArgs false in
set_option maxRecDepth 100000 in
set_option maxHeartbeats 4000000 in
theorem impl_roadOf0 (m : Lv) (w : World) :
    Calls Try.prog 22 #[.agg #[.int .i64 m.kind, .int .i64 m.frm, .int .i64 m.to, .int .i64 m.port, .int .i64 m.key, .int .i64 m.token, .int .i64 m.nonce, .int .i64 m.give, .int .i64 m.sign, .int .i64 m.tag.kind, .int .i64 m.tag.one, .int .i64 m.tag.two, .int .i64 m.tag.a, .int .i64 m.tag.b, .int .i64 m.id, .int .i64 m.addr, .bool m.spare, .int .i64 m.pos, .string m.text]] w fun e w' => e = .returned (.agg #[.int .i64 m.to, .int .i64 m.frm, .int .i64 m.port]) ∧ Below w.heap.size w w' := by
  have hb1 := below_lv w m
  have hC := (Cel.new w 41 #[.int .i64 m.kind, .int .i64 m.frm, .int .i64 m.to, .int .i64 m.port, .int .i64 m.key, .int .i64 m.token, .int .i64 m.nonce, .int .i64 m.give, .int .i64 m.sign, .int .i64 m.tag.kind, .int .i64 m.tag.one, .int .i64 m.tag.two, .int .i64 m.tag.a, .int .i64 m.tag.b, .int .i64 m.id, .int .i64 m.addr, .bool m.spare, .int .i64 m.pos, .string m.text]).alloc (.cells #[.int .i64 0, .int .i64 0, .int .i64 0] 26)
  have hD := Cel.new (w.alloc (.cells #[.int .i64 m.kind, .int .i64 m.frm, .int .i64 m.to, .int .i64 m.port, .int .i64 m.key, .int .i64 m.token, .int .i64 m.nonce, .int .i64 m.give, .int .i64 m.sign, .int .i64 m.tag.kind, .int .i64 m.tag.one, .int .i64 m.tag.two, .int .i64 m.tag.a, .int .i64 m.tag.b, .int .i64 m.id, .int .i64 m.addr, .bool m.spare, .int .i64 m.pos, .string m.text] 41)) 26 #[.int .i64 0, .int .i64 0, .int .i64 0]
  have hb2 := Below.then_ hb1 (below_new (w.alloc (.cells #[.int .i64 m.kind, .int .i64 m.frm, .int .i64 m.to, .int .i64 m.port, .int .i64 m.key, .int .i64 m.token, .int .i64 m.nonce, .int .i64 m.give, .int .i64 m.sign, .int .i64 m.tag.kind, .int .i64 m.tag.one, .int .i64 m.tag.two, .int .i64 m.tag.a, .int .i64 m.tag.b, .int .i64 m.id, .int .i64 m.addr, .bool m.spare, .int .i64 m.pos, .string m.text] 41)) (.cells #[.int .i64 0, .int .i64 0, .int .i64 0] 26))
  rw [World.size_alloc] at hD
  obtain ⟨W0, hW0⟩ : ∃ W0, (w.alloc (.cells #[.int .i64 m.kind, .int .i64 m.frm, .int .i64 m.to, .int .i64 m.port, .int .i64 m.key, .int .i64 m.token, .int .i64 m.nonce, .int .i64 m.give, .int .i64 m.sign, .int .i64 m.tag.kind, .int .i64 m.tag.one, .int .i64 m.tag.two, .int .i64 m.tag.a, .int .i64 m.tag.b, .int .i64 m.id, .int .i64 m.addr, .bool m.spare, .int .i64 m.pos, .string m.text] 41)).alloc (.cells #[.int .i64 0, .int .i64 0, .int .i64 0] 26) = W0 := ⟨_, rfl⟩
  rw [hW0] at hC hD hb2
  have HW := Lib.hid hW0
  have k1 : W0.cell? ⟨w.heap.size, 1, none⟩ = some (.int .i64 m.frm) := hC.cell 1
  have k2 : W0.cell? ⟨w.heap.size, 2, none⟩ = some (.int .i64 m.to) := hC.cell 2
  have k3 : W0.cell? ⟨w.heap.size, 3, none⟩ = some (.int .i64 m.port) := hC.cell 3
  obtain ⟨q0, q1, q2⟩ := cel3r hD
  have f0 := hD.frozen 0
  have f1 := hD.frozen 1
  have f2 := hD.frozen 2
  have HF := Lib.hid (And.intro (((hD.set 0 (.int .i64 m.to)).set 1 (.int .i64 m.frm)).set 2 (.int .i64 m.port)) (hb2.trans (esetC_below (w.heap.size + 1) w.heap.size (Nat.le_succ _) 0 [.int .i64 m.to, .int .i64 m.frm, .int .i64 m.port] W0)))
  clear hb1 hC hD hb2 hW0
  go_enter Try.func22, Try.ntmps22
  go_upto_region 1 with (fail)
  rw [HW.out]
  clear HW
  go_wp2_with (fail)
  refine bodyPost_ret (Cel.result HF.out.1 rfl _ rfl Try.underlying26 rfl (by show _ = some 3; kernel_rfl)) rfl ⟨rfl, HF.out.2⟩

theorem impl_roadOf (m : Lv) (w : World) :
    Calls Try.prog 22 #[.agg (lvC m)] w fun e w' => e = .returned (.agg #[.int .i64 m.to, .int .i64 m.frm, .int .i64 m.port]) ∧ Below w.heap.size w w' := by
  rw [lvC_eq]; exact impl_roadOf0 m w

theorem lv_fields {W : World} {g : Nat} {t : TypeId} (m : Lv) (h : Cel W g t (lvC m)) : W.cell? ⟨g, 1, none⟩ = some (.int .i64 m.frm) ∧ W.cell? ⟨g, 2, none⟩ = some (.int .i64 m.to) ∧ W.cell? ⟨g, 3, none⟩ = some (.int .i64 m.port) ∧ W.cell? ⟨g, 18, none⟩ = some (.string m.text) :=
  ⟨(h.cell 1).trans (by rw [lvC_eq]; rfl), (h.cell 2).trans (by rw [lvC_eq]; rfl), (h.cell 3).trans (by rw [lvC_eq]; rfl), (h.cell 18).trans (by rw [lvC_eq]; rfl)⟩
/-- While a message is placed on a path. -/
structure BT (w W : World) (r : Rv) (L : Lv) : Prop where
  c0 : Cel W w.heap.size 26 #[.int .i64 r.own, .int .i64 r.far, .int .i64 r.port]
  c1 : Cel W (w.heap.size + 1) 41 (lvC L)
  c2 : Cel W (w.heap.size + 2) 41 #[.int .i64 0, .int .i64 0, .int .i64 0, .int .i64 0, .int .i64 0, .int .i64 0, .int .i64 0, .int .i64 0, .int .i64 0, .int .i64 0, .int .i64 0, .int .i64 0, .int .i64 0, .int .i64 0, .int .i64 0, .int .i64 0, .bool false, .int .i64 0, .string ⟨#[]⟩]
  b : Below w.heap.size w W
  l : w.heap.size + 3 ≤ W.heap.size
theorem BT.set {w W : World} {r : Rv} {L : Lv} (h : BT w W r L) (i : Nat) (x : Value) (L2 : Lv) (hL : (lvC L).setIfInBounds i x = lvC L2) : BT w (W.setCell ⟨w.heap.size + 1, i, none⟩ x) r L2 :=
  ⟨h.c0.other ⟨w.heap.size + 1, i, none⟩ x (by simp), hL ▸ h.c1.set i x, h.c2.other ⟨w.heap.size + 1, i, none⟩ x (by simp), h.b.setCell (p := ⟨w.heap.size + 1, i, none⟩) (by simp) x, by have := h.l; simpa using this⟩
theorem BT.kept {w W W' : World} {r : Rv} {L : Lv} (h : BT w W r L) (hb : Below W.heap.size W W') : BT w W' r L :=
  ⟨h.c0.kept hb, Cel.kept (t := 41) h.c1 hb, h.c2.kept hb, Below.then_ h.b hb, Nat.le_trans h.l hb.size⟩

set_option linter.unusedSimpArgs false in
set_option maxRecDepth 100000 in
set_option maxHeartbeats 4000000 in
theorem impl_between (r : Rv) (m : Lv) (w : World) (hs : m.text.size ≤ 1048576) :
    Calls Try.prog 21 #[.agg #[.int .i64 r.own, .int .i64 r.far, .int .i64 r.port], .agg (lvC m)] w fun e w' => e = .returned (.agg (lvC (betweenL r m))) ∧ Below w.heap.size w w' := by
  have hA0 := ((Cel.new w 26 #[.int .i64 r.own, .int .i64 r.far, .int .i64 r.port]).alloc (.cells (lvC m) 41)).alloc (.cells #[.int .i64 0, .int .i64 0, .int .i64 0, .int .i64 0, .int .i64 0, .int .i64 0, .int .i64 0, .int .i64 0, .int .i64 0, .int .i64 0, .int .i64 0, .int .i64 0, .int .i64 0, .int .i64 0, .int .i64 0, .int .i64 0, .bool false, .int .i64 0, .string ⟨#[]⟩] 41)
  have hX0 := (Cel.new (w.alloc (.cells #[.int .i64 r.own, .int .i64 r.far, .int .i64 r.port] 26)) 41 (lvC m)).alloc (.cells #[.int .i64 0, .int .i64 0, .int .i64 0, .int .i64 0, .int .i64 0, .int .i64 0, .int .i64 0, .int .i64 0, .int .i64 0, .int .i64 0, .int .i64 0, .int .i64 0, .int .i64 0, .int .i64 0, .int .i64 0, .int .i64 0, .bool false, .int .i64 0, .string ⟨#[]⟩] 41)
  have hZ0 := Cel.new ((w.alloc (.cells #[.int .i64 r.own, .int .i64 r.far, .int .i64 r.port] 26)).alloc (.cells (lvC m) 41)) 41 #[.int .i64 0, .int .i64 0, .int .i64 0, .int .i64 0, .int .i64 0, .int .i64 0, .int .i64 0, .int .i64 0, .int .i64 0, .int .i64 0, .int .i64 0, .int .i64 0, .int .i64 0, .int .i64 0, .int .i64 0, .int .i64 0, .bool false, .int .i64 0, .string ⟨#[]⟩]
  have hB0 : Below w.heap.size w (((w.alloc (.cells #[.int .i64 r.own, .int .i64 r.far, .int .i64 r.port] 26)).alloc (.cells (lvC m) 41)).alloc (.cells #[.int .i64 0, .int .i64 0, .int .i64 0, .int .i64 0, .int .i64 0, .int .i64 0, .int .i64 0, .int .i64 0, .int .i64 0, .int .i64 0, .int .i64 0, .int .i64 0, .int .i64 0, .int .i64 0, .int .i64 0, .int .i64 0, .bool false, .int .i64 0, .string ⟨#[]⟩] 41)) := (((Below.refl _ _).alloc (Nat.le_refl _) _).alloc (by simp) _).alloc (by simp; omega) _
  simp only [World.size_alloc] at hX0 hZ0
  obtain ⟨W0, hW0⟩ : ∃ W0, (((w.alloc (.cells #[.int .i64 r.own, .int .i64 r.far, .int .i64 r.port] 26)).alloc (.cells (lvC m) 41)).alloc (.cells #[.int .i64 0, .int .i64 0, .int .i64 0, .int .i64 0, .int .i64 0, .int .i64 0, .int .i64 0, .int .i64 0, .int .i64 0, .int .i64 0, .int .i64 0, .int .i64 0, .int .i64 0, .int .i64 0, .int .i64 0, .int .i64 0, .bool false, .int .i64 0, .string ⟨#[]⟩] 41)) = W0 := ⟨_, rfl⟩
  have hl0 : w.heap.size + 3 ≤ W0.heap.size := by rw [← hW0]; simp
  rw [hW0] at hA0 hX0 hZ0 hB0
  have HW := Lib.hid hW0
  have H0 := Lib.hid (show BT w W0 r m from ⟨hA0, hX0, hZ0, hB0, hl0⟩)
  have cl := fun W => clone_call m.text W (by omega)
  clear hA0 hX0 hZ0 hB0 hW0 hl0
  go_enter Try.func21, Try.ntmps21
  go_upto_region 1 with (fail)
  rw [HW.out]
  clear HW
  have H1 := Lib.hid (show BT w W0.drew r m from H0.out.kept ((Below.refl _ _).drew))
  clear H0
  have hS := H1.out.c0
  refine wp_region_held_drew (S := fun W => Cel W w.heap.size 26 #[.int .i64 r.own, .int .i64 r.far, .int .i64 r.port]) (by kernel_rfl) hS (fun hHeld => ?_)
  clear hS
  generalize W0.drew = wd at *
  refine take_yes (i := 0) (oi := { dst := some 5, op := Op.fieldAddr 26 (Operand.tmp 2) 0, type := 0, pos := "l16_letters.go:56", after := #[], guard := none }) (v := .pointer (some ⟨w.heap.size, 0, none⟩)) rfl (by kernel_rfl) (by kernel_rfl) (by kernel_rfl) (fun _ _ _ h => h) (by rfl) (fun w hSw => by (try dsimp only at hSw); go_simp) (by assumption) ?_
  try simp only [Act.put, List.setIfInBounds_toArray, List.set_cons_zero, List.set_cons_succ]
  refine take_yes (i := 1) (oi := { dst := some 6, op := Op.load 3 (Operand.tmp 5), type := 3, pos := "l16_letters.go:56", after := #[{ on := 0, ground := Ground.data }], guard := none }) (v := .int .i64 r.own) rfl (by kernel_rfl) (by kernel_rfl) (by kernel_rfl) (fun _ _ _ h => h) (by rfl) (fun w hSw => by (try dsimp only at hSw); obtain ⟨c0, c1, c2⟩ := cel3r hSw; go_simp) (by assumption) ?_
  try simp only [Act.put, List.setIfInBounds_toArray, List.set_cons_zero, List.set_cons_succ]
  refine take_yes (i := 2) (oi := { dst := some 7, op := Op.fieldAddr 26 (Operand.tmp 2) 1, type := 0, pos := "l16_letters.go:56", after := #[{ on := 7, ground := Ground.gcOnly Departure.lateStores }], guard := none }) (v := .pointer (some ⟨w.heap.size, 1, none⟩)) rfl (by kernel_rfl) (by kernel_rfl) (by kernel_rfl) (fun _ _ _ h => h) (by rfl) (fun w hSw => by (try dsimp only at hSw); go_simp) (by assumption) ?_
  try simp only [Act.put, List.setIfInBounds_toArray, List.set_cons_zero, List.set_cons_succ]
  refine take_yes (i := 3) (oi := { dst := some 8, op := Op.load 3 (Operand.tmp 7), type := 3, pos := "l16_letters.go:56", after := #[{ on := 2, ground := Ground.data }, { on := 7, ground := Ground.gcOnly Departure.lateStores }], guard := none }) (v := .int .i64 r.far) rfl (by kernel_rfl) (by kernel_rfl) (by kernel_rfl) (fun _ _ _ h => h) (by rfl) (fun w hSw => by (try dsimp only at hSw); obtain ⟨c0, c1, c2⟩ := cel3r hSw; go_simp) (by assumption) ?_
  try simp only [Act.put, List.setIfInBounds_toArray, List.set_cons_zero, List.set_cons_succ]
  refine take_yes (i := 4) (oi := { dst := some 9, op := Op.fieldAddr 26 (Operand.tmp 2) 2, type := 0, pos := "l16_letters.go:56", after := #[{ on := 9, ground := Ground.gcOnly Departure.lateStores }], guard := none }) (v := .pointer (some ⟨w.heap.size, 2, none⟩)) rfl (by kernel_rfl) (by kernel_rfl) (by kernel_rfl) (fun _ _ _ h => h) (by rfl) (fun w hSw => by (try dsimp only at hSw); go_simp) (by assumption) ?_
  try simp only [Act.put, List.setIfInBounds_toArray, List.set_cons_zero, List.set_cons_succ]
  refine take_yes (i := 5) (oi := { dst := some 10, op := Op.load 3 (Operand.tmp 9), type := 3, pos := "l16_letters.go:56", after := #[{ on := 4, ground := Ground.data }, { on := 9, ground := Ground.gcOnly Departure.lateStores }], guard := none }) (v := .int .i64 r.port) rfl (by kernel_rfl) (by kernel_rfl) (by kernel_rfl) (fun _ _ _ h => h) (by rfl) (fun w hSw => by (try dsimp only at hSw); obtain ⟨c0, c1, c2⟩ := cel3r hSw; go_simp) (by assumption) ?_
  try simp only [Act.put, List.setIfInBounds_toArray, List.set_cons_zero, List.set_cons_succ]
  refine take_yes (i := 6) (oi := { dst := some 11, op := Op.fieldAddr 41 (Operand.tmp 3) 1, type := 0, pos := "l16_letters.go:56", after := #[{ on := 0, ground := Ground.phase }, { on := 1, ground := Ground.phase }, { on := 2, ground := Ground.textOnly Departure.lateStores }, { on := 3, ground := Ground.textOnly Departure.lateStores }, { on := 4, ground := Ground.textOnly Departure.lateStores }, { on := 5, ground := Ground.textOnly Departure.lateStores }], guard := none }) (v := .pointer (some ⟨w.heap.size + 1, 1, none⟩)) rfl (by kernel_rfl) (by kernel_rfl) (by kernel_rfl) (fun _ _ _ h => h) (by rfl) (fun w hSw => by (try dsimp only at hSw); go_simp) (by assumption) ?_
  try simp only [Act.put, List.setIfInBounds_toArray, List.set_cons_zero, List.set_cons_succ]
  refine wpAnyH_ready (rs := [7]) (by kernel_rfl) (by simp) ?_
  refine AllReadyH.cons (o := { dst := none, op := Op.store 3 (Operand.tmp 11) (Operand.tmp 6), type := 0, pos := "l16_letters.go:56", after := #[{ on := 6, ground := Ground.data }, { on := 1, ground := Ground.data }, { on := 0, ground := Ground.phase }, { on := 1, ground := Ground.phase }, { on := 2, ground := Ground.textOnly Departure.lateStores }, { on := 3, ground := Ground.textOnly Departure.lateStores }, { on := 4, ground := Ground.textOnly Departure.lateStores }, { on := 5, ground := Ground.textOnly Departure.lateStores }], guard := none }) rfl (fun K hK => ?_) AllReadyH.nil
  obtain ⟨q1, q2, q3, q18⟩ := lv_fields _ H1.out.c1
  have f1 := H1.out.c1.frozen 1
  go_simp
  have HB1 := Lib.hid (H1.out.set 1 (.int .i64 r.own) ({ m with frm := r.own } : Lv) (lvC_frm _ _))
  clear H1 q1 q2 q3 q18 f1
  generalize wd.setCell ⟨w.heap.size + 1, 1, none⟩ (.int .i64 r.own) = wB2 at *
  refine hK.out _ _ HB1.out.c0 (fun hHeldN => ?_)
  clear hK K hHeld
  have hHeld := hHeldN
  clear hHeldN
  try simp only [Act.put, List.setIfInBounds_toArray, List.set_cons_zero, List.set_cons_succ]
  refine take_yes (i := 8) (oi := { dst := some 12, op := Op.fieldAddr 41 (Operand.tmp 3) 2, type := 0, pos := "l16_letters.go:56", after := #[{ on := 0, ground := Ground.phase }, { on := 1, ground := Ground.phase }, { on := 2, ground := Ground.phase }, { on := 3, ground := Ground.phase }, { on := 4, ground := Ground.textOnly Departure.lateStores }, { on := 5, ground := Ground.textOnly Departure.lateStores }, { on := 6, ground := Ground.phase }, { on := 7, ground := Ground.phase }], guard := none }) (v := .pointer (some ⟨w.heap.size + 1, 2, none⟩)) rfl (by kernel_rfl) (by kernel_rfl) (by kernel_rfl) (fun _ _ _ h => h) (by rfl) (fun w hSw => by (try dsimp only at hSw); go_simp) (by assumption) ?_
  try simp only [Act.put, List.setIfInBounds_toArray, List.set_cons_zero, List.set_cons_succ]
  refine wpAnyH_ready (rs := [9]) (by kernel_rfl) (by simp) ?_
  refine AllReadyH.cons (o := { dst := none, op := Op.store 3 (Operand.tmp 12) (Operand.tmp 8), type := 0, pos := "l16_letters.go:56", after := #[{ on := 8, ground := Ground.data }, { on := 3, ground := Ground.data }, { on := 7, ground := Ground.chain }, { on := 0, ground := Ground.phase }, { on := 1, ground := Ground.phase }, { on := 2, ground := Ground.phase }, { on := 3, ground := Ground.phase }, { on := 4, ground := Ground.textOnly Departure.lateStores }, { on := 5, ground := Ground.textOnly Departure.lateStores }, { on := 6, ground := Ground.phase }, { on := 7, ground := Ground.phase }], guard := none }) rfl (fun K hK => ?_) AllReadyH.nil
  obtain ⟨q1, q2, q3, q18⟩ := lv_fields _ HB1.out.c1
  have f1 := HB1.out.c1.frozen 2
  go_simp
  have HB3 := Lib.hid (HB1.out.set 2 (.int .i64 r.far) ({ ({ m with frm := r.own } : Lv) with to := r.far } : Lv) (lvC_to _ _))
  clear HB1 q1 q2 q3 q18 f1
  generalize wB2.setCell ⟨w.heap.size + 1, 2, none⟩ (.int .i64 r.far) = wB4 at *
  refine hK.out _ _ HB3.out.c0 (fun hHeldN => ?_)
  clear hK K hHeld
  have hHeld := hHeldN
  clear hHeldN
  try simp only [Act.put, List.setIfInBounds_toArray, List.set_cons_zero, List.set_cons_succ]
  refine take_yes (i := 10) (oi := { dst := some 13, op := Op.fieldAddr 41 (Operand.tmp 3) 3, type := 0, pos := "l16_letters.go:56", after := #[{ on := 0, ground := Ground.phase }, { on := 1, ground := Ground.phase }, { on := 2, ground := Ground.phase }, { on := 3, ground := Ground.phase }, { on := 4, ground := Ground.phase }, { on := 5, ground := Ground.phase }, { on := 6, ground := Ground.phase }, { on := 7, ground := Ground.phase }, { on := 8, ground := Ground.phase }, { on := 9, ground := Ground.phase }], guard := none }) (v := .pointer (some ⟨w.heap.size + 1, 3, none⟩)) rfl (by kernel_rfl) (by kernel_rfl) (by kernel_rfl) (fun _ _ _ h => h) (by rfl) (fun w hSw => by (try dsimp only at hSw); go_simp) (by assumption) ?_
  try simp only [Act.put, List.setIfInBounds_toArray, List.set_cons_zero, List.set_cons_succ]
  refine wpAnyH_ready (rs := [11]) (by kernel_rfl) (by simp) ?_
  refine AllReadyH.cons (o := { dst := none, op := Op.store 3 (Operand.tmp 13) (Operand.tmp 10), type := 0, pos := "l16_letters.go:56", after := #[{ on := 10, ground := Ground.data }, { on := 5, ground := Ground.data }, { on := 9, ground := Ground.chain }, { on := 0, ground := Ground.phase }, { on := 1, ground := Ground.phase }, { on := 2, ground := Ground.phase }, { on := 3, ground := Ground.phase }, { on := 4, ground := Ground.phase }, { on := 5, ground := Ground.phase }, { on := 6, ground := Ground.phase }, { on := 7, ground := Ground.phase }, { on := 8, ground := Ground.phase }, { on := 9, ground := Ground.phase }], guard := none }) rfl (fun K hK => ?_) AllReadyH.nil
  obtain ⟨q1, q2, q3, q18⟩ := lv_fields _ HB3.out.c1
  have f1 := HB3.out.c1.frozen 3
  go_simp
  have HB5 := Lib.hid (HB3.out.set 3 (.int .i64 r.port) ({ ({ ({ m with frm := r.own } : Lv) with to := r.far } : Lv) with port := r.port } : Lv) (lvC_port _ _))
  clear HB3 q1 q2 q3 q18 f1
  generalize wB4.setCell ⟨w.heap.size + 1, 3, none⟩ (.int .i64 r.port) = wB6 at *
  refine hK.out _ _ HB5.out.c0 (fun hHeldN => ?_)
  clear hK K hHeld
  have hHeld := hHeldN
  clear hHeldN
  try simp only [Act.put, List.setIfInBounds_toArray, List.set_cons_zero, List.set_cons_succ]
  refine wpAnyH_done (by kernel_rfl) ?_ _
  have hHeld2 := hHeld
  clear hHeld
  clear hHeld2
  have H2 := Lib.hid (show BT w wB6 r (betweenL r m) from HB5.out)
  clear HB5
  have k18 : (wB6).cell? ⟨w.heap.size + 1, 18, none⟩ = some (.string m.text) := (lv_fields _ H2.out.c1).2.2.2
  go_wp2_with (fail)
  with_reducible refine (cl _).mono ?_
  rintro e w5 ⟨rfl, b5⟩
  have H3 := Lib.hid (H2.out.kept b5)
  clear H2 b5 k18 cl
  have k18 : w5.cell? ⟨w.heap.size + 1, 18, none⟩ = some (.string m.text) := (lv_fields _ H3.out.c1).2.2.2
  have f18 := H3.out.c1.frozen 18
  have H4 := Lib.hid (H3.out.set 18 (.string m.text) (betweenL r m) (lvC_text _ _))
  clear H3
  go_upto_region 3 with (fail)
  clear k18 f18
  generalize w5.setCell ⟨w.heap.size + 1, 18, none⟩ (.string m.text) = w6 at *
  have hcell : w6.heap[w.heap.size + 1]? = some (.cells (lvC (betweenL r m)) 41 (0, 0)) := H4.out.c1
  have hsz := lvC_info (betweenL r m)
  have hst := lv_store (betweenL r m) H4.out.c2 rfl
  have hn9 := lvC_size (betweenL r m)
  have HF := Lib.hid (And.intro (Cel.row (t := 41) H4.out.c2 (lvC (betweenL r m))) (row_belowlv H4.out.b (show w.heap.size ≤ w.heap.size + 2 by omega) (lvC (betweenL r m))))
  clear H4
  go_wp2_with (first | (with_reducible refine wpList_load_row rfl 41 _ rfl _ rfl 41 _ (0, 0) _ hcell Try.underlying41 rfl hsz ?_))
  refine bodyPost_ret (Cel.result HF.out.1 rfl _ rfl Try.underlying41 rfl hsz) rfl ⟨rfl, HF.out.2⟩
end Go.Proofs.Ytoeflkmhofkiaaa

