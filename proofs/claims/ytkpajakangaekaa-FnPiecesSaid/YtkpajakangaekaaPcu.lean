import Derived.Test.YtkpajakangaekaaPcl
namespace Go.Proofs.Ytkpajakangaekaa

/-- A piece that is one of the text s. -/
def RightP (s : ByteArray) (y : Pc) : Prop := 0 ≤ y.pos ∧ y.fin ≤ (s.size : Int) ∧ ∀ i b, y.byte i = some b → (Pc.mk 0 s).byte i = some b
/-- .. of two bytes or more, or up to the text's end, or at e. -/
def RowP (s : ByteArray) (e : Int) (y : Pc) : Prop := RightP s y ∧ e ≤ y.pos ∧ (2 ≤ y.text.size ∨ y.fin = (s.size : Int) ∨ y.pos = e)
def Wide (s : ByteArray) (y : Pc) : Prop := 2 ≤ y.text.size ∨ y.fin = (s.size : Int)
def covP (y : Pc) (i : Int) : Prop := y.pos ≤ i ∧ i < y.fin
def cov (p : Ps) (i : Int) : Prop := (0 ≤ i ∧ i < nextP p) ∨ ∃ y ∈ p.list, covP y i

theorem join_right {s : ByteArray} {y x : Pc} (hy : RightP s y) (hx : RightP s x) (hm : meets y x) : RightP s (joinP y x) := by
  refine ⟨?_, ?_, fun i b h => ?_⟩
  · rw [join_pos]; have := hy.1; have := hx.1; omega
  · rw [join_fin _ _ hm]; have := hy.2.1; have := hx.2.1; omega
  · rw [join_byte _ _ hm] at h
    cases hb : y.byte i with
    | some c => rw [hb] at h; exact (hy.2.2 i c hb).trans h
    | none => rw [hb] at h; exact hx.2.2 i b h

theorem join_row {s : ByteArray} {e : Int} {y x : Pc} (hy : RowP s e y) (hx : RowP s e x) (hm : meets y x) : RowP s e (joinP y x) := by
  have h1 := join_pos y x
  have h2 := join_fin y x hm
  refine ⟨join_right hy.1 hx.1 hm, ?_, ?_⟩
  · rw [h1]; have := hy.2.1; have := hx.2.1; omega
  · have q1 := hy.2.1
    have q2 := hx.2.1
    have q3 := hy.1.2.1
    have q4 := hx.1.2.1
    have q5 := hx.2.2
    have q6 : (joinP y x).fin = (joinP y x).pos + ((joinP y x).text.size : Int) := rfl
    have q7 : x.fin = x.pos + (x.text.size : Int) := rfl
    omega

theorem join_cov {y x : Pc} (hm : meets y x) (i : Int) : covP (joinP y x) i ↔ covP y i ∨ covP x i := by
  unfold covP
  rw [join_pos, join_fin _ _ hm]
  unfold meets at hm
  have : ∀ p : Pc, p.pos ≤ p.fin := fun p => by unfold Pc.fin; omega
  have a := this y
  have b := this x
  omega

theorem putS_row (s : ByteArray) (e1 : Int) (l : List Pc) : ∀ (e : Int) (x : Pc), okP e l = true → e < x.pos → x.text.size ≠ 0 → x.pos ≤ 2000000000 → RowP s e1 x → (∀ y ∈ l, RowP s e1 y) →
    okP e (putS x false l) = true ∧ (∀ z ∈ putS x false l, RowP s e1 z) ∧ ∀ i, (∃ z ∈ putS x false l, covP z i) ↔ covP x i ∨ ∃ y ∈ l, covP y i := by
  induction l with
  | nil =>
    intro e x _ h1 h2 h3 h4 _
    have e0 : putS x false [] = [x] := rfl
    rw [e0]
    refine ⟨okP_cons.2 ⟨⟨h2, h1, h3⟩, rfl⟩, fun z hz => ?_, fun i => ?_⟩
    · rw [List.mem_singleton] at hz; subst hz; exact h4
    · simp
  | cons y r ih =>
    intro e x h h1 h2 h3 h4 h5
    obtain ⟨⟨a, b, c⟩, d⟩ := okP_cons.1 h
    have hy := fin_lt a
    have hx := fin_lt h2
    have h5y := h5 y (List.mem_cons_self ..)
    have h5r : ∀ z ∈ r, RowP s e1 z := fun z hz => h5 z (List.mem_cons_of_mem _ hz)
    by_cases c1 : y.fin < x.pos
    · have e0 : putS x false (y :: r) = y :: putS x false r := by rw [putS, if_pos c1]
      rw [e0]
      obtain ⟨k1, k2, k3⟩ := ih y.fin x d c1 h2 h3 h4 h5r
      refine ⟨okP_cons.2 ⟨⟨a, b, c⟩, k1⟩, fun z hz => ?_, fun i => ?_⟩
      · rcases List.mem_cons.1 hz with rfl | hz
        · exact h5y
        · exact k2 z hz
      · simp only [List.mem_cons, exists_eq_or_imp, k3 i]
        constructor
        · rintro (h | h | h)
          · exact .inr (.inl h)
          · exact .inl h
          · exact .inr (.inr h)
        · rintro (h | h | h)
          · exact .inr (.inl h)
          · exact .inl h
          · exact .inr (.inr h)
    · by_cases c2 : x.fin < y.pos
      · have e0 : putS x false (y :: r) = x :: y :: r := by
          rw [putS, if_neg c1, if_pos c2, putS_laid x y.fin r d (by omega) (by omega)]
          rfl
        rw [e0]
        refine ⟨okP_cons.2 ⟨⟨h2, h1, h3⟩, okP_cons.2 ⟨⟨a, c2, c⟩, d⟩⟩, fun z hz => ?_, fun i => ?_⟩
        · rcases List.mem_cons.1 hz with rfl | hz
          · exact h4
          · exact h5 z hz
        · simp only [List.mem_cons, exists_eq_or_imp]
      · have e0 : putS x false (y :: r) = putS (joinP y x) false r := by rw [putS, if_neg c1, if_neg c2]
        have hm : meets y x := ⟨by omega, by omega⟩
        have j1 := join_pos y x
        have j2 := join_fin y x hm
        have j3 : (joinP y x).fin = (joinP y x).pos + ((joinP y x).text.size : Int) := rfl
        rw [e0]
        obtain ⟨k1, k2, k3⟩ := ih e (joinP y x) (okP_less d (by omega)) (by omega) (by omega) (by omega) (join_row h5y h4 hm) h5r
        refine ⟨k1, k2, fun i => ?_⟩
        simp only [k3 i, join_cov hm, List.mem_cons, exists_eq_or_imp]
        constructor
        · rintro ((h | h) | h)
          · exact .inr (.inl h)
          · exact .inl h
          · exact .inr (.inr h)
        · rintro (h | h | h)
          · exact .inl (.inr h)
          · exact .inl (.inl h)
          · exact .inr h

/-- A stream of the text s, from its beginning. -/
structure Good (s : ByteArray) (p : Ps) : Prop where
  read : p.read = 0
  ready : RightP s ⟨0, p.ready⟩
  ok : okP (nextP p) p.list = true
  row : ∀ y ∈ p.list, RightP s y ∧ Wide s y

theorem next_eq {s : ByteArray} {p : Ps} (h : Good s p) : nextP p = (p.ready.size : Int) := by unfold nextP; rw [h.read]; omega
theorem next_fin {s : ByteArray} {p : Ps} (h : Good s p) : nextP p ≤ (s.size : Int) := by
  have := h.ready.2.1
  rw [next_eq h]
  unfold Pc.fin at this
  simpa using this

theorem rows_len (s : ByteArray) (l : List Pc) : ∀ (e : Int), okP e l = true → (∀ y ∈ l, RightP s y ∧ Wide s y) → e ≤ (s.size : Int) → (sumP l : Int) + e ≤ (s.size : Int) ∧ (l ≠ [] → 3 * (l.length : Int) + e ≤ (s.size : Int) + 1) := by
  induction l with
  | nil => intro e _ _ he; exact ⟨by unfold sumP; omega, fun h => absurd rfl h⟩
  | cons y r ih =>
    intro e h hr he
    obtain ⟨⟨a, b, c⟩, d⟩ := okP_cons.1 h
    obtain ⟨h1, h2⟩ := hr y (List.mem_cons_self ..)
    have h3 := h1.2.1
    obtain ⟨k1, k2⟩ := ih y.fin d (fun z hz => hr z (List.mem_cons_of_mem _ hz)) h3
    have h4 : y.fin = y.pos + (y.text.size : Int) := rfl
    refine ⟨by unfold sumP; omega, fun _ => ?_⟩
    simp only [List.length_cons]
    by_cases hn : r = []
    · subst hn
      simp only [List.length_nil]
      omega
    · have k3 := k2 hn
      have : 0 < r.length := List.length_pos_iff.2 hn
      unfold Wide at h2
      omega

theorem good_ok {s : ByteArray} {p : Ps} (h : Good s p) (hs : s.size ≤ 60) : piecesOk p = true := by
  obtain ⟨k1, k2⟩ := rows_len s p.list (nextP p) h.ok h.row (next_fin h)
  have h0 := next_eq h
  have hl : p.list.length ≤ 20 := by
    by_cases hn : p.list = []
    · rw [hn]; simp
    · have := k2 hn; omega
  unfold piecesOk heldP
  rw [if_pos ⟨by rw [h.read]; omega, by rw [h.read]; omega, hl, by omega⟩]
  exact h.ok

theorem good_held {s : ByteArray} {p : Ps} (h : Good s p) : heldP p ≤ s.size := by
  obtain ⟨k1, _⟩ := rows_len s p.list (nextP p) h.ok h.row (next_fin h)
  have h0 := next_eq h
  unfold heldP
  omega

theorem bytes_mk (t : ByteArray) (i : Int) (h : 0 ≤ i) : (Pc.mk 0 t).byte i = t.data.toList[i.toNat]? := by
  unfold Pc.byte
  rw [if_pos h]
  simp

/-- A right piece's bytes behind a place. -/
theorem cut_right {s : ByteArray} {x : Pc} {e : Int} (hx : RightP s x) (h0 : 0 ≤ e) (h1 : x.pos < e) (h2 : e < x.fin) : RightP s ⟨e, x.text.extract (e - x.pos).toNat x.text.size⟩ ∧ (Pc.mk e (x.text.extract (e - x.pos).toNat x.text.size)).fin = x.fin := by
  have hz : x.fin = x.pos + (x.text.size : Int) := rfl
  have hf : (Pc.mk e (x.text.extract (e - x.pos).toNat x.text.size)).fin = x.fin := by
    unfold Pc.fin
    simp only [ByteArray.size_extract]
    omega
  refine ⟨⟨h0, by rw [hf]; exact hx.2.1, fun i b h => hx.2.2 i b ?_⟩, hf⟩
  rw [← h]
  have hb := (byte_some (p := ⟨e, x.text.extract (e - x.pos).toNat x.text.size⟩)).1 ⟨b, h⟩
  rw [hf] at hb
  simp only at hb
  unfold Pc.byte
  rw [if_pos (by omega), if_pos (show e ≤ i from hb.1)]
  simp only [xlist, List.getElem?_take, List.getElem?_drop]
  rw [if_pos (by omega)]
  congr 1
  omega

theorem good_put {s : ByteArray} {p : Ps} (hs : s.size ≤ 60) (h : Good s p) (x : Pc) (hx : RightP s x) (hw : Wide s x) (h1 : x.text.size ≠ 0) :
    Good s (putPiece p x.pos x.text) ∧ ∀ i, cov (putPiece p x.pos x.text) i ↔ cov p i ∨ covP x i := by
  have hz : x.fin = x.pos + (x.text.size : Int) := rfl
  have hok := good_ok h hs
  have hx0 := hx.1
  have hx1 := hx.2.1
  have hn := next_fin h
  have hn0 := next_eq h
  by_cases hc : x.fin ≤ nextP p
  · have e0 : putPiece p x.pos x.text = p := by
      unfold putPiece
      rw [if_neg]
      rintro ⟨⟨_, _, _, h4⟩, _⟩
      omega
    rw [e0]
    refine ⟨h, fun i => ⟨.inl, ?_⟩⟩
    rintro (h | h)
    · exact h
    · unfold covP at h
      exact .inl ⟨by omega, by omega⟩
  · have hm : mayPut p x.pos x.text := ⟨hok, ⟨by omega, by omega⟩, ⟨by omega, by omega⟩, by omega⟩
    have hX : RowP s (nextP p) (newP p x.pos x.text) ∧ (newP p x.pos x.text).text.size ≠ 0 ∧ (newP p x.pos x.text).fin = x.fin ∧ (newP p x.pos x.text).pos = max x.pos (nextP p) := by
      unfold newP
      by_cases hq : 0 < nextP p - x.pos
      · rw [if_pos hq]
        obtain ⟨k1, k2⟩ := cut_right (e := nextP p) hx (by omega) (by omega) (by omega)
        refine ⟨⟨k1, Int.le_refl _, .inr (.inr rfl)⟩, ?_, k2, by simp only; omega⟩
        simp only [ByteArray.size_extract]
        omega
      · rw [if_neg hq]
        refine ⟨⟨hx, by simp only; omega, ?_⟩, h1, rfl, by simp only; omega⟩
        rcases hw with h | h
        · exact .inl h
        · exact .inr (.inl h)
    generalize hX0 : newP p x.pos x.text = X at hX
    obtain ⟨x1, x2, x3, x4⟩ := hX
    have hrow : ∀ y ∈ p.list, RowP s (nextP p) y := fun y hy => by
      have k := (okP_all h.ok y hy).2.1
      obtain ⟨k1, k2⟩ := h.row y hy
      refine ⟨k1, by omega, ?_⟩
      rcases k2 with h | h
      · exact .inl h
      · exact .inr (.inl h)
    obtain ⟨p1, p2, p3⟩ := putS_row s (nextP p) p.list (nextP p - 1) X (okP_less h.ok (by omega)) (by omega) x2 (by omega) x1 hrow
    have hcx : ∀ i, covP X i ∨ (0 ≤ i ∧ i < nextP p) ↔ covP x i ∨ (0 ≤ i ∧ i < nextP p) := fun i => by
      unfold covP
      rw [x3, x4]
      omega
    have hL : longerP p x.pos x.text = settle ⟨p.read, p.ready, putS X false p.list⟩ := by unfold longerP; rw [hX0]
    have hne := putS_ne X p.list
    generalize putS X false p.list = L at *
    have hG : Good s (settle ⟨p.read, p.ready, L⟩) ∧ ∀ i, cov (settle ⟨p.read, p.ready, L⟩) i ↔ (0 ≤ i ∧ i < nextP p) ∨ ∃ z ∈ L, covP z i := by
      cases L with
      | nil => exact absurd rfl hne
      | cons z r =>
        obtain ⟨⟨a, b, c⟩, d⟩ := okP_cons.1 p1
        have hzr := p2 z (List.mem_cons_self ..)
        have hzf := fin_lt a
        have hrest : ∀ y ∈ r, RightP s y ∧ Wide s y := fun y hy => by
          have k1 := p2 y (List.mem_cons_of_mem _ hy)
          have k2 := (okP_all d y hy).2.1
          have k3 := hzr.2.1
          refine ⟨k1.1, ?_⟩
          rcases k1.2.2 with h | h | h
          · exact .inl h
          · exact .inr h
          · omega
        by_cases hq : z.pos = nextP p
        · have es : settle ⟨p.read, p.ready, z :: r⟩ = ⟨p.read, p.ready ++ z.text, r⟩ := by
            unfold settle
            simp only
            rw [if_pos (show z.pos = nextP ⟨p.read, p.ready, z :: r⟩ from hq)]
          rw [es]
          have en : nextP ⟨p.read, p.ready ++ z.text, r⟩ = z.fin := by
            unfold nextP Pc.fin
            rw [ByteArray.size_append, hq]
            unfold nextP
            simp only
            omega
          have hzz : z.fin = z.pos + (z.text.size : Int) := rfl
          refine ⟨⟨h.read, ⟨Int.le_refl _, ?_, fun i b hb => ?_⟩, by rw [en]; exact d, hrest⟩, fun i => ?_⟩
          · have := hzr.1.2.1
            unfold Pc.fin
            simp only [ByteArray.size_append]
            omega
          · have hr := (byte_some (p := ⟨0, p.ready ++ z.text⟩)).1 ⟨b, hb⟩
            unfold Pc.fin at hr
            simp only [ByteArray.size_append] at hr
            rw [bytes_mk _ _ hr.1, ByteArray.data_append, Array.toList_append, List.getElem?_append] at hb
            rw [bsize] at hb
            by_cases hi : i.toNat < p.ready.size
            · rw [if_pos hi] at hb
              exact h.ready.2.2 i b (by rw [bytes_mk _ _ hr.1]; exact hb)
            · rw [if_neg hi] at hb
              refine hzr.1.2.2 i b ?_
              unfold Pc.byte
              rw [if_pos (by omega), ← hb]
              congr 1
              omega
          · unfold cov
            rw [en]
            simp only [List.mem_cons, exists_eq_or_imp]
            have hcz : covP z i ↔ z.pos ≤ i ∧ i < z.fin := Iff.rfl
            constructor
            · rintro (h | h)
              · by_cases hi : i < nextP p
                · exact .inl ⟨h.1, hi⟩
                · exact .inr (.inl (hcz.2 ⟨by omega, h.2⟩))
              · exact .inr (.inr h)
            · rintro (h | h | h)
              · exact .inl ⟨h.1, by omega⟩
              · exact .inl ⟨by have := hcz.1 h; omega, (hcz.1 h).2⟩
              · exact .inr h
        · have es : settle ⟨p.read, p.ready, z :: r⟩ = ⟨p.read, p.ready, z :: r⟩ := by
            unfold settle
            simp only
            rw [if_neg (show ¬ z.pos = nextP ⟨p.read, p.ready, z :: r⟩ from hq)]
          rw [es]
          have k3 := hzr.2.1
          refine ⟨⟨h.read, h.ready, okP_cons.2 ⟨⟨a, (by show nextP p < z.pos; omega), c⟩, d⟩, fun y hy => ?_⟩, fun i => Iff.rfl⟩
          rcases List.mem_cons.1 hy with rfl | hy
          · refine ⟨hzr.1, ?_⟩
            rcases hzr.2.2 with h | h | h
            · exact .inl h
            · exact .inr h
            · exact absurd h hq
          · exact hrest y hy
    rw [← hL] at hG
    have e0 : putPiece p x.pos x.text = longerP p x.pos x.text := by
      unfold putPiece
      rw [if_pos ⟨hm, good_ok hG.1 hs⟩]
    rw [e0]
    refine ⟨hG.1, fun i => ?_⟩
    rw [hG.2 i, p3 i]
    have q := hcx i
    unfold cov
    constructor
    · rintro (h | h | h)
      · exact .inl (.inl h)
      · rcases q.1 (.inl h) with h | h
        · exact .inr h
        · exact .inl (.inl h)
      · exact .inl (.inr h)
    · rintro ((h | h) | h)
      · exact .inl h
      · exact .inr (.inr h)
      · rcases q.2 (.inl h) with h | h
        · exact .inr (.inl h)
        · exact .inl h

/-- Pieces put one by one. -/
def putAll (p : Ps) : List Pc → Ps
  | [] => p
  | x :: r => putAll (putPiece p x.pos x.text) r

theorem good_zero (s : ByteArray) : Good s ⟨0, ⟨#[]⟩, []⟩ := by
  refine ⟨rfl, ⟨Int.le_refl _, ?_, fun i b h => ?_⟩, rfl, fun y hy => by cases hy⟩
  · show (0 : Int) + ((0 : Nat) : Int) ≤ _; omega
  · have := byte_some.1 ⟨b, h⟩
    unfold Pc.fin at this
    have e : (ByteArray.mk #[]).size = 0 := rfl
    simp only [e] at this
    omega

theorem cov_zero (i : Int) : ¬ cov ⟨0, ⟨#[]⟩, []⟩ i := by
  rintro (h | ⟨y, hy, _⟩)
  · have e : nextP ⟨0, ⟨#[]⟩, []⟩ = 0 := rfl
    omega
  · cases hy

/-- All of it is there. -/
theorem good_end {s : ByteArray} {p : Ps} (h : Good s p) (hc : ∀ i : Int, 0 ≤ i → i < (s.size : Int) → cov p i) : p = ⟨0, s, []⟩ := by
  have hn := next_fin h
  have hn0 := next_eq h
  have hN : nextP p = (s.size : Int) := by
    by_cases hq : nextP p = (s.size : Int)
    · exact hq
    · rcases hc (nextP p) (by omega) (by omega) with k | ⟨y, hy, k⟩
      · omega
      · have := (okP_all h.ok y hy).2.1
        unfold covP at k
        omega
  have hl : p.list = [] := by
    cases hp : p.list with
    | nil => rfl
    | cons y r =>
      have hy : y ∈ p.list := by rw [hp]; exact List.mem_cons_self ..
      have k1 := (okP_all h.ok y hy).2.1
      have k2 := (okP_all h.ok y hy).1
      have k3 := (h.row y hy).1.2.1
      have := fin_lt k2
      omega
  have hr : (Pc.mk 0 p.ready) = Pc.mk 0 s := by
    refine pc_ext rfl ?_ fun i h1 h2 => ?_
    · unfold Pc.fin; simp only; omega
    · obtain ⟨b, hb⟩ := byte_some.2 ⟨h1, h2⟩
      rw [hb, h.ready.2.2 i b hb]
  obtain ⟨r, t, l⟩ := p
  simp only at hl
  subst hl
  have hrd := h.read
  simp only at hrd
  subst hrd
  injection hr with _ hr
  simp only at hr
  rw [hr]

theorem take_all (s : ByteArray) (hs : s.size ≤ 60) : takeReady ⟨0, s, []⟩ (s.size : Int) = (⟨(s.size : Int), ⟨#[]⟩, []⟩, s) := by
  have hn : takeN ⟨0, s, []⟩ (s.size : Int) = (s.size : Int) := by unfold takeN; simp only; omega
  have hok : piecesOk ⟨0, s, []⟩ = true := by
    unfold piecesOk
    rw [if_pos ⟨by simp, by simp, by simp, by unfold heldP sumP; simp only; omega⟩]
    rfl
  unfold takeReady
  rw [if_pos ⟨hok, by omega, by rw [hn]; simp only; omega⟩, hn]
  have e1 : s.extract (s.size : Int).toNat s.size = ⟨#[]⟩ := by
    apply ByteArray.ext
    apply Array.eq_empty_of_size_eq_zero
    show (s.extract (s.size : Int).toNat s.size).size = 0
    rw [ByteArray.size_extract]
    omega
  have e2 : s.extract 0 (s.size : Int).toNat = s := by
    rw [Int.toNat_natCast]
    exact ByteArray.extract_zero_size
  simp only [e1, e2]
  congr 1
  congr 1
  omega
end Go.Proofs.Ytkpajakangaekaa
