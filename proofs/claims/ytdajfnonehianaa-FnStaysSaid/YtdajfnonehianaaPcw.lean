import Derived.Test.YtdajfnonehianaaPcl
namespace Go.Proofs.Ytdajfnonehianaa

theorem put_front (y : Pc) (r : List Pc) (h0 : y.text.size ≠ 0) (h : okP y.fin r = true) : putS y false r = y :: r := by
  cases r with
  | nil => rfl
  | cons w r' =>
    obtain ⟨⟨a, b, c⟩, d⟩ := okP_cons.1 h
    have hy := fin_lt h0
    have hw := fin_lt a
    rw [putS, if_neg (by omega), if_pos b, putS_laid y w.fin r' d (by omega) (by omega)]
    rfl

/-- What lies within a piece that is there changes nothing. -/
theorem put_inside (x z : Pc) (hx : x.pos < x.fin) (h1 : z.pos ≤ x.pos) (h2 : x.fin ≤ z.fin) (r : List Pc) : ∀ e : Int, okP e r = true → z ∈ r → putS x false r = r := by
  induction r with
  | nil => intro e _ h; cases h
  | cons y r ih =>
    intro e h hz
    obtain ⟨⟨a, b, c⟩, d⟩ := okP_cons.1 h
    by_cases he : z = y
    · subst he
      have ej : joinP z x = z := by unfold joinP; rw [if_neg (by omega), if_pos h2]
      rw [putS, if_neg (by omega), if_neg (by omega), ej]
      exact put_front z r a d
    · rcases List.mem_cons.1 hz with hz | hz
      · exact absurd hz he
      · have := (okP_all d z hz).2.1
        rw [putS, if_pos (by omega), ih y.fin d hz]

theorem putS_ok (l : List Pc) : ∀ (e : Int) (x : Pc), okP e l = true → e < x.pos → x.text.size ≠ 0 → x.pos ≤ 2000000000 →
    okP e (putS x false l) = true ∧ ∃ z ∈ putS x false l, z.pos ≤ x.pos ∧ x.fin ≤ z.fin := by
  induction l with
  | nil =>
    intro e x _ h1 h2 h3
    have e0 : putS x false [] = [x] := rfl
    rw [e0]
    exact ⟨okP_cons.2 ⟨⟨h2, h1, h3⟩, rfl⟩, x, List.mem_singleton.2 rfl, Int.le_refl _, Int.le_refl _⟩
  | cons y r ih =>
    intro e x h h1 h2 h3
    obtain ⟨⟨a, b, c⟩, d⟩ := okP_cons.1 h
    have hy := fin_lt a
    have hx := fin_lt h2
    by_cases c1 : y.fin < x.pos
    · have e0 : putS x false (y :: r) = y :: putS x false r := by rw [putS, if_pos c1]
      rw [e0]
      obtain ⟨k1, z, hz, k2⟩ := ih y.fin x d c1 h2 h3
      exact ⟨okP_cons.2 ⟨⟨a, b, c⟩, k1⟩, z, List.mem_cons_of_mem _ hz, k2⟩
    · by_cases c2 : x.fin < y.pos
      · have e0 : putS x false (y :: r) = x :: y :: r := by
          rw [putS, if_neg c1, if_pos c2, putS_laid x y.fin r d (by omega) (by omega)]
          rfl
        rw [e0]
        exact ⟨okP_cons.2 ⟨⟨h2, h1, h3⟩, okP_cons.2 ⟨⟨a, c2, c⟩, d⟩⟩, x, List.mem_cons_self .., Int.le_refl _, Int.le_refl _⟩
      · have e0 : putS x false (y :: r) = putS (joinP y x) false r := by rw [putS, if_neg c1, if_neg c2]
        have hm : meets y x := ⟨by omega, by omega⟩
        have j1 := join_pos y x
        have j2 := join_fin y x hm
        have j3 : (joinP y x).fin = (joinP y x).pos + ((joinP y x).text.size : Int) := rfl
        rw [e0]
        obtain ⟨k1, z, hz, k2, k3⟩ := ih e (joinP y x) (okP_less d (by omega)) (by omega) (by omega) (by omega)
        exact ⟨k1, z, hz, by omega, by omega⟩

theorem newP_ends (p : Ps) (a : Int) (t : ByteArray) (h : nextP p - a < (t.size : Int)) : (newP p a t).pos = max a (nextP p) ∧ (newP p a t).fin = a + (t.size : Int) := by
  unfold newP
  split
  · rename_i hq
    refine ⟨by simp only; omega, ?_⟩
    unfold Pc.fin
    simp only [ByteArray.size_extract]
    omega
  · rename_i hq
    refine ⟨by simp only; omega, rfl⟩

theorem piecesOk_okP {p : Ps} (h : piecesOk p = true) : okP (nextP p) p.list = true := by
  unfold piecesOk at h
  split at h
  · exact h
  · cases h

theorem settle_id {p : Ps} (h : okP (nextP p) p.list = true) : settle p = p := by
  unfold settle
  cases hl : p.list with
  | nil => rfl
  | cons x r =>
    rw [hl] at h
    obtain ⟨⟨_, b, _⟩, _⟩ := okP_cons.1 h
    simp only
    rw [if_neg (by omega)]

theorem longer_ready (p : Ps) (a : Int) (t : ByteArray) : (longerP p a t).read = p.read ∧ ∃ u, (longerP p a t).ready = p.ready ++ u := by
  unfold longerP settle
  simp only
  split
  · exact ⟨rfl, ⟨#[]⟩, (ByteArray.append_empty).symm⟩
  · split
    · exact ⟨rfl, _, rfl⟩
    · exact ⟨rfl, ⟨#[]⟩, (ByteArray.append_empty).symm⟩

/-- What is ready stays so. -/
theorem put_ready (p : Ps) (a : Int) (t : ByteArray) : ∃ u, (putPiece p a t).ready = p.ready ++ u := by
  unfold putPiece
  split
  · exact (longer_ready p a t).2
  · exact ⟨⟨#[]⟩, (ByteArray.append_empty).symm⟩

/-- The same again changes nothing. -/
theorem put_again (p : Ps) (a : Int) (t : ByteArray) : putPiece (putPiece p a t) a t = putPiece p a t := by
  by_cases h : mayPut p a t ∧ piecesOk (longerP p a t) = true
  · have e1 : putPiece p a t = longerP p a t := by unfold putPiece; rw [if_pos h]
    rw [e1]
    obtain ⟨⟨hok, ha, ht, hne⟩, hO⟩ := h
    have hokO := piecesOk_okP hO
    have hokp := piecesOk_okP hok
    obtain ⟨x1, x2⟩ := newP_ends p a t hne
    have xz : (newP p a t).fin = (newP p a t).pos + ((newP p a t).text.size : Int) := rfl
    have hnx : nextP p ≤ 1000000200 := by
      unfold piecesOk at hok
      split at hok
      · rename_i hq
        unfold heldP at hq
        unfold nextP
        omega
      · cases hok
    obtain ⟨k1, z, hz, k2, k3⟩ := putS_ok p.list (nextP p - 1) (newP p a t) (okP_less hokp (by omega)) (by omega) (by omega) (by omega)
    unfold putPiece
    by_cases hm : mayPut (longerP p a t) a t ∧ piecesOk (longerP (longerP p a t) a t) = true
    · rw [if_pos hm]
      obtain ⟨⟨_, _, _, hne2⟩, _⟩ := hm
      obtain ⟨y1, y2⟩ := newP_ends (longerP p a t) a t hne2
      have yz : (newP (longerP p a t) a t).fin = (newP (longerP p a t) a t).pos + ((newP (longerP p a t) a t).text.size : Int) := rfl
      have hcov : z ∈ (longerP p a t).list ∧ nextP p ≤ nextP (longerP p a t) := by
        generalize hL : putS (newP p a t) false p.list = L at *
        have eL : longerP p a t = settle ⟨p.read, p.ready, L⟩ := by unfold longerP; rw [hL]
        rw [eL] at hne2 ⊢
        cases L with
        | nil => cases hz
        | cons z0 r =>
          unfold settle at hne2 ⊢
          simp only at hne2 ⊢
          have en : nextP ⟨p.read, p.ready, z0 :: r⟩ = nextP p := rfl
          rw [en] at hne2 ⊢
          by_cases hq : z0.pos = nextP p
          · rw [if_pos hq] at hne2 ⊢
            have ef : nextP ⟨p.read, p.ready ++ z0.text, r⟩ = z0.fin := by
              unfold nextP Pc.fin
              rw [hq]
              unfold nextP
              simp only [ByteArray.size_append]
              omega
            rw [ef] at hne2 ⊢
            have hzf : z0.fin = z0.pos + (z0.text.size : Int) := rfl
            rcases List.mem_cons.1 hz with rfl | hz
            · omega
            · exact ⟨hz, by omega⟩
          · rw [if_neg hq]
            exact ⟨hz, Int.le_refl _⟩
      have hp : putS (newP (longerP p a t) a t) false (longerP p a t).list = (longerP p a t).list :=
        put_inside _ z (by omega) (by omega) (by omega) _ _ hokO hcov.1
      have hg : ∀ O : Ps, putS (newP O a t) false O.list = O.list → longerP O a t = settle O := fun O h => by unfold longerP; rw [h]
      rw [hg _ hp]
      exact settle_id hokO
    · rw [if_neg hm]
  · have e1 : putPiece p a t = p := by unfold putPiece; rw [if_neg h]
    rw [e1, e1]
end Go.Proofs.Ytdajfnonehianaa
