import Derived.Test.YtkpajakangaekaaPcu
namespace Go.Proofs.Ytkpajakangaekaa

/-- The pieces of the text s that are there for its first A bytes. -/
structure Cuts (s : ByteArray) (A : Nat) (xs : List Pc) : Prop where
  le : A ≤ s.size
  all : ∀ y ∈ xs, RightP s y ∧ Wide s y ∧ y.text.size ≠ 0
  cov : ∀ i : Int, 0 ≤ i → i < (A : Int) → ∃ y ∈ xs, covP y i
  len : xs.length ≤ A

theorem Cuts.nil (s : ByteArray) : Cuts s 0 [] := ⟨Nat.zero_le _, (fun y h => by cases h), (fun i h1 h2 => by omega), Nat.le_refl _⟩

theorem right_cut (s : ByteArray) (f e : Nat) (h1 : f ≤ e) (h2 : e ≤ s.size) : RightP s ⟨(f : Int), s.extract f e⟩ ∧ (Pc.mk (f : Int) (s.extract f e)).fin = (e : Int) ∧ (s.extract f e).size = e - f := by
  have hz : (s.extract f e).size = e - f := by rw [ByteArray.size_extract]; omega
  have hf : (Pc.mk (f : Int) (s.extract f e)).fin = (e : Int) := by unfold Pc.fin; simp only; rw [hz]; omega
  refine ⟨⟨by simp only; omega, by rw [hf]; omega, fun i b h => ?_⟩, hf, hz⟩
  have hb := (byte_some (p := ⟨(f : Int), s.extract f e⟩)).1 ⟨b, h⟩
  rw [hf] at hb
  simp only at hb
  rw [bytes_mk _ _ (by omega), ← h]
  unfold Pc.byte
  rw [if_pos (show (f : Int) ≤ i from hb.1)]
  simp only [xlist, List.getElem?_take, List.getElem?_drop]
  rw [if_pos (by omega)]
  congr 1
  omega

theorem Cuts.step {s : ByteArray} {A : Nat} {xs : List Pc} (h : Cuts s A xs) (f m : Nat) (h1 : 1 ≤ m) (h2 : A + m ≤ s.size) (h3 : 2 ≤ m ∨ A + m = s.size) (h4 : f ≤ A) : Cuts s (A + m) (xs ++ [⟨(f : Int), s.extract f (A + m)⟩]) := by
  obtain ⟨k1, k2, k3⟩ := right_cut s f (A + m) (by omega) h2
  refine ⟨h2, fun y hy => ?_, fun i hi0 hi1 => ?_, by simp only [List.length_append, List.length_cons, List.length_nil]; have := h.len; omega⟩
  · rcases List.mem_append.1 hy with hy | hy
    · exact h.all y hy
    · rw [List.mem_singleton] at hy
      subst hy
      refine ⟨k1, ?_, by simp only; omega⟩
      unfold Wide
      rw [k2]
      simp only
      omega
  · by_cases hi : i < (A : Int)
    · obtain ⟨y, hy, hc⟩ := h.cov i hi0 hi
      exact ⟨y, List.mem_append_left _ hy, hc⟩
    · exact ⟨_, List.mem_append_right _ (List.mem_singleton.2 rfl), by simp only; omega, by rw [k2]; omega⟩

/-- The whole text's pieces, in any order. -/
structure Whole (s : ByteArray) (xs : List Pc) : Prop where
  all : ∀ y ∈ xs, RightP s y ∧ Wide s y ∧ y.text.size ≠ 0
  cov : ∀ i : Int, 0 ≤ i → i < (s.size : Int) → ∃ y ∈ xs, covP y i

theorem Cuts.whole {s : ByteArray} {xs : List Pc} (h : Cuts s s.size xs) : Whole s xs := ⟨h.all, h.cov⟩
theorem Whole.mem {s : ByteArray} {xs ys : List Pc} (h : Whole s xs) (hm : ∀ y, y ∈ ys ↔ y ∈ xs) : Whole s ys :=
  ⟨fun y hy => h.all y ((hm y).1 hy), fun i h0 h1 => by obtain ⟨y, hy, hc⟩ := h.cov i h0 h1; exact ⟨y, (hm y).2 hy, hc⟩⟩
theorem Whole.swap {s : ByteArray} {xs : List Pc} (h : Whole s xs) (i k : Nat) (hi : i < xs.length) (hk : k < xs.length) : Whole s ((xs.set i xs[k]).set k xs[i]) :=
  h.mem fun _ => (List.set_set_perm hi hk).mem_iff

/-- The streams on the way: p has the first i pieces, q (each twice) the last i. -/
structure Way (s : ByteArray) (xs : List Pc) (i : Nat) (p q : Ps) : Prop where
  gp : Good s p
  gq : Good s q
  cp : ∀ j : Nat, j < i → ∀ h : j < xs.length, ∀ k, covP xs[j] k → cov p k
  cq : ∀ j : Nat, xs.length ≤ j + i → ∀ h : j < xs.length, ∀ k, covP xs[j] k → cov q k

theorem Way.nil (s : ByteArray) (xs : List Pc) : Way s xs 0 ⟨0, ⟨#[]⟩, []⟩ ⟨0, ⟨#[]⟩, []⟩ :=
  ⟨good_zero s, good_zero s, (fun j h => by omega), (fun j h h2 => by omega)⟩

theorem Way.step {s : ByteArray} {xs : List Pc} {i : Nat} {p q : Ps} (h : Way s xs i p q) (hs : s.size ≤ 60) (hw : Whole s xs) (hi : i < xs.length) (hk : xs.length - 1 - i < xs.length) :
    Good s (putPiece p xs[i].pos xs[i].text) ∧ Good s (putPiece q xs[xs.length - 1 - i].pos xs[xs.length - 1 - i].text) ∧
    Way s xs (i + 1) (putPiece p xs[i].pos xs[i].text) (putPiece (putPiece q xs[xs.length - 1 - i].pos xs[xs.length - 1 - i].text) xs[xs.length - 1 - i].pos xs[xs.length - 1 - i].text) := by
  obtain ⟨a1, a2, a3⟩ := hw.all _ (List.getElem_mem hi)
  obtain ⟨b1, b2, b3⟩ := hw.all _ (List.getElem_mem hk)
  obtain ⟨p1, p2⟩ := good_put hs h.gp xs[i] a1 a2 a3
  obtain ⟨q1, q2⟩ := good_put hs h.gq xs[xs.length - 1 - i] b1 b2 b3
  obtain ⟨r1, r2⟩ := good_put hs q1 xs[xs.length - 1 - i] b1 b2 b3
  refine ⟨p1, q1, p1, r1, fun j hj hl k hc => ?_, fun j hj hl k hc => ?_⟩
  · rw [p2]
    by_cases he : j = i
    · subst he; exact .inr hc
    · exact .inl (h.cp j (by omega) hl k hc)
  · rw [r2]
    by_cases he : j = xs.length - 1 - i
    · subst he; exact .inr hc
    · exact .inl ((q2 k).2 (.inl (h.cq j (by omega) hl k hc)))

theorem Way.fin {s : ByteArray} {xs : List Pc} {p q : Ps} (h : Way s xs xs.length p q) (hw : Whole s xs) : p = ⟨0, s, []⟩ ∧ q = ⟨0, s, []⟩ := by
  refine ⟨good_end h.gp fun i h0 h1 => ?_, good_end h.gq fun i h0 h1 => ?_⟩
  · obtain ⟨y, hy, hc⟩ := hw.cov i h0 h1
    obtain ⟨j, hj, rfl⟩ := List.getElem_of_mem hy
    exact h.cp j hj hj i hc
  · obtain ⟨y, hy, hc⟩ := hw.cov i h0 h1
    obtain ⟨j, hj, rfl⟩ := List.getElem_of_mem hy
    exact h.cq j (by omega) hj i hc

theorem pieces_len {s : ByteArray} {xs : List Pc} (h : Whole s xs) (hs : s.size ≤ 60) : ∀ y ∈ xs, 0 ≤ y.pos ∧ y.pos ≤ 60 ∧ y.text.size ≤ 60 := fun y hy => by
  obtain ⟨h1, -, -⟩ := h.all y hy
  have h2 := h1.1
  have h3 := h1.2.1
  have h4 : y.fin = y.pos + (y.text.size : Int) := rfl
  omega
end Go.Proofs.Ytkpajakangaekaa
