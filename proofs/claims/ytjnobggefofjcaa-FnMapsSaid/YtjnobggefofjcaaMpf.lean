import Derived.Test.YtjnobggefofjcaaMpl
namespace Go.Proofs.Ytjnobggefofjcaa

/-! What FnMaps asks, on lists. -/
theorem okGo_cons {e : Int} {m : Mp} {r : List Mp} (h : okGo e (m :: r) = true) : m.fine ∧ e ≤ m.sub ∧ okGo (m.sub + m.len) r = true := by
  unfold okGo at h
  by_cases hx : m.fine ∧ e ≤ m.sub
  · rw [if_pos hx] at h; exact ⟨hx.1, hx.2, h⟩
  · rw [if_neg hx] at h; cases h
theorem okGo_mk {e : Int} {m : Mp} {r : List Mp} (h1 : m.fine) (h2 : e ≤ m.sub) (h3 : okGo (m.sub + m.len) r = true) : okGo e (m :: r) = true := by
  unfold okGo; rw [if_pos ⟨h1, h2⟩]; exact h3
theorem okGo_less {e f : Int} {l : List Mp} (h : okGo e l = true) (hf : f ≤ e) : okGo f l = true := by
  cases l with
  | nil => rfl
  | cons m r =>
    obtain ⟨a, b, c⟩ := okGo_cons h
    exact okGo_mk a (by omega) c
theorem fine_len {m : Mp} (h : m.fine) : 1 ≤ m.len := by unfold Mp.fine at h; omega

theorem seqGo_mem {e : Int} {l : List Mp} (h : okGo e l = true) {m : Mp} (hm : m ∈ l) {s : Int} (hs : m.holds s) : seqGo s l = (m.seq + s - m.sub, true) := by
  induction l generalizing e with
  | nil => cases hm
  | cons x r ih =>
    obtain ⟨a, b, c⟩ := okGo_cons h
    unfold seqGo
    rcases List.mem_cons.1 hm with rfl | hm
    · rw [if_pos hs]
    · have h1 := (okGo_fine _ _ c m hm).2
      have hn : ¬ x.holds s := fun hx => by unfold Mp.holds at hx hs; omega
      rw [if_neg hn]
      exact ih c hm
theorem seqGo_none {l : List Mp} {s : Int} (h : ∀ m ∈ l, ¬ m.holds s) : seqGo s l = (0, false) := by
  induction l with
  | nil => rfl
  | cons x r ih =>
    unfold seqGo
    rw [if_neg (h x (by simp))]
    exact ih fun m hm => h m (by simp [hm])

theorem cut_none {e : Int} {l : List Mp} (h : okGo e l = true) {m : Mp} (hm : m ∈ l) : ∀ x ∈ cutGo (m.sub + m.len) l, ¬ x.holds m.sub := by
  intro x hx hh
  obtain ⟨hx1, hx2⟩ := List.mem_filter.1 hx
  have hx3 : m.sub + m.len < x.sub + x.len := of_decide_eq_true hx2
  clear hx hx2
  unfold Mp.holds at hh
  induction l generalizing e with
  | nil => cases hm
  | cons y r ih =>
    obtain ⟨a, b, c⟩ := okGo_cons h
    rcases List.mem_cons.1 hm with h1 | h1 <;> rcases List.mem_cons.1 hx1 with h2 | h2
    · subst h1 h2; omega
    · have h3 := (okGo_fine _ _ c x h2).2
      have := fine_len a
      subst h1
      omega
    · have h3 := (okGo_fine _ _ c m h1).2
      subst h2
      omega
    · exact ih c h1 h2

theorem runGo_ok {e : Int} {last : Mp} {l : List Mp} (h : okGo e (last :: l) = true) : okGo e (runGo last l) = true := by
  induction l generalizing e last with
  | nil => exact h
  | cons m r ih =>
    obtain ⟨a, b, c⟩ := okGo_cons h
    obtain ⟨a2, b2, c2⟩ := okGo_cons c
    unfold runGo
    split
    · rename_i hg
      refine ih (okGo_mk ?_ b ?_)
      · unfold Mp.fine Mp.goesOn at *; simp only; omega
      · refine okGo_less c2 ?_
        unfold Mp.goesOn at hg; simp only; omega
    · exact okGo_mk a b (ih c)
theorem runGo_seq {e : Int} {last : Mp} {l : List Mp} (s : Int) (h : okGo e (last :: l) = true) : seqGo s (runGo last l) = seqGo s (last :: l) := by
  induction l generalizing e last with
  | nil => rfl
  | cons m r ih =>
    obtain ⟨a, b, c⟩ := okGo_cons h
    obtain ⟨a2, b2, c2⟩ := okGo_cons c
    unfold runGo
    split
    · rename_i hg
      have hg2 : m.sub = last.sub + last.len ∧ m.seq = last.seq + last.len := by unfold Mp.goesOn at hg; omega
      have h2 : okGo e (⟨last.sub, last.seq, last.len + m.len⟩ :: r) = true := by
        refine okGo_mk ?_ b ?_
        · unfold Mp.fine Mp.goesOn at *; simp only; omega
        · refine okGo_less c2 ?_; simp only; omega
      rw [ih h2]
      have l1 := fine_len a
      have l2 := fine_len a2
      simp only [seqGo]
      by_cases h1 : last.holds s
      · rw [if_pos h1, if_pos (by unfold Mp.holds at *; simp only; omega)]
      · rw [if_neg h1]
        by_cases h3 : m.holds s
        · rw [if_pos h3, if_pos (by unfold Mp.holds at *; simp only; omega)]
          simp only [Prod.mk.injEq, and_true]
          omega
        · rw [if_neg h3, if_neg (by unfold Mp.holds at *; simp only; omega)]
    · rw [seqGo, ih c, ← seqGo]

theorem runs_ok {l : List Mp} (h : mapsOk l = true) : mapsOk (runs l) = true := by
  have hl := (mapsOk_fine l h).1
  have hr := runs_len l
  have ho : okGo 0 l = true := by unfold mapsOk at h; rw [if_pos hl] at h; exact h
  unfold mapsOk
  rw [if_pos (by omega)]
  unfold runs
  rw [if_pos h]
  cases l with
  | nil => rfl
  | cons m r => exact runGo_ok ho
theorem runs_seq {l : List Mp} (h : mapsOk l = true) (s : Int) : seqAt (runs l) s = seqAt l s := by
  have hl := (mapsOk_fine l h).1
  have ho : okGo 0 l = true := by unfold mapsOk at h; rw [if_pos hl] at h; exact h
  unfold seqAt
  rw [if_pos h, if_pos (runs_ok h)]
  unfold runs
  rw [if_pos h]
  cases l with
  | nil => rfl
  | cons m r => exact runGo_seq s ho
theorem seqAt_mem {l : List Mp} (h : mapsOk l = true) {m : Mp} (hm : m ∈ l) {s : Int} (hs : m.holds s) : seqAt l s = (m.seq + s - m.sub, true) := by
  have hl := (mapsOk_fine l h).1
  have ho : okGo 0 l = true := by unfold mapsOk at h; rw [if_pos hl] at h; exact h
  unfold seqAt
  rw [if_pos h]
  exact seqGo_mem ho hm hs
theorem seqAt_cut {l : List Mp} (h : mapsOk l = true) {m : Mp} (hm : m ∈ l) : seqAt (cutMaps l (m.sub + m.len)) m.sub = (0, false) := by
  have hl := (mapsOk_fine l h).1
  have ho : okGo 0 l = true := by unfold mapsOk at h; rw [if_pos hl] at h; exact h
  unfold cutMaps
  rw [if_pos h]
  unfold seqAt
  split
  · exact seqGo_none (cut_none ho hm)
  · rfl
theorem longer_mem (l : List Mp) (m : Mp) : m ∈ longer l m := by unfold longer; simp
theorem fine_holds {m : Mp} (h : m.fine) : m.holds m.sub ∧ m.holds (m.sub + m.len - 1) := by
  have := fine_len h
  unfold Mp.holds
  omega
end Go.Proofs.Ytjnobggefofjcaa
