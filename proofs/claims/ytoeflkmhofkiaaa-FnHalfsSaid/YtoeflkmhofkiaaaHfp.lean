import Derived.Test.YtoeflkmhofkiaaaHcl
namespace Go.Proofs.Ytoeflkmhofkiaaa
set_option maxRecDepth 100000

/-! The pure part of the law on pending joins. -/
theorem ok_at {os : List Hv} (h : okH os = true) {i : Nat} (hi : i < os.length) : atH os os[i].road = (i : Int) := by
  unfold okH at h
  have h2 := (Bool.and_eq_true_iff.1 h).2
  unfold okFrom at h2
  have h3 := List.all_eq_true.1 h2 i (by rw [List.mem_range']; exact ⟨i, by omega, by omega⟩)
  have h4 := of_decide_eq_true (Bool.and_eq_true_iff.1 h3).2
  have e : os.getD i Hv.zero = os[i] := by simp [List.getD, List.getElem?_eq_getElem hi]
  rw [e] at h4
  exact h4
theorem ok_pl {os : List Hv} (h : okH os = true) {i : Nat} (hi : i < os.length) : plH os[i].road os = i := by
  have h1 := ok_at h hi
  have h2 : plH os[i].road os < os.length := Classical.byContradiction fun hc => by rw [atH_out hc] at h1; omega
  rw [atH_in h2] at h1
  omega
theorem ok_uniq {os : List Hv} (h : okH os = true) {i j : Nat} (hi : i < os.length) (hj : j < os.length) (he : os[i].road = os[j].road) : i = j := by
  have h1 := ok_pl h hi
  have h2 := ok_pl h hj
  rw [he] at h1
  omega
/-- What was put is there. -/
theorem put_there (ms : List Hv) (m : Hv) : ∃ (h : plH m.road (putGo ms m) < (putGo ms m).length), (putGo ms m)[plH m.road (putGo ms m)] = m := by
  unfold putGo
  by_cases hp : plH m.road ms < ms.length
  · have hr := plH_hit hp
    have e : plH m.road (ms.set (plH m.road ms) m) = plH m.road ms := by
      refine plH_at (by rw [List.length_set]; exact hp) (fun j hj hl => ?_) (by simp)
      rw [List.getElem_set_ne (by omega)]
      have := List.not_of_lt_findIdx (p := fun h : Hv => decide (h.road = m.road)) (xs := ms) (i := j) hj
      simpa using this
    simp only [if_pos hp, e]
    exact ⟨by rw [List.length_set]; exact hp, by simp⟩
  · have e : plH m.road (ms ++ [m]) = ms.length := by
      refine plH_at (by simp) (fun j hj hl => ?_) (by simp)
      rw [List.getElem_append_left hj]
      have hle := plH_le m.road ms
      have := List.not_of_lt_findIdx (p := fun h : Hv => decide (h.road = m.road)) (xs := ms) (i := j) (by show j < plH m.road ms; omega)
      simpa using this
    simp only [if_neg hp, e]
    exact ⟨by simp, by simp⟩
theorem none_out {hs : List Hv} {r : Rv} (h : ∀ x ∈ hs, ¬ x.road = r) : atH hs r = -1 := by
  have := plH_none (r := r) (hs := hs) fun j hj => h _ (List.getElem_mem hj)
  exact atH_out (by rw [this]; exact Nat.lt_irrefl _)
/-- .. and none, when it was dropped. -/
theorem drop_none {os : List Hv} (h : okH os = true) {k : Nat} (hk : k < os.length) {m : Hv} (hm : os[k] = m) : atH (dropH os m.road) m.road = -1 ∧ (dropH os m.road).length = os.length - 1 := by
  have hp : plH m.road os = k := by rw [← hm]; exact ok_pl h hk
  unfold dropH
  rw [hp]
  refine ⟨none_out fun x hx hr => ?_, by rw [List.length_append, List.length_take, List.length_drop]; omega⟩
  rcases List.mem_append.1 hx with hx | hx
  · obtain ⟨i, hi, rfl⟩ := List.mem_iff_getElem.1 hx
    rw [List.length_take] at hi
    rw [List.getElem_take] at hr
    have := ok_uniq h (i := i) (j := k) (by omega) hk (by rw [hr, hm])
    omega
  · obtain ⟨i, hi, rfl⟩ := List.mem_iff_getElem.1 hx
    rw [List.length_drop] at hi
    rw [List.getElem_drop] at hr
    have := ok_uniq h (i := k + 1 + i) (j := k) (by omega) hk (by rw [hr, hm])
    omega
theorem young_none {os : List Hv} (h : okH os = true) {k : Nat} (hk : k < os.length) {m : Hv} (hm : os[k] = m) : atH (youngH os m.till) m.road = -1 := by
  refine none_out fun x hx hr => ?_
  unfold youngH at hx
  obtain ⟨h1, h2⟩ := List.mem_filter.1 hx
  have h3 := of_decide_eq_true h2
  obtain ⟨i, hi, rfl⟩ := List.mem_iff_getElem.1 h1
  have := ok_uniq h (i := i) (j := k) hi hk (by rw [hr, hm])
  subst this
  rw [hm] at h3
  omega
theorem young_has {os : List Hv} {k : Nat} (hk : k < os.length) {m : Hv} (hm : os[k] = m) (t : Int) (ht : t < m.till) : 0 ≤ atH (youngH os t) m.road := by
  have hmem : m ∈ youngH os t := List.mem_filter.2 ⟨by rw [← hm]; exact List.getElem_mem hk, decide_eq_true ht⟩
  have hp : plH m.road (youngH os t) < (youngH os t).length := List.findIdx_lt_length_of_exists ⟨m, hmem, by simp⟩
  rw [atH_in hp]
  omega
theorem okH_len {os : List Hv} (h : okH os = true) : os.length ≤ 4 := by
  unfold okH at h
  exact of_decide_eq_true (Bool.and_eq_true_iff.1 h).1
end Go.Proofs.Ytoeflkmhofkiaaa
