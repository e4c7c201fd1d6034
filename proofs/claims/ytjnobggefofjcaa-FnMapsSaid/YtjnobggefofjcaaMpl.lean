import Derived.Test.YtjnobggefofjcaaMpv
namespace Go.Proofs.Ytjnobggefofjcaa

/-! What the functions of chapter 8 answer, on lists. -/
def Mp.fine (m : Mp) : Prop := 0 ≤ m.sub ∧ m.sub ≤ 1000000000 ∧ 0 ≤ m.seq ∧ m.seq ≤ 1000000000 ∧ 1 ≤ m.len ∧ m.len ≤ 100000
instance (m : Mp) : Decidable m.fine := by unfold Mp.fine; infer_instance

/-- Valid from the end of the one ahead on. -/
def okGo : Int → List Mp → Bool
  | _, [] => true
  | e, m :: r => if m.fine ∧ e ≤ m.sub then okGo (m.sub + m.len) r else false
def mapsOk (l : List Mp) : Bool := if l.length ≤ 40 then okGo 0 l else false

theorem okGo_fine (e : Int) (l : List Mp) (h : okGo e l = true) : ∀ m ∈ l, m.fine ∧ e ≤ m.sub := by
  induction l generalizing e with
  | nil => intro m hm; cases hm
  | cons x r ih =>
    unfold okGo at h
    by_cases hx : x.fine ∧ e ≤ x.sub
    · rw [if_pos hx] at h
      intro m hm
      rcases List.mem_cons.1 hm with rfl | hm
      · exact hx
      · have h1 := ih _ h m hm
        exact ⟨h1.1, by have := h1.2; have := hx.2; have h3 := hx.1; unfold Mp.fine at h3; omega⟩
    · rw [if_neg hx] at h; cases h
theorem mapsOk_fine (l : List Mp) (h : mapsOk l = true) : l.length ≤ 40 ∧ ∀ m ∈ l, m.fine := by
  unfold mapsOk at h
  by_cases hl : l.length ≤ 40
  · rw [if_pos hl] at h
    exact ⟨hl, fun m hm => (okGo_fine 0 l h m hm).1⟩
  · rw [if_neg hl] at h; cases h

/-- Does it hold byte sub of the subflow? -/
def Mp.holds (m : Mp) (sub : Int) : Prop := m.sub ≤ sub ∧ sub < m.sub + m.len
instance (m : Mp) (s : Int) : Decidable (m.holds s) := by unfold Mp.holds; infer_instance
def seqGo (sub : Int) : List Mp → Int × Bool
  | [] => (0, false)
  | m :: r => if m.holds sub then (m.seq + sub - m.sub, true) else seqGo sub r
def seqAt (l : List Mp) (sub : Int) : Int × Bool := if mapsOk l then seqGo sub l else (0, false)

/-- Those whose end lies behind sub. -/
def cutGo (sub : Int) (l : List Mp) : List Mp := l.filter fun m => decide (sub < m.sub + m.len)
def cutMaps (l : List Mp) (sub : Int) : List Mp := if mapsOk l then cutGo sub l else l

/-- The place of a new one: that of the first whose Sub is not less. -/
def placeGo (s : Int) : List Mp → Nat
  | [] => 0
  | m :: r => if m.sub < s then placeGo s r + 1 else 0
theorem placeGo_le (s : Int) (l : List Mp) : placeGo s l ≤ l.length := by
  induction l with
  | nil => exact Nat.le_refl _
  | cons m r ih => unfold placeGo; split <;> simp <;> omega
def longer (l : List Mp) (m : Mp) : List Mp := l.take (placeGo m.sub l) ++ m :: l.drop (placeGo m.sub l)
theorem longer_length (l : List Mp) (m : Mp) : (longer l m).length = l.length + 1 := by
  have := placeGo_le m.sub l
  simp only [longer, List.length_append, List.length_take, List.length_cons, List.length_drop]
  omega
def putMap (l : List Mp) (m : Mp) : List Mp × Bool := if mapsOk (longer l m) then (longer l m, true) else (l, false)

/-- Do both together make one? -/
def Mp.goesOn (m n : Mp) : Prop := n.sub = m.sub + m.len ∧ n.seq = m.seq + m.len ∧ m.len + n.len ≤ 100000
instance (m n : Mp) : Decidable (m.goesOn n) := by unfold Mp.goesOn; infer_instance
/-- Merging from a last one on. -/
def runGo (last : Mp) : List Mp → List Mp
  | [] => [last]
  | m :: r => if last.goesOn m then runGo ⟨last.sub, last.seq, last.len + m.len⟩ r else last :: runGo m r
def runs (l : List Mp) : List Mp := if mapsOk l then (match l with | [] => [] | m :: r => runGo m r) else []

theorem runGo_len (last : Mp) (l : List Mp) : (runGo last l).length ≤ l.length + 1 := by
  induction l generalizing last with
  | nil => simp [runGo]
  | cons m r ih =>
    unfold runGo
    split
    · have := ih ⟨last.sub, last.seq, last.len + m.len⟩; simp; omega
    · have := ih m; simp; omega
theorem runs_len (l : List Mp) : (runs l).length ≤ l.length := by
  unfold runs
  split
  · cases l with
    | nil => simp
    | cons m r => simpa using runGo_len m r
  · simp
theorem cutMaps_len (l : List Mp) (s : Int) : (cutMaps l s).length ≤ l.length := by
  unfold cutMaps cutGo
  split
  · exact List.length_filter_le _ _
  · exact Nat.le_refl _

/-- Marks from k on, three a mapping. -/
def markM (k : Nat) : Nat → List Mp
  | 0 => []
  | n + 1 => ⟨(k : Int), ((k + 1 : Nat) : Int), ((k + 2 : Nat) : Int)⟩ :: markM (k + 3) n
theorem markM_length (k n : Nat) : (markM k n).length = n := by
  induction n generalizing k with
  | zero => rfl
  | succ n ih => simp [markM, ih]
theorem markM_at (k n i : Nat) (h : i < n) : (markM k n)[i]'(by rw [markM_length]; exact h) = ⟨((k + i * 3 : Nat) : Int), ((k + i * 3 + 1 : Nat) : Int), ((k + i * 3 + 2 : Nat) : Int)⟩ := by
  induction n generalizing k i with
  | zero => omega
  | succ n ih =>
    cases i with
    | zero => simp [markM]
    | succ i =>
      simp only [markM, List.getElem_cons_succ]
      rw [ih (k + 3) i (by omega)]
      simp only [Mp.mk.injEq]
      refine ⟨?_, ?_, ?_⟩ <;> congr 1 <;> omega
/-- The first p of ms replaced by marks. -/
def marked3 (ms : List Mp) (k p : Nat) : List Mp := markM k p ++ ms.drop p
theorem marked3_zero (ms : List Mp) (k : Nat) : marked3 ms k 0 = ms := by simp [marked3, markM]
theorem marked3_all (ms : List Mp) (k : Nat) : marked3 ms k ms.length = markM k ms.length := by simp [marked3]
theorem marked3_length (ms : List Mp) (k p : Nat) (h : p ≤ ms.length) : (marked3 ms k p).length = ms.length := by simp [marked3, markM_length]; omega
theorem markM_snoc (k n : Nat) : markM k (n + 1) = markM k n ++ [⟨((k + n * 3 : Nat) : Int), ((k + n * 3 + 1 : Nat) : Int), ((k + n * 3 + 2 : Nat) : Int)⟩] := by
  induction n generalizing k with
  | zero => simp [markM]
  | succ n ih =>
    rw [markM, ih (k + 3), markM]
    simp only [List.cons_append]
    have e : k + 3 + n * 3 = k + (n + 1) * 3 := by omega
    rw [e]
theorem marked3_succ (ms : List Mp) (k p : Nat) (h : p < ms.length) : marked3 ms k (p + 1) = (marked3 ms k p).set p ⟨((k + p * 3 : Nat) : Int), ((k + p * 3 + 1 : Nat) : Int), ((k + p * 3 + 2 : Nat) : Int)⟩ := by
  unfold marked3
  rw [markM_snoc, List.set_append_right _ _ (by rw [markM_length]; omega), markM_length, Nat.sub_self]
  conv => rhs; rw [List.drop_eq_getElem_cons h]
  rw [List.set_cons_zero, List.append_assoc]
  rfl
attribute [irreducible] markM marked3
end Go.Proofs.Ytjnobggefofjcaa
