import Init
namespace Go.Proofs.Ytoeflkmhofkiaaa
set_option maxRecDepth 100000

/-! Addresses (chapter 11), on lists. -/
/-- An address. -/
structure Av where
  id : Int
  addr : Int
  spare : Bool
  told : Bool
def Av.zero : Av := ⟨0, 0, false, false⟩
instance : Inhabited Av := ⟨Av.zero⟩

/-- The place of the first one with an Id. -/
def atA (id : Int) : List Av → Option Nat
  | [] => none
  | x :: r => if x.id = id then some 0 else (atA id r).map (· + 1)
def atInt (xs : List Av) (id : Int) : Int := match atA id xs with | some i => (i : Int) | none => -1
/-- Where a new one goes: ahead of the first whose Id is not less. -/
def placeA (id : Int) : List Av → Nat
  | [] => 0
  | x :: r => if x.id < id then placeA id r + 1 else 0
def outA (xs : List Av) (a : Av) : List Av := match atA a.id xs with | some i => xs.set i a | none => xs.take (placeA a.id xs) ++ a :: xs.drop (placeA a.id xs)
def okGo (least : Int) (seen : List Int) : List Av → Bool
  | [] => true
  | x :: r => decide (least ≤ x.id ∧ x.id ≤ 255 ∧ 1 ≤ x.addr ∧ x.addr ≤ 65535 ∧ x.addr ∉ seen) && okGo (x.id + 1) (seen ++ [x.addr]) r
def addrsOk (xs : List Av) : Bool := decide (xs.length ≤ 6) && okGo 0 [] xs
def putA (xs : List Av) (a : Av) : List Av × Bool := if addrsOk (outA xs a) = true then (outA xs a, true) else (xs, false)
def dropA (xs : List Av) (id : Int) : List Av × Bool := match atA id xs with | some i => (xs.take i ++ xs.drop (i + 1), true) | none => (xs, false)
def untoldA : List Av → List Int
  | [] => []
  | x :: r => if x.told = true then untoldA r else x.id :: untoldA r

theorem atA_some {id : Int} {xs : List Av} {i : Nat} (h : atA id xs = some i) : ∃ hi : i < xs.length, xs[i].id = id ∧ ∀ j (hj : j < i), xs[j].id ≠ id := by
  induction xs generalizing i with
  | nil => cases h
  | cons x r ih =>
    unfold atA at h
    split at h
    · next hx =>
      obtain rfl : 0 = i := by simpa using h
      exact ⟨by simp, by simpa using hx, fun j hj => by omega⟩
    · next hx =>
      cases hr : atA id r with
      | none => rw [hr] at h; cases h
      | some m =>
        rw [hr] at h
        obtain rfl : m + 1 = i := by simpa using h
        obtain ⟨h1, h2, h3⟩ := ih hr
        refine ⟨by simpa using h1, by simpa using h2, fun j hj => ?_⟩
        cases j with
        | zero => simpa using hx
        | succ j => simpa using h3 j (by omega)
theorem atA_none {id : Int} {xs : List Av} (h : atA id xs = none) : ∀ x ∈ xs, x.id ≠ id := by
  induction xs with
  | nil => intro x hx; cases hx
  | cons x r ih =>
    unfold atA at h
    split at h
    · cases h
    · next hx =>
      have hr : atA id r = none := by simpa using h
      intro y hy
      rcases List.mem_cons.1 hy with rfl | hy
      · exact hx
      · exact ih hr y hy
theorem atA_none' {id : Int} {xs : List Av} (h : ∀ x ∈ xs, x.id ≠ id) : atA id xs = none := by
  induction xs with
  | nil => rfl
  | cons x r ih =>
    unfold atA
    rw [if_neg (h x (by simp)), ih (fun y hy => h y (by simp [hy]))]
    rfl
/-- The first one that has it. -/
theorem atA_hit {id : Int} {xs : List Av} {i : Nat} (hi : i < xs.length) (h : xs[i].id = id) (hb : ∀ j (hj : j < i), xs[j].id ≠ id) : atA id xs = some i := by
  induction xs generalizing i with
  | nil => simp at hi
  | cons x r ih =>
    unfold atA
    cases i with
    | zero => rw [if_pos (by simpa using h)]
    | succ i =>
      rw [if_neg (by simpa using hb 0 (by omega)), ih (by simpa using hi) (by simpa using h) (fun j hj => by simpa using hb (j + 1) (by omega))]
      rfl
theorem placeA_le (id : Int) (xs : List Av) : placeA id xs ≤ xs.length := by
  induction xs with
  | nil => simp [placeA]
  | cons x r ih => unfold placeA; split <;> simp <;> omega
theorem placeA_hit {id : Int} {xs : List Av} {i : Nat} (hi : i < xs.length) (h : ¬ xs[i].id < id) (hb : ∀ j (hj : j < i), xs[j].id < id) : placeA id xs = i := by
  induction xs generalizing i with
  | nil => simp at hi
  | cons x r ih =>
    unfold placeA
    cases i with
    | zero => rw [if_neg (by simpa using h)]
    | succ i => rw [if_pos (by simpa using hb 0 (by omega)), ih (by simpa using hi) (by simpa using h) (fun j hj => by simpa using hb (j + 1) (by omega))]
theorem placeA_all {id : Int} {xs : List Av} (h : ∀ x ∈ xs, x.id < id) : placeA id xs = xs.length := by
  induction xs with
  | nil => rfl
  | cons x r ih =>
    unfold placeA
    rw [if_pos (h x (by simp)), ih (fun y hy => h y (by simp [hy]))]
    rfl
theorem outA_len (xs : List Av) (a : Av) : xs.length ≤ (outA xs a).length ∧ (outA xs a).length ≤ xs.length + 1 := by
  unfold outA
  have := placeA_le a.id xs
  split
  · simp
  · simp; omega
theorem put_fst_len (xs : List Av) (a : Av) : (putA xs a).1.length ≤ xs.length + 1 := by
  unfold putA
  have := outA_len xs a
  split
  · exact this.2
  · simp
theorem ok_len {xs : List Av} (h : addrsOk xs = true) : xs.length ≤ 6 ∧ okGo 0 [] xs = true := by
  unfold addrsOk at h
  simpa using h
theorem ok_long {xs : List Av} (h : 6 < xs.length) : addrsOk xs = false := by
  unfold addrsOk
  rw [decide_eq_false (by omega)]
  rfl
theorem untold_append (a b : List Av) : untoldA (a ++ b) = untoldA a ++ untoldA b := by
  induction a with
  | nil => rfl
  | cons x r ih =>
    simp only [List.cons_append, untoldA, ih]
    split <;> simp
theorem untold_len (xs : List Av) : (untoldA xs).length ≤ xs.length := by
  induction xs with
  | nil => simp [untoldA]
  | cons x r ih => unfold untoldA; split <;> simp <;> omega

/-! The book's keys: an Id and how many with that Id stand ahead. -/
abbrev Kk := Int × Nat
def keyAt (xs : List Av) (i : Nat) : Kk := ((xs.getD i Av.zero).id, ((xs.take i).map (·.id)).count (xs.getD i Av.zero).id)
def keysA (xs : List Av) : List Kk := (List.range xs.length).map (keyAt xs)
theorem keysA_len (xs : List Av) : (keysA xs).length = xs.length := by simp [keysA]
theorem keysA_get (xs : List Av) (i : Nat) (h : i < (keysA xs).length) : (keysA xs)[i] = keyAt xs i := by simp [keysA]
theorem keysA_take (xs : List Av) (k : Nat) (h : k < xs.length) : (keysA xs).take (k + 1) = (keysA xs).take k ++ [keyAt xs k] := by
  rw [List.take_succ_eq_append_getElem (by rw [keysA_len]; exact h), keysA_get]
theorem keyAt_fst (xs : List Av) (i : Nat) (h : i < xs.length) : (keyAt xs i).1 = xs[i].id := by
  unfold keyAt
  simp [List.getD, List.getElem?_eq_getElem h]
theorem count_lt {xs : List Av} {i j : Nat} (hij : i < j) (hj : j ≤ xs.length) : ((xs.take i).map (·.id)).count xs[i].id < ((xs.take j).map (·.id)).count xs[i].id := by
  obtain ⟨m, rfl⟩ : ∃ m, j = i + (m + 1) := ⟨j - i - 1, by omega⟩
  have e : xs.take (i + (m + 1)) = xs.take i ++ xs[i] :: (xs.drop (i + 1)).take m := by
    rw [List.take_add, List.drop_eq_getElem_cons (by omega), List.take_succ_cons]
  rw [e]
  simp
theorem keyAt_inj {xs : List Av} {i j : Nat} (hi : i < xs.length) (hj : j < xs.length) (h : keyAt xs i = keyAt xs j) : i = j := by
  unfold keyAt at h
  simp only [List.getD, List.getElem?_eq_getElem hi, List.getElem?_eq_getElem hj, Option.getD_some, Prod.mk.injEq] at h
  obtain ⟨h1, h2⟩ := h
  rcases Nat.lt_trichotomy i j with h3 | h3 | h3
  · have := count_lt (xs := xs) h3 (Nat.le_of_lt hj)
    rw [h2, ← h1] at this
    omega
  · exact h3
  · have := count_lt (xs := xs) h3 (Nat.le_of_lt hi)
    rw [← h2, h1] at this
    omega
theorem keyAt_zero {xs : List Av} {i : Nat} (hi : i < xs.length) (hb : ∀ j (hj : j < i), xs[j].id ≠ xs[i].id) : keyAt xs i = (xs[i].id, 0) := by
  unfold keyAt
  simp only [List.getD, List.getElem?_eq_getElem hi, Option.getD_some, Prod.mk.injEq, true_and]
  rw [List.count_eq_zero]
  intro h
  obtain ⟨x, hx, he⟩ := List.mem_map.1 h
  obtain ⟨j, hj, rfl⟩ := List.mem_iff_getElem.1 hx
  rw [List.length_take] at hj
  rw [List.getElem_take] at he
  exact hb j (by omega) he
theorem mem_keys {xs : List Av} {id : Int} : (id, 0) ∈ keysA xs ↔ ∃ i, atA id xs = some i := by
  constructor
  · intro h
    obtain ⟨i, hi, he⟩ := List.mem_iff_getElem.1 h
    rw [keysA_len] at hi
    rw [keysA_get] at he
    cases hn : atA id xs with
    | some i => exact ⟨i, rfl⟩
    | none =>
      have := atA_none hn xs[i] (List.getElem_mem hi)
      rw [← keyAt_fst xs i hi, he] at this
      exact absurd rfl this
  · rintro ⟨i, h⟩
    obtain ⟨h1, h2, h3⟩ := atA_some h
    have := keyAt_zero h1 (fun j hj => by rw [h2]; exact h3 j hj)
    rw [h2] at this
    rw [← this, ← keysA_get xs i (by rw [keysA_len]; exact h1)]
    exact List.getElem_mem _
theorem place_keys (xs : List Av) (id : Int) : (∀ p, p < (keysA xs).length → (∀ j (_ : j < p) (hl : j < (keysA xs).length), (keysA xs)[j].1 < id) → (∀ hl : p < (keysA xs).length, ¬ (keysA xs)[p].1 < id) → placeA id xs = p) ∧ ((∀ j (hl : j < (keysA xs).length), (keysA xs)[j].1 < id) → placeA id xs = (keysA xs).length) := by
  constructor
  · intro p hp h1 h2
    have hp' : p < xs.length := by rwa [keysA_len] at hp
    refine placeA_hit hp' ?_ (fun j hj => ?_)
    · have := h2 hp
      rw [keysA_get, keyAt_fst xs p hp'] at this
      exact this
    · have := h1 j hj (by omega)
      rw [keysA_get, keyAt_fst xs j (by omega)] at this
      exact this
  · intro h
    rw [keysA_len]
    refine placeA_all (fun x hx => ?_)
    obtain ⟨j, hj, rfl⟩ := List.mem_iff_getElem.1 hx
    have := h j (by rw [keysA_len]; exact hj)
    rw [keysA_get, keyAt_fst xs j hj] at this
    exact this

/-- What the book's map says of the first k. -/
def FK (F : Kk → Option Av) (xs : List Av) (k : Nat) : Prop := (∀ i (h : i < xs.length), i < k → F (keyAt xs i) = some xs[i]) ∧ ∀ key, (∀ i, i < k → keyAt xs i ≠ key) → F key = none
def upd (F : Kk → Option Av) (key : Kk) (v : Option Av) : Kk → Option Av := fun x => if x = key then v else F x
theorem FK_nil (xs : List Av) : FK (fun _ => none) xs 0 := ⟨fun i _ h => by omega, fun _ _ => rfl⟩
theorem FK_step {F : Kk → Option Av} {xs : List Av} {k : Nat} (h : FK F xs k) (hk : k < xs.length) : FK (upd F (keyAt xs k) (some xs[k])) xs (k + 1) := by
  refine ⟨fun i hi hik => ?_, fun key hkey => ?_⟩
  · unfold upd
    by_cases e : i = k
    · subst e; rw [if_pos rfl]
    · rw [if_neg (fun e2 => e (keyAt_inj hi hk e2))]
      exact h.1 i hi (by omega)
  · unfold upd
    rw [if_neg (fun e => hkey k (by omega) e.symm)]
    exact h.2 key (fun i hi => hkey i (by omega))
theorem filt_eq (F : Kk → Option Av) : ∀ (ks : List Kk) (xs : List Av), ks.length = xs.length → (∀ i (h1 : i < ks.length) (h2 : i < xs.length), F ks[i] = some xs[i]) → ks.filterMap F = xs
  | [], [], _, _ => rfl
  | [], _ :: _, h, _ => by simp at h
  | _ :: _, [], h, _ => by simp at h
  | k :: ks, x :: xs, h, hf => by
    have h0 := hf 0 (by simp) (by simp)
    simp only [List.getElem_cons_zero] at h0
    rw [List.filterMap_cons_some h0, filt_eq F ks xs (by simpa using h) (fun i h1 h2 => hf (i + 1) (by rw [List.length_cons]; omega) (by rw [List.length_cons]; omega))]
theorem book_all {F : Kk → Option Av} {xs : List Av} (h : FK F xs xs.length) : (keysA xs).filterMap F = xs :=
  filt_eq F _ _ (keysA_len xs) (fun i h1 h2 => by rw [keysA_get]; exact h.1 i h2 h2)
/-- One of the book's replaced. -/
theorem book_put {F : Kk → Option Av} {xs : List Av} (h : FK F xs xs.length) (a : Av) (i : Nat) (hi : atA a.id xs = some i) : (keysA xs).filterMap (upd F (a.id, 0) (some a)) = xs.set i a := by
  obtain ⟨h1, h2, h3⟩ := atA_some hi
  have hk := keyAt_zero h1 (fun j hj => by rw [h2]; exact h3 j hj)
  rw [h2] at hk
  refine filt_eq _ _ _ (by rw [keysA_len, List.length_set]) (fun j hj1 hj2 => ?_)
  rw [List.length_set] at hj2
  rw [keysA_get, ← hk]
  unfold upd
  by_cases e : j = i
  · subst e
    rw [if_pos rfl, List.getElem_set_self]
  · rw [if_neg (fun e2 => e (keyAt_inj hj2 h1 e2)), List.getElem_set_ne (fun e2 => e e2.symm)]
    exact h.1 j hj2 hj2
/-- A new one. -/
theorem book_new {F : Kk → Option Av} {xs : List Av} (h : FK F xs xs.length) (a : Av) (ha : atA a.id xs = none) (p : Nat) : ((keysA xs).take p ++ (a.id, 0) :: (keysA xs).drop p).filterMap (upd F (a.id, 0) (some a)) = xs.take p ++ a :: xs.drop p := by
  have hne : ∀ j (hj : j < xs.length), keyAt xs j ≠ (a.id, 0) := fun j hj e => by
    have h1 := atA_none ha xs[j] (List.getElem_mem hj)
    rw [← keyAt_fst xs j hj, e] at h1
    exact h1 rfl
  have hg : ∀ j (hj : j < xs.length), upd F (a.id, 0) (some a) (keyAt xs j) = some xs[j] := fun j hj => by
    unfold upd
    rw [if_neg (hne j hj)]
    exact h.1 j hj hj
  rw [List.filterMap_append, List.filterMap_cons_some (show upd F (a.id, 0) (some a) (a.id, 0) = some a by unfold upd; rw [if_pos rfl])]
  rw [filt_eq _ ((keysA xs).take p) (xs.take p) (by rw [List.length_take, List.length_take, keysA_len]) (fun j h1 h2 => by
    rw [List.getElem_take, List.getElem_take, keysA_get]
    exact hg j _)]
  rw [filt_eq _ ((keysA xs).drop p) (xs.drop p) (by rw [List.length_drop, List.length_drop, keysA_len]) (fun j h1 h2 => by
    rw [List.getElem_drop, List.getElem_drop, keysA_get]
    exact hg _ _)]
/-- One taken out. -/
theorem book_drop {F : Kk → Option Av} {xs : List Av} (h : FK F xs xs.length) (id : Int) (i : Nat) (hi : atA id xs = some i) : (keysA xs).filterMap (upd F (id, 0) none) = xs.take i ++ xs.drop (i + 1) := by
  obtain ⟨h1, h2, h3⟩ := atA_some hi
  have hk := keyAt_zero h1 (fun j hj => by rw [h2]; exact h3 j hj)
  rw [h2] at hk
  have hg : ∀ j (hj : j < xs.length), j ≠ i → upd F (id, 0) none (keyAt xs j) = some xs[j] := fun j hj hne => by
    unfold upd
    rw [← hk, if_neg (fun e => hne (keyAt_inj hj h1 e))]
    exact h.1 j hj hj
  have hkl : i < (keysA xs).length := by rw [keysA_len]; exact h1
  have e : keysA xs = (keysA xs).take i ++ keyAt xs i :: (keysA xs).drop (i + 1) := by
    rw [← keysA_get xs i hkl, ← List.drop_eq_getElem_cons hkl, List.take_append_drop]
  rw [e, List.filterMap_append, List.filterMap_cons_none (show upd F (id, 0) none (keyAt xs i) = none by unfold upd; rw [if_pos hk])]
  rw [filt_eq _ ((keysA xs).take i) (xs.take i) (by rw [List.length_take, List.length_take, keysA_len]) (fun j h1 h2 => by
    rw [List.getElem_take, List.getElem_take, keysA_get]
    rw [List.length_take] at h2
    exact hg j _ (by omega))]
  rw [filt_eq _ ((keysA xs).drop (i + 1)) (xs.drop (i + 1)) (by rw [List.length_drop, List.length_drop, keysA_len]) (fun j h1 h2 => by
    rw [List.getElem_drop, List.getElem_drop, keysA_get]
    exact hg _ _ (by omega))]
theorem book_none {F : Kk → Option Av} {xs : List Av} (h : FK F xs xs.length) (id : Int) (hi : atA id xs = none) : (keysA xs).filterMap (upd F (id, 0) none) = xs ∧ F (id, 0) = none := by
  have hne : ∀ j (hj : j < xs.length), keyAt xs j ≠ (id, 0) := fun j hj e => by
    have h1 := atA_none hi xs[j] (List.getElem_mem hj)
    rw [← keyAt_fst xs j hj, e] at h1
    exact h1 rfl
  refine ⟨filt_eq _ _ _ (keysA_len xs) (fun j h1 h2 => ?_), h.2 _ (fun j hj => hne j hj)⟩
  rw [keysA_get]
  unfold upd
  rw [if_neg (hne j h2)]
  exact h.1 j h2 h2
theorem book_some {F : Kk → Option Av} {xs : List Av} (h : FK F xs xs.length) (id : Int) (i : Nat) (hi : atA id xs = some i) : ∃ a, F (id, 0) = some a := by
  obtain ⟨h1, h2, h3⟩ := atA_some hi
  have hk := keyAt_zero h1 (fun j hj => by rw [h2]; exact h3 j hj)
  rw [h2] at hk
  rw [← hk]
  exact ⟨_, h.1 i h1 h1⟩

/-! Valid lists. -/
theorem okGo_mem {least : Int} {seen : List Int} {xs : List Av} (h : okGo least seen xs = true) : ∀ x ∈ xs, least ≤ x.id ∧ x.id ≤ 255 ∧ 1 ≤ x.addr ∧ x.addr ≤ 65535 := by
  induction xs generalizing least seen with
  | nil => intro x hx; cases hx
  | cons y r ih =>
    simp only [okGo, Bool.and_eq_true, decide_eq_true_eq] at h
    intro x hx
    rcases List.mem_cons.1 hx with rfl | hx
    · exact ⟨h.1.1, h.1.2.1, h.1.2.2.1, h.1.2.2.2.1⟩
    · have := ih h.2 x hx
      omega
/-- Ids of a valid list differ. -/
theorem okGo_less {least : Int} {seen : List Int} {xs : List Av} (h : okGo least seen xs = true) (id : Int) (i : Nat) (hi : atA id xs = some i) : atA id (xs.take i ++ xs.drop (i + 1)) = none := by
  induction xs generalizing least seen i with
  | nil => cases hi
  | cons y r ih =>
    simp only [okGo, Bool.and_eq_true, decide_eq_true_eq] at h
    unfold atA at hi
    split at hi
    · next hy =>
      obtain rfl : 0 = i := by simpa using hi
      simp only [List.take_zero, List.nil_append, Nat.zero_add, List.drop_succ_cons, List.drop_zero]
      refine atA_none' (fun x hx => ?_)
      have := okGo_mem h.2 x hx
      omega
    · next hy =>
      cases hr : atA id r with
      | none => rw [hr] at hi; cases hi
      | some m =>
        rw [hr] at hi
        obtain rfl : m + 1 = i := by simpa using hi
        have := ih h.2 m hr
        simp only [List.take_succ_cons, List.drop_succ_cons, List.cons_append]
        unfold atA
        rw [if_neg hy, this]
        rfl
/-- What was put is there. -/
theorem out_at (xs : List Av) (a : Av) : ∃ k, ∃ hk : k < (outA xs a).length, atA a.id (outA xs a) = some k ∧ (outA xs a)[k] = a := by
  cases ha : atA a.id xs with
  | some i =>
    obtain ⟨h1, h2, h3⟩ := atA_some ha
    have e : outA xs a = xs.set i a := by unfold outA; rw [ha]
    have hk : i < (outA xs a).length := by rw [e, List.length_set]; exact h1
    have hg : (outA xs a)[i] = a := by simp only [e, List.getElem_set_self]
    refine ⟨i, hk, atA_hit hk (by rw [hg]) (fun j hj => ?_), hg⟩
    have : (outA xs a)[j]'(by omega) = xs[j] := by simp only [e]; rw [List.getElem_set_ne (by omega)]
    rw [this]
    exact h3 j hj
  | none =>
    have e : outA xs a = xs.take (placeA a.id xs) ++ a :: xs.drop (placeA a.id xs) := by unfold outA; rw [ha]
    have hp := placeA_le a.id xs
    have hl : (xs.take (placeA a.id xs)).length = placeA a.id xs := by rw [List.length_take]; omega
    have hk : placeA a.id xs < (outA xs a).length := by rw [e, List.length_append, hl, List.length_cons]; omega
    have hg : (outA xs a)[placeA a.id xs] = a := by
      simp only [e]
      rw [List.getElem_append_right (by omega)]
      simp [hl]
    refine ⟨_, hk, atA_hit hk (by rw [hg]) (fun j hj => ?_), hg⟩
    have : (outA xs a)[j]'(by omega) = xs[j]'(by omega) := by
      simp only [e]
      rw [List.getElem_append_left (by omega), List.getElem_take]
    rw [this]
    exact atA_none ha _ (List.getElem_mem _)
/-- How many are not told yet, without one of them. -/
theorem untold_less (xs : List Av) (k : Nat) (hk : k < xs.length) : (untoldA xs).length = (untoldA (xs.take k ++ xs.drop (k + 1))).length + (if xs[k].told = true then 0 else 1) := by
  have e : xs = xs.take k ++ xs[k] :: xs.drop (k + 1) := by rw [← List.drop_eq_getElem_cons hk, List.take_append_drop]
  conv => lhs; rw [e]
  rw [untold_append, untold_append]
  simp only [untoldA, List.length_append]
  split <;> simp <;> omega
end Go.Proofs.Ytoeflkmhofkiaaa
