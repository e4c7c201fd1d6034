import Derived.Test.YtoeflkmhofkiaaaRcl
namespace Go.Proofs.Ytoeflkmhofkiaaa
set_option maxRecDepth 100000

/-! Pending joins (chapter 14), on lists. -/
/-- A pending join. -/
structure Hv where
  road : Rv
  theirs : Int
  mine : Int
  give : Int
  take : Int
  till : Int
def Hv.zero : Hv := ⟨Rv.zero, 0, 0, 0, 0, 0⟩
instance : Inhabited Hv := ⟨Hv.zero⟩

/-- The first place with this path. -/
def plH (r : Rv) (hs : List Hv) : Nat := hs.findIdx fun h => decide (h.road = r)
def atH (hs : List Hv) (r : Rv) : Int := if plH r hs < hs.length then (plH r hs : Int) else -1
def numH (n : Int) : Bool := decide (0 ≤ n ∧ n ≤ 1000000000)
def roadH (r : Rv) : Bool := numH r.own && numH r.far && numH r.port
def numsH (h : Hv) : Bool := roadH h.road && numH h.theirs && numH h.mine && numH h.give && numH h.take && numH h.till
/-- All but the first k are good at their places. -/
def okFrom (hs : List Hv) (k : Nat) : Bool := (List.range' k (hs.length - k)).all fun i => numsH (hs.getD i Hv.zero) && decide (atH hs (hs.getD i Hv.zero).road = (i : Int))
def okH (hs : List Hv) : Bool := decide (hs.length ≤ 4) && okFrom hs 0
def putGo (hs : List Hv) (h : Hv) : List Hv := if plH h.road hs < hs.length then hs.set (plH h.road hs) h else hs ++ [h]
def putH (hs : List Hv) (h : Hv) : List Hv × Bool := if okH (putGo hs h) = true then (putGo hs h, true) else (hs, false)
def dropH (hs : List Hv) (r : Rv) : List Hv := hs.take (plH r hs) ++ hs.drop (plH r hs + 1)
def youngH (hs : List Hv) (now : Int) : List Hv := hs.filter fun h => decide (now < h.till)

theorem atH_in {hs : List Hv} {r : Rv} (h : plH r hs < hs.length) : atH hs r = (plH r hs : Int) := if_pos h
theorem atH_out {hs : List Hv} {r : Rv} (h : ¬ plH r hs < hs.length) : atH hs r = -1 := if_neg h
theorem plH_le (r : Rv) (hs : List Hv) : plH r hs ≤ hs.length := List.findIdx_le_length
theorem plH_at {r : Rv} {hs : List Hv} {k : Nat} (hk : k < hs.length) (h1 : ∀ j (_ : j < k) (h : j < hs.length), ¬ hs[j].road = r) (h2 : hs[k].road = r) : plH r hs = k := by
  unfold plH
  refine (List.findIdx_eq hk).2 ⟨by simpa using h2, fun j hj => ?_⟩
  have := h1 j hj (by omega)
  simpa using this
theorem plH_none {r : Rv} {hs : List Hv} (h1 : ∀ j (h : j < hs.length), ¬ hs[j].road = r) : plH r hs = hs.length := by
  unfold plH
  refine List.findIdx_eq_length.2 fun x hx => ?_
  obtain ⟨i, hi, rfl⟩ := List.mem_iff_getElem.1 hx
  simpa using h1 i hi
theorem plH_hit {r : Rv} {hs : List Hv} (h : plH r hs < hs.length) : hs[plH r hs].road = r := by
  have := List.findIdx_getElem (w := h)
  exact of_decide_eq_true this
theorem okFrom_end {hs : List Hv} {k : Nat} (h : hs.length ≤ k) : okFrom hs k = true := by
  unfold okFrom
  rw [show hs.length - k = 0 by omega]
  rfl
theorem okFrom_step {hs : List Hv} {k : Nat} (h : k < hs.length) : okFrom hs k = (numsH hs[k] && decide (atH hs hs[k].road = (k : Int)) && okFrom hs (k + 1)) := by
  unfold okFrom
  rw [show hs.length - k = (hs.length - (k + 1)) + 1 by omega, List.range'_succ, List.all_cons]
  have e : hs.getD k Hv.zero = hs[k] := by simp [List.getD, List.getElem?_eq_getElem h]
  rw [e]
theorem putGo_len (hs : List Hv) (h : Hv) : (putGo hs h).length ≤ hs.length + 1 := by
  unfold putGo
  split <;> simp
theorem put_len (hs : List Hv) (h : Hv) : (putH hs h).1.length ≤ hs.length + 1 := by
  unfold putH
  split
  · exact putGo_len hs h
  · exact Nat.le_succ _
theorem drop_lenH (hs : List Hv) (r : Rv) : (dropH hs r).length ≤ hs.length := by
  unfold dropH
  rw [List.length_append, List.length_take, List.length_drop]
  omega
theorem young_len (hs : List Hv) (now : Int) : (youngH hs now).length ≤ hs.length := List.length_filter_le _ _
theorem young_snoc (hs : List Hv) (now : Int) (h : Hv) : youngH (hs ++ [h]) now = youngH hs now ++ (if now < h.till then [h] else []) := by
  unfold youngH
  rw [List.filter_append]
  congr 1
  by_cases hh : now < h.till <;> simp [hh]
end Go.Proofs.Ytoeflkmhofkiaaa
