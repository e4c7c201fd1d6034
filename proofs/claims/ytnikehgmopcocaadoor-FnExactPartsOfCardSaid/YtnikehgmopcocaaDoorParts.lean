import Derived.Test.YtnikehgmopcocaaDoorRow1
import Derived.Test.YtnikehgmopcocaaDoorQuiet
import Derived.Test.YtnikehgmopcocaaDoorFld
import Derived.Lib.Fields
import Derived.Lib.Strings
import Derived.Laws.DeepStrings4
namespace Go.Proofs.YtnikehgmopcocaaDoor
open Go.RowKit

/-- A byte that a line may hold. -/
def okByte (b : UInt8) : Bool := decide (32 ≤ b.toNat ∧ b.toNat ≤ 126)

/-- All bytes before k are right. -/
def okTo (s : ByteArray) (k : Nat) : Prop := ∀ j, j < k → ∀ b, s.data.toList[j]? = some b → okByte b = true

def lineOk (s : ByteArray) : Bool := decide (s.size ≤ 600) && s.data.toList.all okByte && decide ((Lib.fields s.data.toList).length ≤ 12)

/-- What PartsOf answers. -/
def partsR (s : ByteArray) : List ByteArray × Bool := if lineOk s then ((Lib.fields s.data.toList).map fun l => ⟨l.toArray⟩, true) else ([], false)

theorem byte_get (s : ByteArray) (k : Nat) (h : k < s.size) : s.data.toList[k]? = some s[k] := by
  rw [List.getElem?_eq_getElem (by simpa using h)]; simp; rfl

theorem okTo_zero (s : ByteArray) : okTo s 0 := fun j hj => by omega
theorem okTo_succ {s : ByteArray} {k : Nat} (h : okTo s k) (hk : k < s.size) (hb : okByte s[k] = true) : okTo s (k + 1) := by
  intro j hj b hjb
  by_cases e : j = k
  · subst e
    rw [byte_get s j hk] at hjb
    obtain rfl := Option.some.inj hjb
    exact hb
  · exact h j (by omega) b hjb
theorem okTo_all {s : ByteArray} (h : okTo s s.size) : s.data.toList.all okByte = true := by
  rw [List.all_eq_true]
  intro b hb
  obtain ⟨j, hj, rfl⟩ := List.getElem_of_mem hb
  exact h j (by simpa using hj) _ (List.getElem?_eq_getElem hj)
theorem bad_all {s : ByteArray} {k : Nat} (hk : k < s.size) (hb : okByte s[k] = false) : s.data.toList.all okByte = false := by
  rw [Bool.eq_false_iff]
  intro h
  rw [List.all_eq_true] at h
  have := h s[k] (List.mem_of_getElem? (byte_get s k hk))
  rw [hb] at this
  cases this

theorem partsR_long {s : ByteArray} (h : 600 < s.size) : partsR s = ([], false) := by
  unfold partsR lineOk
  rw [decide_eq_false (by omega)]
  simp
theorem partsR_bad {s : ByteArray} (h : s.data.toList.all okByte = false) : partsR s = ([], false) := by
  unfold partsR lineOk
  rw [h]
  simp
theorem partsR_many {s : ByteArray} (h : 12 < (Lib.fields s.data.toList).length) : partsR s = ([], false) := by
  unfold partsR lineOk
  rw [decide_eq_false (show ¬ (Lib.fields s.data.toList).length ≤ 12 by omega)]
  simp
theorem partsR_ok {s : ByteArray} (h1 : s.size ≤ 600) (h2 : s.data.toList.all okByte = true) (h3 : (Lib.fields s.data.toList).length ≤ 12) : partsR s = ((Lib.fields s.data.toList).map fun l => ⟨l.toArray⟩, true) := by
  unfold partsR lineOk
  rw [decide_eq_true h1, h2, decide_eq_true h3]
  rfl

theorem isSp_ok {b : UInt8} (h : okByte b = true) : Lib.isSp b = (b == 32) := by
  have h' := of_decide_eq_true h
  have : ∀ m : Fin 256, 32 ≤ m.val → Lib.isSp (UInt8.ofNat m.val) = ((UInt8.ofNat m.val) == 32) := by decide +kernel
  have h2 := this ⟨b.toNat, b.toNat_lt⟩ h'.1
  simpa using h2

/-- The words so far: what is done, and the word under way. -/
def splitAt (s : ByteArray) (ps : List ByteArray) (b k : Nat) : Prop :=
  Lib.fields s.data.toList = ps.map (·.data.toList) ++ Lib.fieldsGo ((s.data.toList.take k).drop b) (s.data.toList.drop k)

theorem split_start (s : ByteArray) : splitAt s [] 0 0 := by unfold splitAt; simp [Lib.fields]

theorem drop_get (s : ByteArray) (k : Nat) (h : k < s.size) : s.data.toList.drop k = s[k] :: s.data.toList.drop (k + 1) := by
  have hl : k < s.data.toList.length := by simpa using h
  rw [List.drop_eq_getElem_cons hl]
  congr 1

theorem split_word {s : ByteArray} {ps : List ByteArray} {b k : Nat} (h : splitAt s ps b k) (hbk : b ≤ k) (hk : k < s.size) (hb : okByte s[k] = true) (h32 : s[k] ≠ 32) : splitAt s ps b (k + 1) := by
  unfold splitAt at h ⊢
  have hl : k < s.data.toList.length := by simpa using hk
  have hs : Lib.isSp s[k] = false := by rw [isSp_ok hb]; simpa using h32
  rw [h, drop_get s k hk, Lib.fieldsGo, if_neg (by rw [hs]; simp)]
  congr 2
  rw [List.take_succ_eq_append_getElem hl, List.drop_append_of_le_length (by rw [List.length_take]; omega)]
  congr 1

theorem split_blank {s : ByteArray} {ps : List ByteArray} {k : Nat} (h : splitAt s ps k k) (hk : k < s.size) (h32 : s[k] = 32) : splitAt s ps (k + 1) (k + 1) := by
  unfold splitAt at h ⊢
  have hs : Lib.isSp s[k] = true := by rw [h32]; rfl
  have e1 : (s.data.toList.take k).drop k = [] := by apply List.drop_of_length_le; rw [List.length_take]; omega
  have e2 : (s.data.toList.take (k + 1)).drop (k + 1) = [] := by apply List.drop_of_length_le; rw [List.length_take]; omega
  rw [h, drop_get s k hk, Lib.fieldsGo, if_pos hs, e1, e2]
  rfl

theorem split_end {s : ByteArray} {ps : List ByteArray} {b k : Nat} (h : splitAt s ps b k) (hbk : b < k) (hk : k < s.size) (h32 : s[k] = 32) : splitAt s (ps ++ [s.extract b k]) (k + 1) (k + 1) := by
  unfold splitAt at h ⊢
  have hs : Lib.isSp s[k] = true := by rw [h32]; rfl
  have hl : k ≤ s.data.toList.length := by have : s.data.toList.length = s.size := by simp
                                           omega
  have e0 : ((s.data.toList.take k).drop b).isEmpty = false := by
    rw [List.isEmpty_eq_false_iff]
    intro e
    have := congrArg List.length e
    rw [List.length_drop, List.length_take] at this
    simp at this
    omega
  have e2 : (s.data.toList.take (k + 1)).drop (k + 1) = [] := by apply List.drop_of_length_le; rw [List.length_take]; omega
  rw [h, drop_get s k hk, Lib.fieldsGo, if_pos hs, e0, e2, List.map_append, List.append_assoc]
  simp only [List.map_cons, List.map_nil, Lib.extract_data, Bool.false_eq_true, ↓reduceIte, List.cons_append, List.nil_append]
  rw [List.take_drop, show b + (k - b) = k by omega]

/-- At the text's end. -/
theorem split_last {s : ByteArray} {ps : List ByteArray} {b : Nat} (h : splitAt s ps b s.size) (hb : b < s.size) : Lib.fields s.data.toList = (ps ++ [s.extract b s.size]).map (·.data.toList) := by
  unfold splitAt at h
  have hl : s.data.toList.length = s.size := by simp
  rw [h, List.drop_of_length_le (show s.data.toList.length ≤ s.size by omega), List.map_append]
  congr 1
  rw [List.take_of_length_le (by omega)]
  have e0 : (s.data.toList.drop b).isEmpty = false := by
    rw [List.isEmpty_eq_false_iff]
    intro e
    have := congrArg List.length e
    rw [List.length_drop] at this
    simp at this
    omega
  simp only [Lib.fieldsGo, e0, Bool.false_eq_true, ↓reduceIte, List.map_cons, List.map_nil, Lib.extract_data]
  rw [List.take_of_length_le (by rw [List.length_drop]; omega)]

theorem split_none {s : ByteArray} {ps : List ByteArray} {b : Nat} (h : splitAt s ps b s.size) (hb : s.size ≤ b) : Lib.fields s.data.toList = ps.map (·.data.toList) := by
  unfold splitAt at h
  have hl : s.data.toList.length = s.size := by simp
  rw [h, List.drop_of_length_le (show s.data.toList.length ≤ s.size by omega), List.drop_of_length_le (by rw [List.length_take]; omega)]
  simp [Lib.fieldsGo]

theorem parts_back (l : List (List UInt8)) (ps : List ByteArray) (h : l = ps.map (·.data.toList)) : (l.map fun x => (⟨x.toArray⟩ : ByteArray)) = ps := by
  subst h
  rw [List.map_map]
  have : ((fun x => (⟨x.toArray⟩ : ByteArray)) ∘ fun b : ByteArray => b.data.toList) = id := by funext b; simp
  rw [this, List.map_id]

attribute [irreducible] okByte lineOk partsR splitAt
end Go.Proofs.YtnikehgmopcocaaDoor
