import Derived.Test.YtkpajakangaekabPar
namespace Go.Proofs.Ytkpajakangaekab
open Go.RowKit

/-- All of them in a row, or none where one is missing. -/
def rowOf (xs : List ByteArray) : ByteArray := if placeOf xs ⟨#[]⟩ < xs.length then ⟨#[]⟩ else joinOf xs

theorem impl_inarow (v : Value) (xs : List ByteArray) (w : World) (hv : VRd w v (strCs xs)) (hcap : ∃ a c, v = .slice a xs.length c ∧ xs.length ≤ c) (hn : xs.length ≤ 1048576) (hlen : (joinOf xs).size ≤ 1048576) :
    Calls Try.prog 102 #[v] w fun e w' => e = .returned (.string (rowOf xs)) ∧ Below w.heap.size w w' := by
  have c3 := contains_strs v xs ⟨#[]⟩ w hv hn
  unfold rowOf
  by_cases h3 : placeOf xs ⟨#[]⟩ < xs.length
  · rw [decide_eq_true h3] at c3
    rw [if_pos h3]
    clear h3
    go_enter Try.func102, Try.ntmps102
    go_wp2_with (fail)
    with_reducible refine c3.mono ?_
    rintro e w1 ⟨rfl, rfl⟩
    go_wp2_with (fail)
    go_ret
    exact ⟨rfl, Below.refl _ _⟩
  · rw [decide_eq_false h3] at c3
    rw [if_neg h3]
    have c4 := join_strs v xs w hv hn hcap hlen
    generalize joinOf xs = t at c4 ⊢
    clear h3 hlen
    go_enter Try.func102, Try.ntmps102
    go_wp2_with (fail)
    with_reducible refine c3.mono ?_
    rintro e w1 ⟨rfl, rfl⟩
    go_wp2_with (fail)
    with_reducible refine c4.mono ?_
    rintro e w2 ⟨rfl, hb2⟩
    go_wp2_with (fail)
    go_ret
    exact ⟨rfl, hb2⟩

/-- No part is missing: there are bytes. -/
theorem joinOf_some (xs : List ByteArray) (h : ¬ placeOf xs ⟨#[]⟩ < xs.length) (h0 : 0 < xs.length) : (joinOf xs).toList.isEmpty = false := by
  rw [placeOf_mem] at h
  match xs, h0 with
  | x :: r, _ =>
    have hx : x ≠ ⟨#[]⟩ := fun e => h (by rw [e]; simp)
    have e : ∀ z : ByteArray, z.toList = z.data.toList := fun z => ByteArray.toList_eq z
    rw [e]
    have hne : x.data.toList ≠ [] := fun h1 => hx (ByteArray.ext (Array.toList_inj.1 h1))
    cases hl : x.data.toList with
    | nil => exact absurd hl hne
    | cons a l => simp [joinOf, hl]
end Go.Proofs.Ytkpajakangaekab
