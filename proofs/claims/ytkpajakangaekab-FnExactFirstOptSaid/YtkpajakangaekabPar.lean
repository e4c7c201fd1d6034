import Derived.Test.YtkpajakangaekabJoin
import Derived.Test.YtkpajakangaekabRow1
import Derived.Lib.Hide
namespace Go.Proofs.Ytkpajakangaekab
open Go.RowKit

/-- A list of strings as cells. -/
def strCs (xs : List ByteArray) : List Value := xs.map .string
theorem strCs_length (xs : List ByteArray) : (strCs xs).length = xs.length := by simp [strCs]
theorem strCs_get (xs : List ByteArray) (k : Nat) (h : k < xs.length) : (strCs xs)[k]'(by rw [strCs_length]; exact h) = .string xs[k] := by simp [strCs]

/-- The first place of y. -/
def placeOf (xs : List ByteArray) (y : ByteArray) : Nat := xs.findIdx (fun x => decide (x = y))
theorem placeOf_le (xs : List ByteArray) (y : ByteArray) : placeOf xs y ≤ xs.length := List.findIdx_le_length
theorem placeOf_lt (xs : List ByteArray) (y : ByteArray) (k : Nat) (h : k < placeOf xs y) (hk : k < xs.length) : xs[k] ≠ y := by
  have := List.not_of_lt_findIdx h
  simpa using this
theorem placeOf_at (xs : List ByteArray) (y : ByteArray) (h : placeOf xs y < xs.length) : xs[placeOf xs y] = y := by
  have := List.findIdx_getElem (p := fun x => decide (x = y)) (w := h)
  exact of_decide_eq_true this
theorem placeOf_mem (xs : List ByteArray) (y : ByteArray) : placeOf xs y < xs.length ↔ y ∈ xs := by
  unfold placeOf
  rw [List.findIdx_lt_length]
  simp

theorem toList_beq (x y : ByteArray) : (x.toList == y.toList) = decide (x = y) := by
  rw [Bool.eq_iff_iff]
  simp only [beq_iff_eq, decide_eq_true_eq]
  exact ⟨fun h => by
    have e : ∀ z : ByteArray, z.toList = z.data.toList := fun z => ByteArray.toList_eq z
    rw [e, e] at h
    exact ByteArray.ext (Array.toList_inj.1 h), fun h => h ▸ rfl⟩

/-- What slices.Index answers. -/
def indexOf (xs : List ByteArray) (y : ByteArray) : Int := if placeOf xs y < xs.length then (placeOf xs y : Int) else -1

set_option maxHeartbeats 1000000 in
theorem index_strs (v : Value) (xs : List ByteArray) (y : ByteArray) (w : World) (hv : VRd w v (strCs xs)) (hn : xs.length ≤ 1048576) :
    Calls Try.prog 106 #[v, .string y] w fun e w' => e = .returned (.int .i64 (indexOf xs y)) ∧ w = w' := by
  obtain ⟨a, c, rfl, hc⟩ := hv
  rw [strCs_length]
  have hle := placeOf_le xs y
  go_enter Try.func106, Try.ntmps106
  go_wp2_with (fail)
  go_loop [8] (fun i => ∃ k : Nat, k ≤ placeOf xs y ∧ i = .int .i64 k) (fun i => xs.length - (intOf i).toNat)
  case atStart => exact ⟨0, by omega, rfl⟩
  case round =>
    obtain ⟨k, hk, rfl⟩ := hrel
    by_cases hlt : k < xs.length
    · obtain ⟨b, off, rfl, hcc⟩ := hc (by rw [strCs_length]; omega)
      have h1 := hcc k (by rw [strCs_length]; exact hlt)
      rw [strCs_get xs k hlt] at h1
      have q : (k : Int) < (xs.length : Int) := by omega
      by_cases he : k < placeOf xs y
      · have hb := toList_beq y xs[k]
        rw [decide_eq_false (fun h => placeOf_lt xs y k he hlt h.symm)] at hb
        generalize xs[k] = x at h1 hb
        go_wp2_with (fail)
        go_round
        case rel => exact ⟨k + 1, by omega, by go_num⟩
        case measure => simp [intOf]; omega
      · obtain rfl : k = placeOf xs y := by omega
        have hb := toList_beq y xs[placeOf xs y]
        rw [decide_eq_true (placeOf_at xs y hlt).symm] at hb
        have hi : indexOf xs y = (placeOf xs y : Int) := by unfold indexOf; rw [if_pos hlt]
        have HI := Lib.hid hi
        clear hi
        generalize xs[placeOf xs y] = x at h1 hb
        go_wp2_with (fail)
        go_ret
        exact ⟨by rw [HI.out]; rfl, rfl⟩
    · obtain rfl : k = xs.length := by omega
      have q : ¬ ((xs.length : Int) < (xs.length : Int)) := by omega
      have hi : indexOf xs y = -1 := by unfold indexOf; rw [if_neg (by omega)]
      have HI := Lib.hid hi
      clear hi
      go_wp2_with (fail)
      go_ret
      exact ⟨by rw [HI.out]; rfl, rfl⟩

theorem contains_strs (v : Value) (xs : List ByteArray) (y : ByteArray) (w : World) (hv : VRd w v (strCs xs)) (hn : xs.length ≤ 1048576) :
    Calls Try.prog 104 #[v, .string y] w fun e w' => e = .returned (.bool (decide (placeOf xs y < xs.length))) ∧ w = w' := by
  have c1 := index_strs v xs y w hv hn
  have hb : decide (0 ≤ indexOf xs y) = decide (placeOf xs y < xs.length) := by
    unfold indexOf
    by_cases h : placeOf xs y < xs.length
    · rw [if_pos h, decide_eq_true h, decide_eq_true (by omega)]
    · rw [if_neg h, decide_eq_false h, decide_eq_false (by omega)]
  generalize decide (placeOf xs y < xs.length) = r at hb ⊢
  generalize indexOf xs y = i at c1 hb
  have HB := Lib.hid hb
  clear hb
  go_enter Try.func104, Try.ntmps104
  go_wp2_with (fail)
  with_reducible refine c1.mono ?_
  rintro e w1 ⟨rfl, rfl⟩
  go_wp2_with (fail)
  go_ret
  exact ⟨by rw [← HB.out]; rfl, rfl⟩

/-- All of them in a row. -/
def joinOf (xs : List ByteArray) : ByteArray := ⟨(xs.map (·.data.toList)).flatten.toArray⟩

theorem joinOf_lib (xs : List ByteArray) : Lib.join (xs.map (·.data.toList)) (⟨#[]⟩ : ByteArray).data.toList = (xs.map (·.data.toList)).flatten := by
  match xs with
  | [] => rfl
  | x :: r =>
    rw [List.map_cons, Lib.join_cons, List.flatten_cons]
    congr 1
    unfold Lib.joinTail
    simp
    rfl

theorem join_strs (v : Value) (xs : List ByteArray) (w : World) (hv : VRd w v (strCs xs)) (hn : xs.length ≤ 1048576) (hcap : ∃ a c, v = .slice a xs.length c ∧ xs.length ≤ c) (hlen : (joinOf xs).size ≤ 1048576) :
    Calls Try.prog 105 #[v, .string ⟨#[]⟩] w fun e w' => e = .returned (.string (joinOf xs)) ∧ Below w.heap.size w w' := by
  obtain ⟨a, c, rfl, hc⟩ := hv
  obtain ⟨a', c', hv', hcap⟩ := hcap
  rw [strCs_length] at hv' ⊢
  injection hv' with _ _ e3
  subst e3
  match hxs : xs, hc with
  | [], _ =>
    exact (Try.strings_Join_none a c ⟨#[]⟩ w).mono fun e w' ⟨he, hw⟩ => ⟨he, hw ▸ Below.refl _ _⟩
  | x :: r, hc =>
    obtain ⟨b, off, rfl, hcc⟩ := hc (by rw [strCs_length]; simp)
    have hc0 := hcc 0 (by rw [strCs_length]; simp)
    have hlt := World.block_lt_of_cell? _ _ hc0
    have h := Try.strings_Join b off c (x :: r) ⟨#[]⟩ w (fun j y hj => by
      have hj2 := (List.getElem?_eq_some_iff.1 hj)
      obtain ⟨hj2, hj3⟩ := hj2
      have := hcc j (by rw [strCs_length]; exact hj2)
      rw [strCs_get _ j hj2, hj3] at this
      exact this) hlt (by omega) hcap (by rw [joinOf_lib]; have : (joinOf (x :: r)).size = ((x :: r).map (·.data.toList)).flatten.length := by show (List.toArray _).size = _; simp only [List.size_toArray]
                                          omega)
    rw [joinOf_lib] at h
    exact h
end Go.Proofs.Ytkpajakangaekab
