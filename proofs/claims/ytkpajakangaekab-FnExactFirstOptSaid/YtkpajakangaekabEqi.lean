import Derived.Test.YtkpajakangaekabIntsL
import Derived.BigQuiet
import Derived.Lib.Hide
namespace Go.Proofs.Ytkpajakangaekab
open Go.RowKit

/-- The first place where two lists part. -/
def agree : List Int → List Int → Nat
  | x :: xs, y :: ys => if x = y then agree xs ys + 1 else 0
  | _, _ => 0

theorem agree_le (xs ys : List Int) : agree xs ys ≤ xs.length := by
  induction xs generalizing ys with
  | nil => cases ys <;> simp [agree]
  | cons x xs ih =>
    cases ys with
    | nil => simp [agree]
    | cons y ys => have := ih ys; unfold agree; split <;> simp <;> omega

theorem agree_eq (xs ys : List Int) (j : Nat) (h : j < agree xs ys) (h1 : j < xs.length) (h2 : j < ys.length) : xs[j] = ys[j] := by
  induction xs generalizing ys j with
  | nil => simp at h1
  | cons x xs ih =>
    cases ys with
    | nil => simp at h2
    | cons y ys =>
      unfold agree at h
      split at h
      · rename_i hx
        cases j with
        | zero => simpa using hx
        | succ j => simpa using ih ys j (by omega) (by simpa using h1) (by simpa using h2)
      · omega

theorem agree_ne (xs ys : List Int) (h : agree xs ys < xs.length) (h2 : agree xs ys < ys.length) : ¬ xs[agree xs ys] = ys[agree xs ys] := by
  induction xs generalizing ys with
  | nil => simp at h
  | cons x xs ih =>
    cases ys with
    | nil => simp at h2
    | cons y ys =>
      by_cases hx : x = y
      · have e : agree (x :: xs) (y :: ys) = agree xs ys + 1 := by simp [agree, hx]
        simp only [e] at h h2 ⊢
        simpa using ih ys (by simpa using h) (by simpa using h2)
      · have e : agree (x :: xs) (y :: ys) = 0 := by simp [agree, hx]
        simp only [e]
        simpa using hx

theorem agree_all (xs ys : List Int) (hl : xs.length = ys.length) (h : agree xs ys = xs.length) : xs = ys :=
  List.ext_getElem hl fun j h1 h2 => agree_eq xs ys j (by omega) h1 h2

set_option maxHeartbeats 1000000 in
theorem equal_ints (v v' : Value) (xs ys : List Int) (w : World) (hv : Rd w v xs) (hv' : Rd w v' ys) (hn : xs.length ≤ 1048576) (hn' : ys.length ≤ 1048576) :
    Calls Try.prog 43 #[v, v'] w fun e w' => e = .returned (.bool (decide (xs = ys))) ∧ ∃ m, w' = w.drewN m := by
  obtain ⟨a, c, rfl, hc⟩ := hv
  obtain ⟨a', c', rfl, hc'⟩ := hv'
  generalize hr : decide (xs = ys) = r
  have HR := Lib.hid hr
  clear hr
  by_cases hl : xs.length = ys.length
  · have hle := agree_le xs ys
    rw [hl]
    have HL := Lib.hid hl
    clear hl
    go_enter Try.func43, Try.ntmps43
    go_wp2_with (fail)
    go_loopw [13] (fun i wr => ∃ k : Nat, k ≤ agree xs ys ∧ i = .int .i64 k ∧ ∃ m, wr = w.drewN m) (fun i _ => ys.length - (intOf i).toNat)
    case atStart => exact ⟨0, by omega, rfl, 0, rfl⟩
    case round =>
      obtain ⟨k, hk, rfl, m, rfl⟩ := hrel
      have hxl := HL.out
      by_cases hlt : k < ys.length
      · obtain ⟨b, off, rfl, hcc⟩ := hc (by omega)
        obtain ⟨b', off', rfl, hcc'⟩ := hc' (by omega)
        have h1 := hcc k (by omega)
        have h2 := hcc' k hlt
        have q : (0 : Int) ≤ (k : Int) ∧ (k : Int) < (ys.length : Int) := by omega
        by_cases he : k < agree xs ys
        · rw [agree_eq xs ys k he (by omega) hlt] at h1
          generalize ys[k] = x at h1 h2
          clear hc hc' hcc hcc' hxl
          go_wp2_with (fail)
          go_quiet (fail)
          go_wp2_with (fail)
          go_roundw
          case rel => exact ⟨k + 1, by omega, by go_num, _, by first | rfl | exact World.drewN_drewN _ _ _⟩
          case measure => simp [intOf]; omega
        · obtain rfl : k = agree xs ys := by omega
          have hne := agree_ne xs ys (by omega) hlt
          have hno : ¬ xs = ys := fun h => hne (by simp [h])
          have hb : ((xs[agree xs ys]'(by omega)) == ys[agree xs ys]) = false := by simpa using hne
          have HN := Lib.hid hno
          generalize (xs[agree xs ys]'(by omega)) = x at h1 hne hb
          generalize ys[agree xs ys] = y at h2 hne hb
          generalize agree xs ys = k at *
          clear hc hc' hcc hcc' hxl hno hle
          go_wp2_with (fail)
          go_quiet (fail)
          go_wp2_with (fail)
          go_ret
          exact ⟨by rw [← HR.out, decide_eq_false HN.out]; rfl, _, by first | rfl | exact World.drewN_drewN _ _ _⟩
      · have q : ¬ ((k : Int) < (ys.length : Int)) := by omega
        have HN := Lib.hid (agree_all xs ys hxl (by omega))
        clear hxl
        go_wp2_with (fail)
        go_ret
        exact ⟨by rw [← HR.out, decide_eq_true HN.out]; rfl, _, rfl⟩
  · have hb : ((xs.length : Int) == (ys.length : Int)) = false := by simp; omega
    have hne : ¬ (xs.length : Int) = (ys.length : Int) := by omega
    have HN := Lib.hid (fun h : xs = ys => hl (by rw [h]))
    clear hl
    go_enter Try.func43, Try.ntmps43
    go_wp2_with (fail)
    go_ret
    exact ⟨by rw [← HR.out, decide_eq_false HN.out]; rfl, 0, rfl⟩
end Go.Proofs.Ytkpajakangaekab
