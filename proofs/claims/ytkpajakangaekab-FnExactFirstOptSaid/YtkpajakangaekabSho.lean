import Derived.Test.YtkpajakangaekabOv
import Derived.Test.YtkpajakangaekabIn
import Derived.Test.YtkpajakangaekabRow1
import Derived.Test.YtkpajakangaekabNumS
import Derived.BigQuiet
import Derived.Lib.Hide
namespace Go.Proofs.Ytkpajakangaekab
open Go.RowKit

/-- The shape of a kind. -/
def shapeOf (k : Int) : ByteArray :=
  if k = 1 then ⟨#[107, 56]⟩ else if k = 2 then ⟨#[105, 49, 102, 49, 116, 52, 110, 52]⟩ else if k = 3 then ⟨#[105, 49, 102, 49, 109, 56, 110, 52]⟩ else if k = 4 then ⟨#[109, 58]⟩
  else if k = 5 then ⟨#[97, 54, 115, 54, 117, 52, 108, 50]⟩ else if k = 6 then ⟨#[105, 49, 100, 52, 112, 50, 109, 56]⟩ else if k = 7 then ⟨#[105, 49, 100, 52, 112, 50]⟩
  else if k = 9 then ⟨#[115, 54]⟩ else if k = 10 then ⟨#[107, 56]⟩ else ⟨#[]⟩

set_option maxHeartbeats 4000000 in
theorem spec_shape (k : Int) (h1 : 1 ≤ k) (h2 : k ≤ 10) (w : World) :
    Calls Try.prog 34 #[.int .i64 k] w fun e w' => e = .returned (.string (shapeOf k)) ∧ Below w.heap.size w w' := by
  have hc : k = 1 ∨ k = 2 ∨ k = 3 ∨ k = 4 ∨ k = 5 ∨ k = 6 ∨ k = 7 ∨ k = 8 ∨ k = 9 ∨ k = 10 := by omega
  clear h1 h2
  rcases hc with rfl | rfl | rfl | rfl | rfl | rfl | rfl | rfl | rfl | rfl
  all_goals
    go_enter Try.func34, Try.ntmps34
    go_wp2_with (fail)
    go_ret
    exact ⟨rfl, (Below.refl _ _).alloc (Nat.le_refl _) _⟩

/-- The number that a letter stands for. -/
def numL (o : Ov) (b : Int) : Option Int :=
  if b = 105 then some o.id else if b = 102 then some (if o.flag then 1 else 0) else if b = 116 then some o.token else if b = 110 then some o.nonce else if b = 97 then some o.ack
  else if b = 115 then some o.seq else if b = 117 then some o.sub else if b = 108 then some o.len else if b = 100 then some o.addr else if b = 112 then some o.port else none

/-- The text that a letter stands for. -/
def textL (o : Ov) (b : Int) : ByteArray := if b = 107 then o.key else o.mark

def wideOf (b : Int) : Int := if b = 58 then 20 else b - 48

set_option maxRecDepth 100000 in
set_option maxHeartbeats 4000000 in
theorem spec_numl (o : Ov) (v : Value) (b : Int) (w : World) :
    Calls Try.prog 36 #[.agg (o.cells v), .int .u8 b] w fun e w' => e = .returned (.tuple #[.int .i64 ((numL o b).getD 0), .bool (numL o b).isSome]) ∧ Below w.heap.size w w' := by
  obtain ⟨a0, a1, a2, a3, a4, a5, a6, a7, a8, a9, a10, a11, a12, a13⟩ := o.ats v
  unfold numL
  by_cases h1 : b = 105
  · subst h1
    go_enter Try.func36, Try.ntmps36
    go_wp2_with (fail)
    go_ret2
    exact ⟨rfl, (Below.refl _ _).alloc (Nat.le_refl _) _⟩
  by_cases h2 : b = 102
  · subst h2
    cases hf : o.flag
    · rw [hf] at a10
      clear hf
      go_enter Try.func36, Try.ntmps36
      go_wp2_with (fail)
      go_ret2
      exact ⟨rfl, (Below.refl _ _).alloc (Nat.le_refl _) _⟩
    · rw [hf] at a10
      clear hf
      go_enter Try.func36, Try.ntmps36
      go_wp2_with (fail)
      go_ret2
      exact ⟨rfl, (Below.refl _ _).alloc (Nat.le_refl _) _⟩
  by_cases h3 : b = 116
  · subst h3
    go_enter Try.func36, Try.ntmps36
    go_wp2_with (fail)
    go_ret2
    exact ⟨rfl, (Below.refl _ _).alloc (Nat.le_refl _) _⟩
  by_cases h4 : b = 110
  · subst h4
    go_enter Try.func36, Try.ntmps36
    go_wp2_with (fail)
    go_ret2
    exact ⟨rfl, (Below.refl _ _).alloc (Nat.le_refl _) _⟩
  by_cases h5 : b = 97
  · subst h5
    go_enter Try.func36, Try.ntmps36
    go_wp2_with (fail)
    go_ret2
    exact ⟨rfl, (Below.refl _ _).alloc (Nat.le_refl _) _⟩
  by_cases h6 : b = 115
  · subst h6
    go_enter Try.func36, Try.ntmps36
    go_wp2_with (fail)
    go_ret2
    exact ⟨rfl, (Below.refl _ _).alloc (Nat.le_refl _) _⟩
  by_cases h7 : b = 117
  · subst h7
    go_enter Try.func36, Try.ntmps36
    go_wp2_with (fail)
    go_ret2
    exact ⟨rfl, (Below.refl _ _).alloc (Nat.le_refl _) _⟩
  by_cases h8 : b = 108
  · subst h8
    go_enter Try.func36, Try.ntmps36
    go_wp2_with (fail)
    go_ret2
    exact ⟨rfl, (Below.refl _ _).alloc (Nat.le_refl _) _⟩
  by_cases h9 : b = 100
  · subst h9
    go_enter Try.func36, Try.ntmps36
    go_wp2_with (fail)
    go_ret2
    exact ⟨rfl, (Below.refl _ _).alloc (Nat.le_refl _) _⟩
  by_cases h10 : b = 112
  · subst h10
    go_enter Try.func36, Try.ntmps36
    go_wp2_with (fail)
    go_ret2
    exact ⟨rfl, (Below.refl _ _).alloc (Nat.le_refl _) _⟩
  rw [if_neg h1, if_neg h2, if_neg h3, if_neg h4, if_neg h5, if_neg h6, if_neg h7, if_neg h8, if_neg h9, if_neg h10]
  go_enter Try.func36, Try.ntmps36
  go_wp2_with (fail)
  go_ret2
  exact ⟨rfl, (Below.refl _ _).alloc (Nat.le_refl _) _⟩

theorem spec_textl (o : Ov) (v : Value) (b : Int) (w : World) :
    Calls Try.prog 39 #[.agg (o.cells v), .int .u8 b] w fun e w' => e = .returned (.string (textL o b)) ∧ Below w.heap.size w w' := by
  obtain ⟨a0, a1, a2, a3, a4, a5, a6, a7, a8, a9, a10, a11, a12, a13⟩ := o.ats v
  unfold textL
  by_cases h1 : b = 107
  · subst h1
    go_enter Try.func39, Try.ntmps39
    go_wp2_with (fail)
    go_ret
    exact ⟨rfl, (Below.refl _ _).alloc (Nat.le_refl _) _⟩
  · rw [if_neg h1]
    go_enter Try.func39, Try.ntmps39
    go_wp2_with (fail)
    go_ret
    exact ⟨rfl, (Below.refl _ _).alloc (Nat.le_refl _) _⟩

theorem spec_wide (b : Int) (h0 : 0 ≤ b) (h1 : b ≤ 255) (w : World) :
    Calls Try.prog 37 #[.int .u8 b] w fun e w' => e = .returned (.int .i64 (wideOf b)) ∧ w = w' := by
  unfold wideOf
  by_cases h : b = 58
  · subst h
    go_enter Try.func37, Try.ntmps37
    go_wp2_with (fail)
    go_ret
    exact ⟨rfl, rfl⟩
  · rw [if_neg h]
    have e3 : wrap64 b = b := IntWalk.wrap64_in _ ⟨by omega, by omega⟩
    go_enter Try.func37, Try.ntmps37
    go_wp2_with (fail)
    go_ret
    exact ⟨rfl, rfl⟩
end Go.Proofs.Ytkpajakangaekab
