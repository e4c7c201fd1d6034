import Derived.Test.YtkpajakangaekabNumT
import Derived.Test.YtkpajakangaekabNumI
namespace Go.Proofs.Ytkpajakangaekab
open Go.RowKit

theorem spec_numt1_big (n : Int) (W0 : World) (hn : 256 ≤ n) :
    Calls Try.prog 38 #[.int .i64 n, .int .i64 1] W0 fun e w' => e = .returned (.string ⟨#[]⟩) ∧ Below W0.heap.size W0 w' := by
  have ci := fun W => spec_in 1 1 6 W
  rw [decide_eq_true (show 1 ≤ (1 : Int) ∧ (1 : Int) ≤ 6 by omega)] at ci
  have hq : ¬ n < 0 := by omega
  have hq2 : 0 < n / 256 := by omega
  go_enter Try.func38, Try.ntmps38
  go_wp2_with (go_at_call 33; (with_reducible refine (ci _).mono ?_); rintro e w2 ⟨rfl, rfl⟩)
  go_ret
  exact ⟨rfl, Below.refl _ _⟩

theorem spec_numt2_big (n : Int) (W0 : World) (hn : 65536 ≤ n) :
    Calls Try.prog 38 #[.int .i64 n, .int .i64 2] W0 fun e w' => e = .returned (.string ⟨#[]⟩) ∧ Below W0.heap.size W0 w' := by
  have ci := fun W => spec_in 2 1 6 W
  rw [decide_eq_true (show 1 ≤ (2 : Int) ∧ (2 : Int) ≤ 6 by omega)] at ci
  have hq : ¬ n < 0 := by omega
  have hq2 : 0 < n / 65536 := by omega
  go_enter Try.func38, Try.ntmps38
  go_wp2_with (go_at_call 33; (with_reducible refine (ci _).mono ?_); rintro e w2 ⟨rfl, rfl⟩)
  go_ret
  exact ⟨rfl, Below.refl _ _⟩

theorem spec_numt3_big (n : Int) (W0 : World) (hn : 16777216 ≤ n) :
    Calls Try.prog 38 #[.int .i64 n, .int .i64 3] W0 fun e w' => e = .returned (.string ⟨#[]⟩) ∧ Below W0.heap.size W0 w' := by
  have ci := fun W => spec_in 3 1 6 W
  rw [decide_eq_true (show 1 ≤ (3 : Int) ∧ (3 : Int) ≤ 6 by omega)] at ci
  have hq : ¬ n < 0 := by omega
  have hq2 : 0 < n / 16777216 := by omega
  go_enter Try.func38, Try.ntmps38
  go_wp2_with (go_at_call 33; (with_reducible refine (ci _).mono ?_); rintro e w2 ⟨rfl, rfl⟩)
  go_ret
  exact ⟨rfl, Below.refl _ _⟩

theorem spec_numt4_big (n : Int) (W0 : World) (hn : 4294967296 ≤ n) :
    Calls Try.prog 38 #[.int .i64 n, .int .i64 4] W0 fun e w' => e = .returned (.string ⟨#[]⟩) ∧ Below W0.heap.size W0 w' := by
  have ci := fun W => spec_in 4 1 6 W
  rw [decide_eq_true (show 1 ≤ (4 : Int) ∧ (4 : Int) ≤ 6 by omega)] at ci
  have hq : ¬ n < 0 := by omega
  have hq2 : 0 < n / 4294967296 := by omega
  go_enter Try.func38, Try.ntmps38
  go_wp2_with (go_at_call 33; (with_reducible refine (ci _).mono ?_); rintro e w2 ⟨rfl, rfl⟩)
  go_ret
  exact ⟨rfl, Below.refl _ _⟩

theorem spec_numt5_big (n : Int) (W0 : World) (hn : 1099511627776 ≤ n) :
    Calls Try.prog 38 #[.int .i64 n, .int .i64 5] W0 fun e w' => e = .returned (.string ⟨#[]⟩) ∧ Below W0.heap.size W0 w' := by
  have ci := fun W => spec_in 5 1 6 W
  rw [decide_eq_true (show 1 ≤ (5 : Int) ∧ (5 : Int) ≤ 6 by omega)] at ci
  have hq : ¬ n < 0 := by omega
  have hq2 : 0 < n / 1099511627776 := by omega
  go_enter Try.func38, Try.ntmps38
  go_wp2_with (go_at_call 33; (with_reducible refine (ci _).mono ?_); rintro e w2 ⟨rfl, rfl⟩)
  go_ret
  exact ⟨rfl, Below.refl _ _⟩

theorem spec_numt6_big (n : Int) (W0 : World) (hn : 281474976710656 ≤ n) :
    Calls Try.prog 38 #[.int .i64 n, .int .i64 6] W0 fun e w' => e = .returned (.string ⟨#[]⟩) ∧ Below W0.heap.size W0 w' := by
  have ci := fun W => spec_in 6 1 6 W
  rw [decide_eq_true (show 1 ≤ (6 : Int) ∧ (6 : Int) ≤ 6 by omega)] at ci
  have hq : ¬ n < 0 := by omega
  have hq2 : 0 < n / 281474976710656 := by omega
  go_enter Try.func38, Try.ntmps38
  go_wp2_with (go_at_call 33; (with_reducible refine (ci _).mono ?_); rintro e w2 ⟨rfl, rfl⟩)
  go_ret
  exact ⟨rfl, Below.refl _ _⟩

theorem spec_numt_out (n m : Int) (W0 : World) (h : ¬ (1 ≤ m ∧ m ≤ 6)) :
    Calls Try.prog 38 #[.int .i64 n, .int .i64 m] W0 fun e w' => e = .returned (.string ⟨#[]⟩) ∧ Below W0.heap.size W0 w' := by
  have ci := fun W => spec_in m 1 6 W
  rw [decide_eq_false h] at ci
  clear h
  go_enter Try.func38, Try.ntmps38
  go_wp2_with (go_at_call 33; (with_reducible refine (ci _).mono ?_); rintro e w2 ⟨rfl, rfl⟩)
  go_ret
  exact ⟨rfl, Below.refl _ _⟩

theorem spec_numt_neg (n m : Int) (W0 : World) (h1 : 1 ≤ m) (h6 : m ≤ 6) (hn : n < 0) :
    Calls Try.prog 38 #[.int .i64 n, .int .i64 m] W0 fun e w' => e = .returned (.string ⟨#[]⟩) ∧ Below W0.heap.size W0 w' := by
  have ci := fun W => spec_in m 1 6 W
  rw [decide_eq_true (show 1 ≤ m ∧ m ≤ 6 by omega)] at ci
  go_enter Try.func38, Try.ntmps38
  go_wp2_with (go_at_call 33; (with_reducible refine (ci _).mono ?_); rintro e w2 ⟨rfl, rfl⟩)
  go_ret
  exact ⟨rfl, Below.refl _ _⟩

theorem spec_numTextA (n m : Int) (W0 : World) :
    Calls Try.prog 38 #[.int .i64 n, .int .i64 m] W0 fun e w' => e = .returned (.string (numText n m)) ∧ Below W0.heap.size W0 w' := by
  unfold numText
  by_cases hw : 1 ≤ m ∧ m ≤ 6
  · obtain ⟨h1, h6⟩ := hw
    by_cases h0 : n < 0
    · rw [if_neg (by omega)]; exact spec_numt_neg n m W0 h1 h6 h0
    · obtain ⟨k, rfl⟩ : ∃ k : Nat, n = k := ⟨n.toNat, by omega⟩
      have hc : m = 1 ∨ m = 2 ∨ m = 3 ∨ m = 4 ∨ m = 5 ∨ m = 6 := by omega
      rcases hc with rfl | rfl | rfl | rfl | rfl | rfl
      · by_cases hb : k < 256
        · rw [if_pos ⟨by omega, by omega, by omega, by show (k : Int) < 256 ^ 1; omega⟩]; exact spec_num1 k W0 hb
        · rw [if_neg (fun h => by have : (k : Int) < 256 ^ 1 := h.2.2.2; omega)]; exact spec_numt1_big k W0 (by omega)
      · by_cases hb : k < 65536
        · rw [if_pos ⟨by omega, by omega, by omega, by show (k : Int) < 256 ^ 2; omega⟩]; exact spec_num2 k W0 hb
        · rw [if_neg (fun h => by have : (k : Int) < 256 ^ 2 := h.2.2.2; omega)]; exact spec_numt2_big k W0 (by omega)
      · by_cases hb : k < 16777216
        · rw [if_pos ⟨by omega, by omega, by omega, by show (k : Int) < 256 ^ 3; omega⟩]; exact spec_num3 k W0 hb
        · rw [if_neg (fun h => by have : (k : Int) < 256 ^ 3 := h.2.2.2; omega)]; exact spec_numt3_big k W0 (by omega)
      · by_cases hb : k < 4294967296
        · rw [if_pos ⟨by omega, by omega, by omega, by show (k : Int) < 256 ^ 4; omega⟩]; exact spec_num4 k W0 hb
        · rw [if_neg (fun h => by have : (k : Int) < 256 ^ 4 := h.2.2.2; omega)]; exact spec_numt4_big k W0 (by omega)
      · by_cases hb : k < 1099511627776
        · rw [if_pos ⟨by omega, by omega, by omega, by show (k : Int) < 256 ^ 5; omega⟩]; exact spec_num5 k W0 hb
        · rw [if_neg (fun h => by have : (k : Int) < 256 ^ 5 := h.2.2.2; omega)]; exact spec_numt5_big k W0 (by omega)
      · by_cases hb : k < 281474976710656
        · rw [if_pos ⟨by omega, by omega, by omega, by show (k : Int) < 256 ^ 6; omega⟩]; exact spec_num6 k W0 hb
        · rw [if_neg (fun h => by have : (k : Int) < 256 ^ 6 := h.2.2.2; omega)]; exact spec_numt6_big k W0 (by omega)
  · rw [if_neg (by omega)]; exact spec_numt_out n m W0 hw

end Go.Proofs.Ytkpajakangaekab
