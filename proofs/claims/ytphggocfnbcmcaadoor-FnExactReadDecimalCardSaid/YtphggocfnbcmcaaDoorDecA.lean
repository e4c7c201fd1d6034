import Derived.Test.YtphggocfnbcmcaaDoorRows
import Derived.WalkKit
import Derived.WalkSpells
import Derived.IntWalk
import Derived.Laws.BytesArg
import Derived.Lib.Hide
import Derived.Lib.ItoaNum
namespace Go.Proofs.YtphggocfnbcmcaaDoor
open Go.RowKit

theorem ret_int {k : IntKind} {a b : Int} (h : a = b) : Ending.returned (.int k a) = .returned (.int k b) := by rw [h]

def fig (x : Int) : Int := if x < 10 then 48 + x else 97 + x - 10

theorem figure_call (x : Int) (w : World) (h0 : 0 ≤ x) (h1 : x ≤ 15) :
    Calls Tryd.prog 26 #[.int .i64 x] w fun e w' => e = .returned (.int .u8 (fig x)) ∧ w = w' := by
  by_cases h : x < 10
  all_goals
    go_enter Tryd.func26, Tryd.ntmps26
    go_wp2
    go_ret
    exact ⟨ret_int (by unfold fig; split <;> omega), rfl⟩

/-- The digits that are still to come, none of zero. -/
def dd (v : Nat) : List UInt8 := if v = 0 then [] else Lib.decDigits v

theorem dd_step (v : Nat) (h : 0 < v) : dd v = dd (v / 10) ++ [UInt8.ofNat (48 + v % 10)] := by
  unfold dd
  rw [if_neg (by omega), Lib.decDigits]
  split
  · rename_i h10
    rw [if_pos (by omega), Nat.mod_eq_of_lt h10]; rfl
  · rw [if_neg (by omega)]

/-- A block of one byte, made a string. -/
theorem conv_one {P : Program} {w : World} {src e dst : TypeId} {n : Int} (hs : P.underlying src = some (.slice e)) (he : P.underlying e = some (.int .u8)) (hd : P.underlying dst = some .string) (t : TypeId) :
    (convert src dst (.slice (some ⟨w.heap.size, 0, none⟩) 1 1)).run P (w.alloc (.cells #[.int .u8 n] t)) = .ok (.string (strOfNums [n])) (w.alloc (.cells #[.int .u8 n] t)) := by
  refine run_convert_bytes_arg _ src e hs he w.heap.size 0 1 1 [n] rfl (fun i hi => ?_) dst hd
  obtain rfl : i = 0 := by omega
  rw [World.cell?_alloc_at _ _ _ _ rfl]; rfl

theorem ret_string {a b : ByteArray} (h : a = b) : Ending.returned (.string a) = .returned (.string b) := by rw [h]

theorem digits20 (u : Nat) (h : u < 18446744073709551616) : (Lib.decDigits u).length ≤ 20 := by
  rw [Lib.decDigits_length]
  by_cases h1 : 1 ≤ u
  · have := Lib.numDigits_eq u h1 h
    split at this <;> omega
  · rw [Lib.nDigits_small (by omega)]; omega

theorem size_le {v u : Nat} {s : ByteArray} (h : dd v ++ s.data.toList = Lib.decDigits u) (h20 : (Lib.decDigits u).length ≤ 20) : s.size ≤ 20 := by
  have := congrArg List.length h
  simp only [List.length_append, Array.length_toList] at this
  have e : s.size = s.data.size := rfl
  omega

theorem text_of {s : ByteArray} {l : List UInt8} (h : s.data.toList = l) : s = ⟨l.toArray⟩ := by subst h; rfl

theorem digits_done {v u : Nat} {s : ByteArray} (h0 : v = 0) (h : dd v ++ s.data.toList = Lib.decDigits u) : s.data.toList = Lib.decDigits u := by
  rw [← h, dd, if_pos h0]; rfl

theorem digits_step {v u : Nat} {s : ByteArray} (h0 : ¬ v = 0) (h : dd v ++ s.data.toList = Lib.decDigits u) :
    dd (v / 10) ++ (strOfNums [fig ((v : Int) % 10)] ++ s).data.toList = Lib.decDigits u := by
  rw [← h, dd_step v (by omega)]
  have e : (fig ((v : Int) % 10)).toNat = 48 + v % 10 := by unfold fig; rw [if_pos (by omega)]; omega
  have e1 : strOfNums [fig ((v : Int) % 10)] = ⟨#[UInt8.ofNat (48 + v % 10)]⟩ := by unfold strOfNums; simp only [List.map_cons, List.map_nil, e]
  rw [e1]
  simp [ByteArray.data_append]

set_option maxRecDepth 100000 in
set_option maxHeartbeats 800000 in
theorem model_pos (u : Nat) (w : World) (h1 : 1 ≤ u) (h2 : u ≤ 9223372036854775807) :
    Calls Tryd.prog 14 #[.int .i64 (u : Int)] w fun e w' => e = .returned (.string ⟨(Lib.decDigits u).toArray⟩) ∧ Below w.heap.size w w' := by
  have hne : ((u : Int) == 0) = false := by simp; omega
  have hd20 := digits20 u (by omega)
  go_enter Tryd.func14, Tryd.ntmps14
  go_wp2
  clear hne
  go_loopw [0, 4, 5] (fun n sv _ wr => ∃ (v : Nat) (s : ByteArray), v ≤ u ∧ n = .int .i64 (v : Int) ∧ sv = .string s ∧ dd v ++ s.data.toList = Lib.decDigits u ∧ Below w.heap.size w wr) (fun n _ _ _ => (intOf n).natAbs)
  case atStart => exact ⟨u, ByteArray.empty, by omega, rfl, rfl, by simp [dd]; omega, Below.refl _ _⟩
  case round =>
    obtain ⟨v, s, hv, rfl, rfl, hdd, hnx⟩ := hrel
    have hs20 : s.size ≤ 20 := size_le hdd hd20
    have Hdd := Lib.hid hdd
    clear hdd
    by_cases h0 : v = 0
    · have hz : ((v : Int) != 0) = false := by simp [h0]
      go_wp2
      go_ret
      exact ⟨ret_string (text_of (digits_done h0 Hdd.out)), hnx⟩
    · have hz : ((v : Int) != 0) = true := by simp; omega
      have hone : (strOfNums [fig ((v : Int) % 10)]).size = 1 := rfl
      have hsz : (strOfNums [fig ((v : Int) % 10)]).size + s.size ≤ 9223372036854775807 := by omega
      clear hone
      have hcv := fun w => conv_one (P := Tryd.prog) (w := w) (n := fig ((v : Int) % 10)) Tryd.underlying22 Tryd.underlying5 Tryd.underlying9 5
      go_wp2_with (go_at_call 26; refine (figure_call _ _ (by omega) (by omega)).mono ?_; rintro e w' ⟨rfl, rfl⟩)
      go_roundw
      case rel => exact ⟨v / 10, _, by omega, by go_num, rfl, digits_step h0 Hdd.out, hnx.alloc (hnx.size) _⟩
      case measure => simp [intOf]; omega
set_option maxRecDepth 100000 in
set_option maxHeartbeats 800000 in
theorem model_neg (u : Nat) (w : World) (h1 : 1 ≤ u) (h2 : u ≤ 9223372036854775808) :
    Calls Tryd.prog 14 #[.int .i64 (-(u : Int))] w fun e w' => e = .returned (.string ⟨(45 :: Lib.decDigits u).toArray⟩) ∧ Below w.heap.size w w' := by
  have hne : ((-(u : Int)) == 0) = false := by simp; omega
  have hd20 := digits20 u (by omega)
  go_enter Tryd.func14, Tryd.ntmps14
  go_wp2
  clear hne
  go_loopw [0, 4, 5] (fun n sv _ wr => ∃ (v : Nat) (s : ByteArray), v ≤ u ∧ n = .int .i64 (-(v : Int)) ∧ sv = .string s ∧ dd v ++ s.data.toList = Lib.decDigits u ∧ Below w.heap.size w wr) (fun n _ _ _ => (intOf n).natAbs)
  case atStart => exact ⟨u, ByteArray.empty, by omega, rfl, rfl, by simp [dd]; omega, Below.refl _ _⟩
  case round =>
    obtain ⟨v, s, hv, rfl, rfl, hdd, hnx⟩ := hrel
    have hs20 : s.size ≤ 20 := size_le hdd hd20
    have Hdd := Lib.hid hdd
    clear hdd
    by_cases h0 : v = 0
    · have hz : ((-(v : Int)) != 0) = false := by simp [h0]
      have hsz : ByteArray.size { data := #[45] } + s.size ≤ 9223372036854775807 := by show 1 + s.size ≤ _; omega
      go_wp2
      go_ret
      exact ⟨ret_string (text_of (by rw [ByteArray.data_append, Array.toList_append, digits_done h0 Hdd.out]; rfl)), hnx⟩
    · have hz : ((-(v : Int)) != 0) = true := by simp; omega
      have hone : (strOfNums [fig ((v : Int) % 10)]).size = 1 := rfl
      have hsz : (strOfNums [fig ((v : Int) % 10)]).size + s.size ≤ 9223372036854775807 := by omega
      clear hone
      have hcv := fun w => conv_one (P := Tryd.prog) (w := w) (n := fig ((v : Int) % 10)) Tryd.underlying22 Tryd.underlying5 Tryd.underlying9 5
      have e1 : (-(v : Int)).tmod 10 = -((v : Int) % 10) := by rw [Int.neg_tmod, Int.tmod_eq_emod_of_nonneg (by omega)]
      have e2 : (-(v : Int)).tdiv 10 = -((v : Int) / 10) := by rw [Int.neg_tdiv, Int.tdiv_eq_ediv_of_nonneg (by omega)]
      by_cases hr : 0 < (v : Int) % 10
      · go_wp2_with (go_at_call 26; refine (figure_call _ _ (by omega) (by omega)).mono ?_; rintro e w' ⟨rfl, rfl⟩)
        go_roundw
        case rel => exact ⟨v / 10, _, by omega, by go_num, rfl, digits_step h0 Hdd.out, hnx.alloc (hnx.size) _⟩
        case measure => simp [intOf]; omega
      · have hr0 : (v : Int) % 10 = 0 := by omega
        have hstep := Lib.hid (digits_step h0 Hdd.out)
        rw [hr0] at hstep hcv hsz e1
        clear hr0 hr
        go_wp2_with (go_at_call 26; refine (figure_call _ _ (by omega) (by omega)).mono ?_; rintro e w' ⟨rfl, rfl⟩)
        go_roundw
        case rel => exact ⟨v / 10, _, by omega, by go_num, rfl, hstep.out, hnx.alloc (hnx.size) _⟩
        case measure => simp [intOf]; omega

theorem model_zero (w : World) : Calls Tryd.prog 14 #[.int .i64 0] w fun e w' => e = .returned (.string ⟨#[48]⟩) ∧ Below w.heap.size w w' := by
  go_enter Tryd.func14, Tryd.ntmps14
  go_wp2
  go_ret
  exact ⟨rfl, Below.refl _ _⟩

/-- The model's Decimal writes every int in decimal. -/
theorem model_decimal (n : Int) (h0 : -9223372036854775808 ≤ n) (h1 : n ≤ 9223372036854775807) (w : World) :
    Calls Tryd.prog 14 #[.int .i64 n] w fun e w' => e = .returned (.string ⟨(Lib.itoa n).toArray⟩) ∧ Below w.heap.size w w' := by
  unfold Lib.itoa
  by_cases hn : n < 0
  · rw [if_pos hn]
    have := model_neg n.natAbs w (by omega) (by omega)
    rwa [show -(n.natAbs : Int) = n by omega] at this
  · rw [if_neg hn]
    by_cases hz : n = 0
    · subst hz
      rw [show Lib.decDigits (Int.toNat 0) = [48] from Lib.decDigits_one (by decide)]
      exact model_zero w
    · have := model_pos n.toNat w (by omega) (by omega)
      rwa [show (n.toNat : Int) = n by omega] at this
end Go.Proofs.YtphggocfnbcmcaaDoor
