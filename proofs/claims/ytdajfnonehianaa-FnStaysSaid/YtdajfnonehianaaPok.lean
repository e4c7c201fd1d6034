import Derived.Test.YtdajfnonehianaaPcv
import Derived.Test.YtdajfnonehianaaWin
import Derived.Deep.Cut
namespace Go.Proofs.Ytdajfnonehianaa
open Go.RowKit

theorem impl_nextOf (r : Int) (t : ByteArray) (v : Value) (w : World) :
    Calls Try.prog 43 #[.agg #[.int .i64 r, .string t, v]] w fun e w' => e = .returned (.int .i64 (IntKind.i64.wrap (r + (t.size : Int)))) ∧ Below w.heap.size w w' := by
  have HB := Lib.hid (below_new w (.cells #[.int .i64 r, .string t, v] 26))
  generalize e1 : IntKind.i64.wrap (r + (t.size : Int)) = z
  go_enter Try.func43, Try.ntmps43
  go_wp2_with (fail)
  go_ret
  exact ⟨rfl, HB.out⟩

theorem spec_nextOf (r : Int) (t : ByteArray) (v : Value) (w : World) :
    Calls Try.prog 48 #[.agg #[.int .i64 r, .string t, v]] w fun e w' => e = .returned (.int .i64 (IntKind.i64.wrap (r + (t.size : Int)))) ∧ Below w.heap.size w w' := by
  have HB := Lib.hid (below_new w (.cells #[.int .i64 r, .string t, v] 26))
  generalize e1 : IntKind.i64.wrap (r + (t.size : Int)) = z
  go_enter Try.func48, Try.ntmps48
  go_wp2_with (fail)
  go_ret
  exact ⟨rfl, HB.out⟩

theorem impl_end (m : Pc) (w : World) :
    Calls Try.prog 51 #[.agg #[.int .i64 m.pos, .string m.text]] w fun e w' => e = .returned (.int .i64 (IntKind.i64.wrap m.fin)) ∧ Below w.heap.size w w' := by
  have HB := Lib.hid (below_new w (.cells #[.int .i64 m.pos, .string m.text] 41))
  unfold Pc.fin
  generalize e1 : IntKind.i64.wrap (m.pos + (m.text.size : Int)) = z
  go_enter Try.func51, Try.ntmps51
  go_wp2_with (fail)
  go_ret
  exact ⟨rfl, HB.out⟩

theorem impl_brought (a b c : Int) (w : World) :
    Calls Try.prog 42 #[.int .i64 a, .int .i64 b, .int .i64 c] w fun e w' => e = .returned (.int .i64 (max b (min a c))) ∧ w = w' := by
  rcases Int.lt_trichotomy a c with h1 | rfl | h1
  · rw [Int.min_eq_left (by omega)]
    rcases Int.lt_trichotomy b a with h2 | rfl | h2
    · rw [Int.max_eq_right (by omega)]
      go_enter Try.func42, Try.ntmps42
      go_wp2_with (fail)
      all_goals (first | omega | (go_ret; exact ⟨rfl, rfl⟩))
    · rw [Int.max_self]
      go_enter Try.func42, Try.ntmps42
      go_wp2_with (fail)
      all_goals (first | omega | (go_ret; exact ⟨rfl, rfl⟩))
    · rw [Int.max_eq_left (by omega)]
      go_enter Try.func42, Try.ntmps42
      go_wp2_with (fail)
      all_goals (first | omega | (go_ret; exact ⟨rfl, rfl⟩))
  · rw [Int.min_self]
    rcases Int.lt_trichotomy b a with h2 | rfl | h2
    · rw [Int.max_eq_right (by omega)]
      go_enter Try.func42, Try.ntmps42
      go_wp2_with (fail)
      all_goals (first | omega | (go_ret; exact ⟨rfl, rfl⟩))
    · rw [Int.max_self]
      go_enter Try.func42, Try.ntmps42
      go_wp2_with (fail)
      all_goals (first | omega | (go_ret; exact ⟨rfl, rfl⟩))
    · rw [Int.max_eq_left (by omega)]
      go_enter Try.func42, Try.ntmps42
      go_wp2_with (fail)
      all_goals (first | omega | (go_ret; exact ⟨rfl, rfl⟩))
  · rw [Int.min_eq_right (by omega)]
    rcases Int.lt_trichotomy b c with h2 | rfl | h2
    · rw [Int.max_eq_right (by omega)]
      go_enter Try.func42, Try.ntmps42
      go_wp2_with (fail)
      all_goals (first | omega | (go_ret; exact ⟨rfl, rfl⟩))
    · rw [Int.max_self]
      go_enter Try.func42, Try.ntmps42
      go_wp2_with (fail)
      all_goals (first | omega | (go_ret; exact ⟨rfl, rfl⟩))
    · rw [Int.max_eq_left (by omega)]
      go_enter Try.func42, Try.ntmps42
      go_wp2_with (fail)
      all_goals (first | omega | (go_ret; exact ⟨rfl, rfl⟩))

theorem box_pc (W : World) (m : Pc) : (W.alloc (.cells #[.int .i64 m.pos, .string m.text] 41)).cell? ⟨W.heap.size, 0, none⟩ = some (.int .i64 m.pos) ∧ (W.alloc (.cells #[.int .i64 m.pos, .string m.text] 41)).cell? ⟨W.heap.size, 1, none⟩ = some (.string m.text) :=
  cel2 (Cel.new W 41 #[.int .i64 m.pos, .string m.text])

theorem rd_cell {W : World} {g : Nat} {t : TypeId} {x y v : Value} (h : Cel W g t #[x, y, v]) : W.cell? ⟨g, 1, none⟩ = some y ∧ W.cell? ⟨g, 2, none⟩ = some v := ⟨h.cell 1, h.cell 2⟩

set_option maxRecDepth 100000 in
set_option maxHeartbeats 1000000 in
theorem impl_heldOf (r : Int) (t : ByteArray) (v : Value) (ms : List Pc) (w : World) (hv : RdP w v ms) (hs : t.size + sumP ms ≤ 4194304) (hn : ms.length ≤ 4194304) :
    Calls Try.prog 50 #[.agg #[.int .i64 r, .string t, v]] w fun e w' => e = .returned (.int .i64 ((t.size + sumP ms : Nat) : Int)) ∧ Below w.heap.size w w' := by
  have hB0 := below_new w (.cells #[.int .i64 r, .string t, v] 26)
  have hv0 := hv.below hB0
  obtain ⟨a, c, rfl⟩ := hv.form
  generalize hres : ((t.size + sumP ms : Nat) : Int) = res
  have HRES := Lib.hid hres
  clear hv hres
  go_enter Try.func50, Try.ntmps50
  go_wp2_with (fail)
  go_loopw [3, 12] (fun l i wr => ∃ k : Nat, ∃ y : Nat, k ≤ ms.length ∧ i = .int .i64 k ∧ l = .int .i64 (y : Int) ∧ y = t.size + sumP (ms.take k) ∧ RdP wr (.slice a ms.length c) ms ∧ Below w.heap.size w wr) (fun _ i _ => ms.length - (intOf i).toNat)
  case atStart => exact ⟨0, t.size, by omega, rfl, rfl, by simp [sumP], hv0, hB0⟩
  case round =>
    clear hv0 hB0
    obtain ⟨k, y, hk, rfl, rfl, hy, hR, hB⟩ := hrel
    by_cases hlt : k < ms.length
    · have q : (k : Int) < (ms.length : Int) := by omega
      have q2 : (0 : Int) ≤ (k : Int) := by omega
      obtain ⟨b, off, ha, hb, k0, k1, -⟩ := pc_at (P := Try.prog) hR k hlt
      subst ha
      have hst := sumP_take ms k hlt
      have hsl := sumP_le ms (k + 1)
      have e1 : IntKind.i64.wrap ((y : Int) + (ms[k].text.size : Int)) = ((y + ms[k].text.size : Nat) : Int) := by rw [IntWalk.i64_in _ (by omega)]; omega
      have hy1 : y + ms[k].text.size = t.size + sumP (ms.take (k + 1)) := by omega
      generalize ms[k] = m at *
      have HB0 := Lib.hid (And.intro (Below.then_ hB (below_pc wr m)) (And.intro (hR.below (below_pc wr m)) hy1))
      clear hR hB hst hsl hy hy1
      go_wp2_with (fail)
      go_roundw
      case rel => exact ⟨k + 1, y + m.text.size, by omega, by go_num, by go_num, HB0.out.2.2, HB0.out.2.1, HB0.out.1⟩
      case measure => simp [intOf]; omega
    · obtain rfl : k = ms.length := by omega
      have q : ¬ (ms.length : Int) < (ms.length : Int) := by omega
      rw [List.take_length] at hy
      have hr : res = (y : Int) := by rw [← HRES.out, hy]
      subst hr
      clear hR HRES hy
      go_wp2_with (fail)
      go_ret
      exact ⟨rfl, hB⟩

set_option maxRecDepth 100000 in
set_option maxHeartbeats 1000000 in
theorem spec_heldOf (r : Int) (t : ByteArray) (v : Value) (ms : List Pc) (w : World) (hv : RdP w v ms) (hs : t.size + sumP ms ≤ 4194304) (hn : ms.length ≤ 4194304) :
    Calls Try.prog 52 #[.agg #[.int .i64 r, .string t, v]] w fun e w' => e = .returned (.int .i64 ((t.size + sumP ms : Nat) : Int)) ∧ Below w.heap.size w w' := by
  have hB0 := below_new w (.cells #[.int .i64 r, .string t, v] 26)
  have hv0 := hv.below hB0
  have hC0 := Cel.new w 26 #[.int .i64 r, .string t, v]
  obtain ⟨a, c, rfl⟩ := hv.form
  generalize hres : ((t.size + sumP ms : Nat) : Int) = res
  have HRES := Lib.hid hres
  clear hv hres
  go_enter Try.func52, Try.ntmps52
  go_wp2_with (fail)
  go_loopw [3, 4] (fun l i wr => ∃ k : Nat, ∃ y : Nat, k ≤ ms.length ∧ i = .int .i64 k ∧ l = .int .i64 (y : Int) ∧ y = t.size + sumP (ms.take k) ∧ RdP wr (.slice a ms.length c) ms ∧ Cel wr w.heap.size 26 #[.int .i64 r, .string t, .slice a ms.length c] ∧ Below w.heap.size w wr) (fun _ i _ => ms.length - (intOf i).toNat)
  case atStart => exact ⟨0, t.size, by omega, rfl, rfl, by simp [sumP], hv0, hC0, hB0⟩
  case round =>
    clear hv0 hB0 hC0
    obtain ⟨k, y, hk, rfl, rfl, hy, hR, hC, hB⟩ := hrel
    obtain ⟨-, g2⟩ := rd_cell hC
    by_cases hlt : k < ms.length
    · have q : (k : Int) < (ms.length : Int) := by omega
      have q2 : (0 : Int) ≤ (k : Int) := by omega
      obtain ⟨b, off, ha, hb, k0, k1, -⟩ := pc_at (P := Try.prog) hR k hlt
      subst ha
      have hst := sumP_take ms k hlt
      have hsl := sumP_le ms (k + 1)
      have e1 : IntKind.i64.wrap ((y : Int) + (ms[k].text.size : Int)) = ((y + ms[k].text.size : Nat) : Int) := by rw [IntWalk.i64_in _ (by omega)]; omega
      have hy1 : y + ms[k].text.size = t.size + sumP (ms.take (k + 1)) := by omega
      generalize ms[k] = m at *
      have HB0 := Lib.hid (And.intro hB (And.intro hR (And.intro hC hy1)))
      clear hR hB hC hst hsl hy hy1
      go_wp2_with (fail)
      go_roundw
      case rel => exact ⟨k + 1, y + m.text.size, by omega, by go_num, by go_num, HB0.out.2.2.2, HB0.out.2.1, HB0.out.2.2.1, HB0.out.1⟩
      case measure => simp [intOf]; omega
    · obtain rfl : k = ms.length := by omega
      have q : ¬ (ms.length : Int) < (ms.length : Int) := by omega
      rw [List.take_length] at hy
      have hr : res = (y : Int) := by rw [← HRES.out, hy]
      subst hr
      clear hR HRES hy hC
      go_wp2_with (fail)
      go_ret
      exact ⟨rfl, hB⟩
end Go.Proofs.Ytdajfnonehianaa
