import Derived.Test.YtkpajakangaekaaPcv
import Derived.StillTailTactics
import Derived.Deep.RegionHeld3
import Derived.Deep.Cut
namespace Go.Proofs.Ytkpajakangaekaa
open Go.RowKit

set_option maxRecDepth 100000 in
theorem to_piece (m : Pc) (w : World) :
    Calls Try.prog 56 #[.agg #[.int .i64 m.pos, .string m.text]] w fun e w' => e = .returned (.agg #[.int .i64 m.pos, .string m.text]) ∧ Below w.heap.size w w' := by
  have hb : Below w.heap.size w (((w.alloc (.cells #[.int .i64 m.pos, .string m.text] 74)).alloc (.cells #[.int .i64 m.pos, .string m.text] 31)).alloc (.cells #[.int .i64 m.pos, .string m.text] 31)) := (((Below.refl _ _).alloc (Nat.le_refl _) _).alloc (by simp) _).alloc (by simp; omega) _
  have HB := Lib.hid hb
  clear hb
  go_enter Try.func56, Try.ntmps56
  go_wp2_with (fail)
  exact bodyPost_ret (v := .agg #[.int .i64 m.pos, .string m.text]) (by simp [results, Try.results56, go_sem]) rfl ⟨rfl, HB.out⟩

attribute [-go_sem] loadCells loadCellsFrom

theorem sz_piece (m : Pc) (left : Int) (w : World) (h0 : 0 ≤ left) (h1 : left ≤ 1048576) (hs : m.text.size ≤ 9223372036854775807) :
    Calls Try.prog 55 #[.agg #[.int .i64 m.pos, .string m.text], .int .i64 left] w fun e w' => e = .returned (.int .i64 (if left - (m.text.size : Int) < 0 then -1 else left - (m.text.size : Int))) ∧ Below w.heap.size w w' := by
  have HB := Lib.hid (below_new w (.cells #[.int .i64 m.pos, .string m.text] 74))
  by_cases hl : left - (m.text.size : Int) < 0
  · rw [if_pos hl]
    go_enter Try.func55, Try.ntmps55
    go_wp2_with (fail)
    go_ret
    exact ⟨rfl, HB.out⟩
  · rw [if_neg hl]
    go_enter Try.func55, Try.ntmps55
    go_wp2_with (fail)
    go_ret
    exact ⟨rfl, HB.out⟩

set_option maxRecDepth 100000 in
theorem eq_piece (m : Pc) (w : World) :
    Calls Try.prog 57 #[.agg #[.int .i64 m.pos, .string m.text], .agg #[.int .i64 m.pos, .string m.text]] w fun e w' => e = .returned (.bool true) ∧ Below w.heap.size w w' := by
  have hb : Below w.heap.size w ((w.alloc (.cells #[.int .i64 m.pos, .string m.text] 31)).alloc (.cells #[.int .i64 m.pos, .string m.text] 31)) := ((Below.refl _ _).alloc (Nat.le_refl _) _).alloc (by simp) _
  have HB := Lib.hid hb
  clear hb
  go_enter Try.func57, Try.ntmps57
  go_wp2_with (fail)
  go_ret
  exact ⟨rfl, HB.out⟩

/-- The sizes of a row's pieces, taken off a limit. -/
def szL (left : Int) (n s : Nat) : Int := if left - (n : Int) - (s : Int) < 0 then -1 else left - (n : Int) - (s : Int)

set_option maxRecDepth 100000 in
set_option maxHeartbeats 1000000 in
theorem sz_pieceS (v : Value) (ms : List Pc) (left : Int) (w : World) (hv : RdP w v ms) (hn : ms.length ≤ 9223372036854775807) (hs : ∀ x ∈ ms, x.text.size ≤ 9223372036854775807) (h0 : 0 ≤ left) (h1 : left ≤ 1048576) :
    Calls Try.prog 44 #[v, .int .i64 left] w fun e w' => e = .returned (.int .i64 (szL left ms.length (sumP ms))) ∧ Below w.heap.size w w' := by
  have hv0 := hv
  obtain ⟨a, c, rfl⟩ := hv.form
  unfold szL
  by_cases hl : left - (ms.length : Int) < 0
  · rw [if_pos (by omega)]
    clear hv hv0 hs
    go_enter Try.func44, Try.ntmps44
    go_wp2_with (fail)
    go_ret
    exact ⟨rfl, Below.refl _ _⟩
  · generalize hres : (if left - (ms.length : Int) - (sumP ms : Int) < 0 then (-1 : Int) else left - (ms.length : Int) - (sumP ms : Int)) = res
    have HRES := Lib.hid hres
    clear hres hv
    go_enter Try.func44, Try.ntmps44
    go_wp2_with (fail)
    go_loopw [1, 5] (fun l i wr => ∃ k : Nat, ∃ y : Int, k ≤ ms.length ∧ i = .int .i64 k ∧ l = .int .i64 y ∧ y = left - (ms.length : Int) - (sumP (ms.take k) : Int) ∧ 0 ≤ y ∧ RdP wr (.slice a ms.length c) ms ∧ Below w.heap.size w wr) (fun _ i _ => ms.length - (intOf i).toNat)
    case atStart => exact ⟨0, _, by omega, rfl, rfl, by simp [sumP], by omega, hv0, Below.refl _ _⟩
    case round =>
      clear hv0
      obtain ⟨k, y, hk, rfl, rfl, hy, hy0, hR, hB⟩ := hrel
      by_cases hlt : k < ms.length
      · have q : (k : Int) < (ms.length : Int) := by omega
        have q2 : (0 : Int) ≤ (k : Int) := by omega
        obtain ⟨b, off, ha, hb, -, -, ld⟩ := pc_at (P := Try.prog) hR k hlt
        subst ha
        have hsz := hs _ (List.getElem_mem hlt)
        have hst := sumP_take ms k hlt
        have hsl := sumP_le ms (k + 1)
        have cz := fun W => sz_piece ms[k] y W hy0 (by omega) hsz
        generalize ms[k] = m at *
        by_cases hneg : y - (m.text.size : Int) < 0
        · rw [if_pos hneg] at cz
          have hr : res = -1 := by rw [← HRES.out, if_pos (by omega)]
          subst hr
          clear hs hst hsl hsz hneg hy HRES hR
          go_wp2_with (fail)
          with_reducible refine (cz _).mono ?_
          rintro e w2 ⟨rfl, hb2⟩
          have HB2 := Lib.hid (Below.then_ hB hb2)
          clear ld cz hB hb2
          go_wp2_with (fail)
          go_ret
          exact ⟨rfl, HB2.out⟩
        · rw [if_neg hneg] at cz
          have hy1 : y - (m.text.size : Int) = left - (ms.length : Int) - (sumP (ms.take (k + 1)) : Int) := by omega
          have hz : ¬ (y - (m.text.size : Int) < 0) := hneg
          generalize y - (m.text.size : Int) = z at *
          clear hsl hst hsz hneg hy
          go_wp2_with (fail)
          with_reducible refine (cz _).mono ?_
          rintro e w2 ⟨rfl, hb2⟩
          have HB2 := Lib.hid (And.intro (Below.then_ hB hb2) (And.intro (hR.below hb2) hy1))
          clear ld cz hB hb2 hR hy1
          go_wp2_with (fail)
          go_roundw
          case rel => exact ⟨k + 1, z, by omega, by go_num, rfl, HB2.out.2.2, by omega, HB2.out.2.1, HB2.out.1⟩
          case measure => simp [intOf]; omega
      · obtain rfl : k = ms.length := by omega
        have q : ¬ (ms.length : Int) < (ms.length : Int) := by omega
        rw [List.take_length] at hy
        have hr : res = y := by rw [← HRES.out, if_neg (by omega), hy]
        subst hr
        clear hR hs HRES hy
        go_wp2_with (fail)
        go_ret
        exact ⟨rfl, hB⟩

set_option maxRecDepth 100000 in
set_option maxHeartbeats 2000000 in
theorem to_pieceS (v : Value) (ms : List Pc) (w : World) (hv : RdP w v ms) (hn : ms.length ≤ 1048576) :
    Calls Try.prog 45 #[v] w fun e w' => e = .returned (.slice (some ⟨w.heap.size, 0, none⟩) ms.length ms.length) ∧ OwnP w' w.heap.size (w.heap.size + 1) (.slice (some ⟨w.heap.size, 0, none⟩) ms.length ms.length) ms ∧ Below w.heap.size w w' := by
  have hmk := emake pcK 24 uPc ms.length hn w
  have hB0 := below_new w (.cells (pcK.flat (List.replicate ms.length pcK.zero)).toArray pcK.t)
  have hO0 : OwnP (w.alloc (.cells (pcK.flat (List.replicate ms.length pcK.zero)).toArray pcK.t)) w.heap.size (w.heap.size + 1) (.slice (some ⟨w.heap.size, 0, none⟩) ms.length ms.length) (List.replicate ms.length pcK.zero) := by
    have := OwnE.of_cel (xs := List.replicate ms.length pcK.zero) (Cel.new w pcK.t _) (Nat.le_refl _) (Nat.lt_succ_self _) (by rw [List.length_replicate]; unfold maxLen; omega)
    rwa [List.length_replicate] at this
  obtain ⟨va, vc, rfl⟩ := hv.form
  generalize w.alloc (.cells (pcK.flat (List.replicate ms.length pcK.zero)).toArray pcK.t) = W1 at *
  go_enter Try.func45, Try.ntmps45
  go_wp2_with (fail)
  go_loopw [4] (fun i wr => ∃ k : Nat, k ≤ ms.length ∧ i = .int .i64 k ∧ OwnP wr w.heap.size (w.heap.size + 1) (.slice (some ⟨w.heap.size, 0, none⟩) ms.length ms.length) (ms.take k ++ List.replicate (ms.length - k) pcK.zero) ∧ Below w.heap.size w wr) (fun i _ => ms.length - (intOf i).toNat)
  case atStart => exact ⟨0, by omega, rfl, by simpa using hO0, hB0⟩
  case round =>
    clear hO0 hB0 hmk
    obtain ⟨k, hk, rfl, hO, hB⟩ := hrel
    by_cases hlt : k < ms.length
    · have q : (k : Int) < (ms.length : Int) := by omega
      have q2 : (0 : Int) ≤ (k : Int) := by omega
      obtain ⟨b, off, ha, -, -, -, ld⟩ := pc_at (P := Try.prog) (hv.below hB) k hlt
      subst ha
      have ct := to_piece ms[k] wr
      have hl : k < (ms.take k ++ List.replicate (ms.length - k) pcK.zero).length := by simp; omega
      have hset : (ms.take k ++ List.replicate (ms.length - k) pcK.zero).set k ms[k] = ms.take (k + 1) ++ List.replicate (ms.length - (k + 1)) pcK.zero := by
        have e : ms.length - k = (ms.length - (k + 1)) + 1 := by omega
        rw [e, List.replicate_succ, List.set_append_right _ _ (by rw [List.length_take]; omega), List.length_take, Nat.min_eq_left (by omega), Nat.sub_self, List.set_cons_zero, List.take_succ_eq_append_getElem hlt, List.append_assoc]
        rfl
      generalize ms[k] = m at *
      generalize ms.take k ++ List.replicate (ms.length - k) pcK.zero = cur at *
      have HS := Lib.hid hset
      clear hset
      go_wp2_with (fail)
      with_reducible refine ct.mono ?_
      rintro e w2 ⟨rfl, hb2⟩
      have hlw : w.heap.size < wr.heap.size := (pc_own hO k hl).2.2.2.1
      have hO2 := hO.keep hb2 (by omega)
      have hB2 := Below.then_ hB hb2
      have hth : w2.there w.heap.size (k * 2) (#[Value.int .i64 m.pos, .string m.text]).size := (pc_own hO2 k hl).2.2.2.2
      have one : (#[Value.int .i64 m.pos, .string m.text]).all (·.oneCell') = true := by simp [Value.oneCell']
      have hO3 := pc_putC hO2 k hl m
      have hB3 := hB2.trans (esetC_below w.heap.size w.heap.size (Nat.le_refl _) (k * 2) [.int .i64 m.pos, .string m.text] w2)
      have HO := Lib.hid hO3
      clear ld ct hO hO2 hO3 hB hB2 hl
      go_upto_region 4 with (with_reducible refine wpList_store_mid rfl 31 _ _ rfl w.heap.size (k * 2) _ rfl rfl hth (sizePc _) one ?_)
      clear hth one
      generalize w2.setCells w.heap.size (k * 2) [.int .i64 m.pos, .string m.text] = W5 at *
      go_wp2_with (fail)
      go_roundw
      case rel => exact ⟨k + 1, by omega, by go_num, by rw [← HS.out]; exact HO.out, hB3⟩
      case measure => simp [intOf]; omega
    · obtain rfl : k = ms.length := by omega
      have q : ¬ (ms.length : Int) < (ms.length : Int) := by omega
      go_wp2_with (fail)
      go_ret
      exact ⟨rfl, by simpa using hO, hB⟩

set_option maxRecDepth 100000 in
set_option maxHeartbeats 1000000 in
theorem eq_pieceS (v u : Value) (ms : List Pc) (w : World) (hv : RdP w v ms) (hu : RdP w u ms) (hn : ms.length ≤ 9223372036854775807) :
    Calls Try.prog 46 #[v, u] w fun e w' => e = .returned (.bool true) ∧ Below w.heap.size w w' := by
  have hv0 := hv
  have hu0 := hu
  obtain ⟨a, c, rfl⟩ := hv.form
  obtain ⟨a', c', rfl⟩ := hu.form
  clear hv hu
  go_enter Try.func46, Try.ntmps46
  go_wp2_with (fail)
  go_loopw [5] (fun i wr => ∃ k : Nat, k ≤ ms.length ∧ i = .int .i64 k ∧ RdP wr (.slice a ms.length c) ms ∧ RdP wr (.slice a' ms.length c') ms ∧ Below w.heap.size w wr) (fun i _ => ms.length - (intOf i).toNat)
  case atStart => exact ⟨0, by omega, rfl, hv0, hu0, Below.refl _ _⟩
  case round =>
    clear hv0 hu0
    obtain ⟨k, hk, rfl, hR, hU, hB⟩ := hrel
    by_cases hlt : k < ms.length
    · have q : (k : Int) < (ms.length : Int) := by omega
      have q2 : (0 : Int) ≤ (k : Int) := by omega
      obtain ⟨b, off, ha, -, -, -, ld⟩ := pc_at (P := Try.prog) hR.drew k hlt
      subst ha
      obtain ⟨b', off', ha, -, -, -, ld'⟩ := pc_at (P := Try.prog) hU.drew k hlt
      subst ha
      have ce0 := eq_piece ms[k] wr.drew
      generalize ms[k] = m at *
      go_wp2_with (fail)
      refine wp_region_still_tail 8 (by kernel_rfl) (by kernel_rfl) ?_
      change wpStill _ _ wr.drew (fun a' => wpList _ _ _ _ a' wr.drew) _ _
      have hR2 : RdP wr.drew _ ms := hR
      have hU2 : RdP wr.drew _ ms := hU
      have hB := hB.drew
      clear hR hU
      generalize wr.drew = W4 at *
      simp only [List.take_succ_cons, List.take_zero, List.drop_succ_cons, List.drop_zero]
      iterate 8 still_step
      refine wpStill_nil ?_
      go_wp2_with (fail)
      with_reducible refine ce0.mono ?_
      rintro e w2 ⟨rfl, hb2⟩
      have hR3 := hR2.below hb2
      have hU3 := hU2.below hb2
      have hB3 := Below.then_ hB hb2
      clear ld ld' ce0 hR2 hU2 hB hb2
      go_wp2_with (fail)
      go_roundw
      case rel => exact ⟨k + 1, by omega, by go_num, hR3, hU3, hB3⟩
      case measure => simp [intOf]; omega
    · obtain rfl : k = ms.length := by omega
      have q : ¬ (ms.length : Int) < (ms.length : Int) := by omega
      clear hR hU
      go_wp2_with (fail)
      go_ret
      exact ⟨rfl, hB⟩
end Go.Proofs.Ytkpajakangaekaa
