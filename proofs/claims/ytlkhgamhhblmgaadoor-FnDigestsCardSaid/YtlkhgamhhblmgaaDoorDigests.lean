import Derived.Test.YtlkhgamhhblmgaaDoorDrT
import Derived.Test.YtlkhgamhhblmgaaDoorNumT
import Derived.Test.YtlkhgamhhblmgaaDoorStOf
import Derived.Test.YtlkhgamhhblmgaaDoorHm
import Derived.Test.YtlkhgamhhblmgaaDoorBig
import Derived.Test.YtlkhgamhhblmgaaDoorQuiet
namespace Go.Proofs.YtlkhgamhhblmgaaDoor
open Go.RowKit

def someSizes : List Int := [0, 1, 3, 9, 54, 55, 56, 63, 64, 65, 119, 120, 200]
theorem someSizes_bd : ∀ j : Fin someSizes.length, 0 ≤ someSizes[j] ∧ someSizes[j] ≤ 200 := by decide

theorem draw_some (g : Nat) (v : Value) (n : Nat) (w : World) (hd : Dr w g v n) :
    Calls Tryd.prog 30 #[.pointer (some ⟨g, 0, none⟩)] w fun e w' => ∃ s : ByteArray, s.size ≤ 200 ∧ e = .returned (.string s) ∧ Dr w' g v n ∧ Grew g w w' := by
  have hlt := hd.blk
  have hc : Cel (w.alloc (.cells (someSizes.map (Value.int .i64)).toArray 3)) w.heap.size 3 (someSizes.map (Value.int .i64)).toArray := Cel.new _ _ _
  have hd1 := hd.kept (below_new w (.cells (someSizes.map (Value.int .i64)).toArray 3))
  have hG : Grew g w (w.alloc (.cells (someSizes.map (Value.int .i64)).toArray 3)) := Grew.of_below (below_new w _) (Nat.le_refl _)
  have cp := pick_int g v n _ hd1 w.heap.size 13 someSizes hc (by omega) (by decide) (by decide)
  change Calls Tryd.prog 50 #[.pointer (some ⟨g, 0, none⟩), .slice (some ⟨w.heap.size, 0, none⟩) 13 13] (w.alloc (.cells #[.int .i64 0, .int .i64 1, .int .i64 3, .int .i64 9, .int .i64 54, .int .i64 55, .int .i64 56, .int .i64 63, .int .i64 64, .int .i64 65, .int .i64 119, .int .i64 120, .int .i64 200] 3)) _ at cp
  go_enter Tryd.func30, Tryd.ntmps30
  go_wp2_with (fail)
  with_reducible refine cp.mono ?_
  rintro e w1 ⟨j, rfl, d1, o1⟩
  have hj := someSizes_bd j
  generalize someSizes[j] = z at hj
  obtain ⟨k, rfl⟩ := Int.eq_ofNat_of_zero_le hj.1
  have ct := draw_text g v n k w1 d1 (by omega)
  have hG1 := hG.trans o1.grew
  clear cp hc hd1 hG
  go_wp2_with (fail)
  with_reducible refine ct.mono ?_
  rintro e w2 ⟨s, hs, rfl, d2, g2⟩
  go_wp2_with (fail)
  go_ret
  exact ⟨s, by omega, rfl, d2, hG1.trans g2⟩

theorem draw_digest (v : Value) (n : Nat) (w : World) (hr : RdB w v n) (hn : n ≤ 1048576) :
    Calls Tryd.prog 14 #[v] w fun e w' => ∃ s : ByteArray, s.size ≤ 200 ∧ e = .returned (.string s) ∧ Below w.heap.size w w' := by
  have c1 := new_dr v n w hr hn
  go_enter Tryd.func14, Tryd.ntmps14
  go_wp2_with (fail)
  with_reducible refine c1.mono ?_
  rintro e w1 ⟨rfl, d1, b1⟩
  go_wp2_with (fail)
  with_reducible refine (draw_some w.heap.size v n w1 d1).mono ?_
  rintro e w2 ⟨s, hs, rfl, d2, g2⟩
  go_wp2_with (fail)
  go_ret
  exact ⟨s, hs, rfl, g2.chain b1 (Nat.le_refl _) (by have := d1.blk; omega)⟩

theorem irow_mono {W : World} {B B' C C' : Nat} {v : Value} {zs : List Int} (h : IRow W B C v zs) (hB : B' ≤ B) (hC : C ≤ C') : IRow W B' C' v zs := by
  obtain ⟨⟨h1, h2⟩, h3⟩ := h
  refine ⟨⟨h1, ?_⟩, fun g hg => Nat.lt_of_lt_of_le (h3 g hg) hC⟩
  rcases h2 with h2 | ⟨g, cap, cur, hv, hg, r⟩
  · exact .inl h2
  · exact .inr ⟨g, cap, cur, hv, Nat.le_trans hB hg, r⟩

theorem okState_words (d : Array (BitVec 32)) (hd : d.size = 8) : okState (words d) = true := by
  refine decide_eq_true ⟨by rw [words_length, hd], fun z hz => ?_⟩
  obtain ⟨j, hj, rfl⟩ := List.getElem_of_mem hz
  rw [words_get d j (by rw [words_length] at hj; exact hj)]
  have := (d[j]!).isLt
  omega

theorem toWords_words (d : Array (BitVec 32)) : toWords (words d) = d := by
  apply Array.ext
  · rw [toWords_size, words_length]
  · intro i h1 h2
    have h3 := toWords_get (words d) i (by rw [words_length]; exact h2)
    rw [words_get d i h2] at h3
    have e1 : (toWords (words d))[i]! = (toWords (words d))[i] := getElem!_pos (toWords (words d)) i h1
    have e2 : d[i]! = d[i] := getElem!_pos d i h2
    rw [e1, e2] at h3
    rw [h3]
    simp

attribute [-simp] Tryd.isAgg62 Tryd.sizeOf62 Tryd.zeroValue62
attribute [local simp] zero40

set_option maxHeartbeats 1000000 in
set_option maxRecDepth 100000 in
/-- The state behind a block, of a good state. -/
theorem sha_good (v : Value) (d : Array (BitVec 32)) (hd : d.size = 8) (s : ByteArray) (hs : s.size = 64) (w : World) (hv : Rd w v (words d)) (hk : Keys w) :
    Calls Tryd.prog 17 #[v, .string s] w fun e w' => ∃ v', e = .returned v' ∧ IRow w' w.heap.size w'.heap.size v' (words (blockOf d s)) ∧ Below w.heap.size w w' := by
  have c25 := impl_stateOf v (words d) w hv (by rw [words_length]; omega)
  rw [okState_words d hd] at c25
  have h64' : (s.size : Int) = 64 := by omega
  have c27 := fun W a => impl_block d hd s hs W a
  have c28 := fun W => impl_numbers (blockOf d s) (blockOf_size _ _ hd) W
  have htw := toWords_words d
  clear hv
  go_enter Tryd.func17, Tryd.ntmps17
  go_wp2_with (fail)
  refine c25.mono ?_
  rintro e w1 ⟨d', hd', rfl, hdw, hb1⟩
  obtain rfl : d' = d := (hdw trivial).trans htw
  clear hdw htw c25 hd'
  have hst := store_new w1 62 62 z8 d' (by rw [hd, z8_size]) rfl (by rw [hd]; exact size40)
  have hB2 := hb1.alloc hb1.size (.cells (d'.map u) 62)
  have hd2 := Blk.new w1 62 d'
  go_wp2_with (fail)
  simp only [Tryd.sizeOf62, Result.andThen, ↓reduceIte, hst]
  rw [Oper.upon_skip]
  clear hst hb1
  generalize w1.alloc (.cells (d'.map u) 62) = W2 at hB2 hd2 ⊢
  generalize w1.heap.size = g2 at hd2 ⊢
  have hld := load_open hd2 hd
  go_wp2_with (fail)
  simp only [Tryd.isAgg62, Tryd.sizeOf62, Result.andThen, ↓reduceIte, hld]
  rw [Oper.upon_value]
  go_wp2_with (fail)
  refine (c27 _ (hk.below hB2)).mono ?_
  rintro e w3 ⟨rfl, hb3⟩
  go_wp2_with (fail)
  refine (c28 w3).mono ?_
  rintro e w4 ⟨v', rfl, hr, hb4⟩
  have hB3 := hB2.trans (hb3.mono hB2.size)
  have hB4 := hB3.trans (hb4.mono hB3.size)
  go_wp2_with (fail)
  go_ret
  exact ⟨_, rfl, irow_mono hr hB3.size (Nat.le_refl _), hB4⟩
end Go.Proofs.YtlkhgamhhblmgaaDoor
