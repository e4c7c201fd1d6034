import Derived.Test.YtkpajakangaekabRdo
import Derived.Test.YtkpajakangaekabOv
import Derived.Test.YtkpajakangaekabInts2
namespace Go.Proofs.Ytkpajakangaekab
open Go.RowKit

def idsAt (s : ByteArray) (a : Int) (n : Nat) : List Int := (List.range n).map fun (j : Nat) => nAt s (a + (j : Int)) 1
theorem idsAt_length (s : ByteArray) (a : Int) (n : Nat) : (idsAt s a n).length = n := by simp [idsAt]

theorem IRow.none {W : World} {B C : Nat} : IRow W B C (.slice none 0 0) [] := ⟨⟨rfl, .inl ⟨rfl, rfl⟩⟩, fun g hg => by simp [Value.ownBlock] at hg⟩

theorem But.high {g p i : Nat} {w W : World} {v : Value} (hb : But g w W) (hg : g < w.heap.size) (hp : w.heap.size ≤ p) : But g w (W.setCell ⟨p, i, none⟩ v) :=
  ⟨hb.bl.setCell (p := ⟨p, i, none⟩) (by show g ≤ p; omega) _, by simpa using hb.size, fun k hk hl => (Below.heap_setCell _ _ _ _ (show k ≠ p by omega)).trans (hb.at_ k hk hl)⟩
theorem But.alloc {g : Nat} {w W : World} (hb : But g w W) (hg : g < w.heap.size) (o : Obj) : But g w (W.alloc o) :=
  ⟨hb.bl.alloc (Nat.le_trans (Nat.le_of_lt hg) hb.size) o, Nat.le_trans hb.size (by simp), fun k hk hl => (Below.heap_alloc _ _ _ (Nat.lt_of_lt_of_le hl hb.size)).trans (hb.at_ k hk hl)⟩

theorem But.iblk {g p : Nat} {w W : World} {d : Array Int} (hb : But g w W) (h : IBlk w p d) (hp : p ≠ g) : IBlk W p d := by
  show W.heap[p]? = _
  rw [hb.at_ p hp h.lt]; exact h

set_option maxHeartbeats 1000000 in
set_option maxRecDepth 100000 in
theorem rd_ids (g : Nat) (s : ByteArray) (a : Int) (n : Nat) (w : World) (h : Rdr w g s a) (hs : s.size ≤ 1048576) (ha : 0 ≤ a ∧ a ≤ 1048580) (hn : n ≤ 1000) :
    Calls Try.prog 64 #[.pointer (some ⟨g, 0, none⟩), .int .i64 (n : Int)] w fun e w' => e = .returned (.slice (some ⟨w.heap.size, 0, none⟩) n n) ∧ IBlk w' w.heap.size (idsAt s a n).toArray ∧ But g w w' := by
  have hmk := make_ints n (by omega) w
  have hgl := Cel.lt (show Cel _ g _ _ from h)
  have hB : But g w (w.alloc (.cells ((Array.replicate n (0 : Int)).map (Value.int .i64)) 3)) := (But.refl g w).alloc hgl _
  have hi := alloc_iblk w (Array.replicate n (0 : Int))
  have hR : Rdr (w.alloc (.cells ((Array.replicate n (0 : Int)).map (Value.int .i64)) 3)) g s a := Cel.alloc (show Cel _ g _ _ from h) _
  generalize w.alloc (.cells ((Array.replicate n (0 : Int)).map (Value.int .i64)) 3) = W1 at hmk hB hi hR
  obtain ⟨p, hp⟩ : ∃ p, w.heap.size = p := ⟨_, rfl⟩
  rw [hp] at hmk hi ⊢
  go_enter Try.func64, Try.ntmps64
  go_wp2_with (fail)
  go_loopw [11] (fun i wr => ∃ k : Nat, k ≤ n ∧ i = .int .i64 k ∧ (∃ d : Array Int, d.size = n ∧ (∀ j, j < k → d[j]! = nAt s (a + (j : Int)) 1) ∧ IBlk wr p d) ∧ Rdr wr g s (a + k) ∧ But g w wr) (fun i _ => n - (intOf i).toNat)
  case atStart => exact ⟨0, by omega, rfl, ⟨_, by simp, fun j h => by omega, hi⟩, by simpa using hR, hB⟩
  case round =>
    clear hi hB hmk hR h
    obtain ⟨k, hk, rfl, ⟨d, hd, hdj, hi⟩, hR, hB⟩ := hrel
    by_cases hlt : k < n
    · have q : (0 : Int) ≤ (k : Int) ∧ (k : Int) < (n : Int) := by omega
      have cn := rd_num g s (a + k) 1 (a + (k + 1 : Nat)) wr hR hs (by omega) (by decide) (by decide) (by omega)
      obtain ⟨x, hx⟩ : ∃ x, nAt s (a + (k : Int)) 1 = x := ⟨_, rfl⟩
      rw [hx] at cn
      clear hR
      go_wp2_with (fail)
      with_reducible refine cn.mono ?_
      rintro e w3 ⟨rfl, hR, hb3⟩
      have hi3 := hb3.iblk hi (by omega)
      have hB3 := hB.trans hb3
      have hf := hi3.frozen k
      have h2 := hi3.cell k (by omega)
      generalize d[k]! = y at h2
      clear hi hB hb3 cn
      go_wp2_with (fail)
      go_roundw
      case rel =>
        refine ⟨k + 1, by omega, by go_num, ⟨d.setIfInBounds k x, by simp [hd], fun j hj => ?_, hi3.set k x⟩, Cel.other (show Cel _ g _ _ from hR) _ _ (show g ≠ p by omega), hB3.high hgl (by omega)⟩
        by_cases hjk2 : j = k
        · subst hjk2
          rw [getElem!_pos _ _ (by simp [hd]; omega), Array.getElem_setIfInBounds, if_pos rfl, hx]
          simp [hd]; omega
        · rw [getElem!_pos _ _ (by simp [hd]; omega), Array.getElem_setIfInBounds, if_neg (by omega), ← hdj j (by omega), getElem!_pos _ _ (by rw [hd]; omega)]
      case measure => simp [intOf]; omega
    · obtain rfl : k = n := by omega
      have hdz : d.toList = idsAt s a k := by
        apply List.ext_getElem
        · simp [hd, idsAt_length]
        · intro j h1 h2
          have hj : j < k := by rw [idsAt_length] at h2; exact h2
          have := hdj j hj
          rw [getElem!_pos _ _ (by rw [hd]; exact hj)] at this
          simpa [idsAt] using this
      rw [show d = (idsAt s a k).toArray by rw [← hdz]] at hi
      clear hR hdj
      go_wp2_with (fail)
      go_ret
      exact ⟨rfl, hi, hB⟩
end Go.Proofs.Ytkpajakangaekab

namespace Go.Proofs.Ytkpajakangaekab
open Go.RowKit

def rdo8 (s : ByteArray) (a : Int) : Ov := { Ov.zero with kind := 8, ids := idsAt s (a + 2) (nAt s (a + 1) 1).toNat }

set_option maxHeartbeats 1000000 in
theorem opt_8 (g : Nat) (s : ByteArray) (a : Int) (w : World) (h : Rdr w g s a) (hs : s.size ≤ 1048576) (hk : nAt s a 1 = 8) :
    Calls Try.prog 41 #[.pointer (some ⟨g, 0, none⟩)] w fun e w' => ∃ p c, e = .returned (.iface 99 (.agg #[.slice (some ⟨p, 0, none⟩) (rdo8 s a).ids.length c])) ∧ IRow w' w.heap.size w'.heap.size (.slice (some ⟨p, 0, none⟩) (rdo8 s a).ids.length c) (rdo8 s a).ids ∧ But g w w' := by
  have ha := nAt_nz s a 1 _ hk (by decide)
  have c0 := rd_num g s a 1 (a + 1) w h hs (by omega) (by decide) (by decide) rfl
  rw [hk] at c0
  obtain ⟨n, hn, en⟩ := nAt_byte s (a + 1)
  have hids : (rdo8 s a).ids = idsAt s (a + 2) n := by unfold rdo8; rw [en]; rfl
  have hlen : (rdo8 s a).ids.length = n := by rw [hids, idsAt_length]
  rw [hlen, hids]
  clear hk h hlen hids
  go_enter Try.func41, Try.ntmps41
  go_wp2_with (fail)
  with_reducible refine c0.mono ?_
  rintro e w1 ⟨rfl, h, B⟩
  clear c0
  go_wp2_with (fail)
  have c1 := rd_num g s (a + 1) 1 (a + 2) _ h hs (by omega) (by decide) (by decide) (by omega)
  rw [en] at c1
  with_reducible refine c1.mono ?_
  rintro e w2 ⟨rfl, h2, B2⟩
  have B := B.trans B2
  have h := h2
  clear B2 h2 c1
  go_wp2_with (fail)
  with_reducible refine (rd_ids g s (a + 2) n _ h hs (by omega) (by omega)).mono ?_
  rintro e w3 ⟨rfl, hi, B2⟩
  have hws := B.size
  have B := B.trans B2
  go_wp2_with (fail)
  go_ret
  have hr := hi.irow (by rw [idsAt_length]; omega) hws hi.lt
  rw [idsAt_length] at hr
  exact ⟨_, _, rfl, hr, B⟩

theorem wrap64_le (n : Int) : wrap64 n ≤ 9223372036854775807 := by unfold wrap64; omega

set_option maxHeartbeats 1000000 in
theorem opt_0 (g : Nat) (s : ByteArray) (a : Int) (w : World) (h : Rdr w g s a) (hs : s.size ≤ 1048576) (ha : a ≤ 9223372036854775807) (hk : ¬ (1 ≤ nAt s a 1 ∧ nAt s a 1 ≤ 10)) :
    Calls Try.prog 41 #[.pointer (some ⟨g, 0, none⟩)] w fun e w' => e = .returned .nilIface ∧ But g w w' := by
  have c0 := rd_number g s a 1 w h hs ha (by decide) (by decide)
  generalize nAt s a 1 = x at *
  have q1 : ¬ x = 1 := by omega
  have q2 : ¬ x = 2 := by omega
  have q3 : ¬ x = 3 := by omega
  have q4 : ¬ x = 4 := by omega
  have q5 : ¬ x = 5 := by omega
  have q6 : ¬ x = 6 := by omega
  have q7 : ¬ x = 7 := by omega
  have q8 : ¬ x = 8 := by omega
  have q9 : ¬ x = 9 := by omega
  have q10 : ¬ x = 10 := by omega
  clear hk h
  go_enter Try.func41, Try.ntmps41
  go_wp2_with (fail)
  with_reducible refine c0.mono ?_
  rintro e w1 ⟨rfl, h, B⟩
  clear c0
  go_wp2_with (fail)
  with_reducible refine (rd_number g s _ 1 _ h hs (wrap64_le _) (by decide) (by decide)).mono ?_
  rintro e w2 ⟨rfl, h2, B2⟩
  have B := B.trans B2
  clear B2 h2 h
  go_wp2_with (fail)
  go_ret
  exact ⟨rfl, B⟩

/-- What the bytes at a say, field by field. -/
def rdo (s : ByteArray) (a : Int) : Ov := if nAt s a 1 = 1 then rdo1 s a else if nAt s a 1 = 2 then rdo2 s a else if nAt s a 1 = 3 then rdo3 s a else if nAt s a 1 = 4 then rdo4 s a else if nAt s a 1 = 5 then rdo5 s a else if nAt s a 1 = 6 then rdo6 s a else if nAt s a 1 = 7 then rdo7 s a else if nAt s a 1 = 8 then rdo8 s a else if nAt s a 1 = 9 then rdo9 s a else if nAt s a 1 = 10 then rdo10 s a else Ov.zero

theorem rdo_0 (s : ByteArray) (a : Int) (h : ¬ (1 ≤ nAt s a 1 ∧ nAt s a 1 ≤ 10)) : rdo s a = Ov.zero := by
  unfold rdo
  rw [if_neg (by omega)]
  rw [if_neg (by omega)]
  rw [if_neg (by omega)]
  rw [if_neg (by omega)]
  rw [if_neg (by omega)]
  rw [if_neg (by omega)]
  rw [if_neg (by omega)]
  rw [if_neg (by omega)]
  rw [if_neg (by omega)]
  rw [if_neg (by omega)]
theorem rdo_1 (s : ByteArray) (a : Int) (h : nAt s a 1 = 1) : rdo s a = rdo1 s a := by unfold rdo; simp [h]
theorem rdo_2 (s : ByteArray) (a : Int) (h : nAt s a 1 = 2) : rdo s a = rdo2 s a := by unfold rdo; simp [h]
theorem rdo_3 (s : ByteArray) (a : Int) (h : nAt s a 1 = 3) : rdo s a = rdo3 s a := by unfold rdo; simp [h]
theorem rdo_4 (s : ByteArray) (a : Int) (h : nAt s a 1 = 4) : rdo s a = rdo4 s a := by unfold rdo; simp [h]
theorem rdo_5 (s : ByteArray) (a : Int) (h : nAt s a 1 = 5) : rdo s a = rdo5 s a := by unfold rdo; simp [h]
theorem rdo_6 (s : ByteArray) (a : Int) (h : nAt s a 1 = 6) : rdo s a = rdo6 s a := by unfold rdo; simp [h]
theorem rdo_7 (s : ByteArray) (a : Int) (h : nAt s a 1 = 7) : rdo s a = rdo7 s a := by unfold rdo; simp [h]
theorem rdo_8 (s : ByteArray) (a : Int) (h : nAt s a 1 = 8) : rdo s a = rdo8 s a := by unfold rdo; simp [h]
theorem rdo_9 (s : ByteArray) (a : Int) (h : nAt s a 1 = 9) : rdo s a = rdo9 s a := by unfold rdo; simp [h]
theorem rdo_10 (s : ByteArray) (a : Int) (h : nAt s a 1 = 10) : rdo s a = rdo10 s a := by unfold rdo; simp [h]

theorem opt_read (g : Nat) (s : ByteArray) (a : Int) (w : World) (h : Rdr w g s a) (hs : s.size ≤ 1048576) (ha : a ≤ 9223372036854775807) :
    Calls Try.prog 41 #[.pointer (some ⟨g, 0, none⟩)] w fun e w' => ∃ X v, e = .returned X ∧ (∀ W, Calls Try.prog 31 #[X] W fun e W' => e = .returned (.agg ((rdo s a).cells v)) ∧ Below W.heap.size W W') ∧ IRow w' w.heap.size w'.heap.size v (rdo s a).ids ∧ But g w w' := by
  by_cases hk : 1 ≤ nAt s a 1 ∧ nAt s a 1 ≤ 10
  · have hc : nAt s a 1 = 1 ∨ nAt s a 1 = 2 ∨ nAt s a 1 = 3 ∨ nAt s a 1 = 4 ∨ nAt s a 1 = 5 ∨ nAt s a 1 = 6 ∨ nAt s a 1 = 7 ∨ nAt s a 1 = 8 ∨ nAt s a 1 = 9 ∨ nAt s a 1 = 10 := by omega
    rcases hc with hk | hk | hk | hk | hk | hk | hk | hk | hk | hk
    · rw [rdo_1 s a hk]
      refine (opt_1 g s a w h hs hk).mono ?_
      rintro e w' ⟨rfl, hb⟩
      exact ⟨_, _, rfl, fun W => plo_1 (rdo1 s a) W, IRow.none, hb⟩
    · rw [rdo_2 s a hk]
      refine (opt_2 g s a w h hs hk).mono ?_
      rintro e w' ⟨rfl, hb⟩
      exact ⟨_, _, rfl, fun W => plo_2 (rdo2 s a) W, IRow.none, hb⟩
    · rw [rdo_3 s a hk]
      refine (opt_3 g s a w h hs hk).mono ?_
      rintro e w' ⟨rfl, hb⟩
      exact ⟨_, _, rfl, fun W => plo_3 (rdo3 s a) W, IRow.none, hb⟩
    · rw [rdo_4 s a hk]
      refine (opt_4 g s a w h hs hk).mono ?_
      rintro e w' ⟨rfl, hb⟩
      exact ⟨_, _, rfl, fun W => plo_4 (rdo4 s a) W, IRow.none, hb⟩
    · rw [rdo_5 s a hk]
      refine (opt_5 g s a w h hs hk).mono ?_
      rintro e w' ⟨rfl, hb⟩
      exact ⟨_, _, rfl, fun W => plo_5 (rdo5 s a) W, IRow.none, hb⟩
    · rw [rdo_6 s a hk]
      refine (opt_6 g s a w h hs hk).mono ?_
      rintro e w' ⟨rfl, hb⟩
      exact ⟨_, _, rfl, fun W => plo_6 (rdo6 s a) W, IRow.none, hb⟩
    · rw [rdo_7 s a hk]
      refine (opt_7 g s a w h hs hk).mono ?_
      rintro e w' ⟨rfl, hb⟩
      exact ⟨_, _, rfl, fun W => plo_7 (rdo7 s a) W, IRow.none, hb⟩
    · rw [rdo_8 s a hk]
      refine (opt_8 g s a w h hs hk).mono ?_
      rintro e w' ⟨p, c, rfl, hr, hb⟩
      exact ⟨_, _, rfl, fun W => plo_8 (rdo8 s a) _ _ _ W, hr, hb⟩
    · rw [rdo_9 s a hk]
      refine (opt_9 g s a w h hs hk).mono ?_
      rintro e w' ⟨rfl, hb⟩
      exact ⟨_, _, rfl, fun W => plo_9 (rdo9 s a) W, IRow.none, hb⟩
    · rw [rdo_10 s a hk]
      refine (opt_10 g s a w h hs hk).mono ?_
      rintro e w' ⟨rfl, hb⟩
      exact ⟨_, _, rfl, fun W => plo_10 (rdo10 s a) W, IRow.none, hb⟩
  · rw [rdo_0 s a hk]
    refine (opt_0 g s a w h hs ha hk).mono ?_
    rintro e w' ⟨rfl, hb⟩
    exact ⟨_, _, rfl, fun W => plo_0 W, IRow.none, hb⟩
end Go.Proofs.Ytkpajakangaekab
