import Derived.Test.YtnikehgmopcocaaDoorPartsI
import Derived.Test.YtnikehgmopcocaaDoorStr
import Derived.Outline
import Derived.Lib.AppendIntMem
namespace Go.Proofs.YtnikehgmopcocaaDoor
open Go.RowKit

theorem VRow.drewN {W : World} {e : TypeId} {B C : Nat} {v : Value} {xs : List Value} (h : VRow W e B C v xs) (n : Nat) : VRow (W.drewN n) e B C v xs := h
theorem below_drawn {B : Nat} {a w : World} (h : Below B a w) (n : Nat) : Below B a (w.drewN n) := ⟨h.os, h.tape, h.output, h.size, h.block⟩
theorem tab_kept {w W : World} {k : IntKind} {zs : List Int} {nm : String} (h : Lib.TabIs Tryd.prog w nm k zs) (hb : Below w.heap.size w W) : Lib.TabIs Tryd.prog W nm k zs := Lib.tabBelow_of_tabIs h _ hb

theorem partsR_few (s : ByteArray) : (partsR s).1.length ≤ 12 := by
  unfold partsR
  split
  · rename_i h
    unfold lineOk at h
    simp at h
    simpa using h.2
  · simp

set_option maxHeartbeats 1000000 in
set_option maxRecDepth 100000 in
theorem parts_law (s : ByteArray) (w : World) (htab : Lib.TabIs Tryd.prog w "strings.asciiSpace" .u8 Lib.asciiSpaceTab) :
    Calls Tryd.prog 4 #[.string s] w fun e w' => e = .returned (.bool true) ∧ Below w.heap.size w w' := by
  by_cases hs : s.size ≤ 1048576
  · have q : ¬ (1048576 < (s.size : Int)) := by omega
    have cs : ∀ W : World, Calls Tryd.prog 12 #[.string s] W fun e w' => ∃ v, e = .returned (.tuple #[v, .bool (partsR s).2]) ∧ VRow w' 9 W.heap.size w'.heap.size v (strVs (partsR s).1) ∧ Below W.heap.size W w' := fun W => spec_parts s W hs
    have ci : ∀ W : World, Lib.TabIs Tryd.prog W "strings.asciiSpace" .u8 Lib.asciiSpaceTab → Calls Tryd.prog 13 #[.string s] W fun e w' => ∃ v, e = .returned (.tuple #[v, .bool (partsR s).2]) ∧ VRow w' 9 W.heap.size w'.heap.size v (strVs (partsR s).1) ∧ Below W.heap.size W w' := fun W h => impl_parts s W hs h
    have hf := partsR_few s
    generalize (partsR s).1 = ps at cs ci hf
    generalize (partsR s).2 = bb at cs ci
    go_enter Tryd.func4, Tryd.ntmps4
    go_wp2_with (fail)
    with_reducible refine (cs _).mono ?_
    rintro e w1 ⟨v1, rfl, r1, b1⟩
    have T1 := tab_kept htab b1
    clear cs
    go_wp2_with (fail)
    with_reducible refine (ci _ T1).mono ?_
    rintro e w2 ⟨v2, rfl, r2, b2⟩
    have r1 := r1.keep b2 (Nat.le_refl _)
    go_wp2_with (fail)
    with_reducible refine (eq_strs v2 v1 ps w2 r2.rd r1.rd (by omega)).mono ?_
    rintro e w3 ⟨rfl, m, rfl⟩
    have r1 := r1.drewN m
    have r2 := r2.drewN m
    have b2' : Below w1.heap.size w1 (w2.drewN m) := below_drawn b2 m
    have hs2 : (w2.drewN m).heap.size = w2.heap.size := rfl
    clear b2
    generalize w2.drewN m = w3 at r1 r2 b2' hs2 ⊢
    have hb12 := b2'.size
    have cm := mark_strs v2 (strVs ps) w3 w1.heap.size w2.heap.size 1 r2 (by omega) (by rw [strVs_length]; omega) (by omega) (by omega)
    rw [strVs_length, show ((1 : Nat) : Int) = 1 from rfl] at cm
    obtain ⟨N, hN⟩ : ∃ N, ps.length = N := ⟨_, rfl⟩
    rw [hN] at cm
    have hbk := r2.block
    clear r2
    go_wp2_with (fail)
    with_reducible refine cm.mono ?_
    rintro e w4 ⟨rfl, r4, b4, ho4⟩
    have r1 := r1.keepAt (W' := w4) fun g hg => by
      have hg1 := r1.block g hg
      refine ho4 g (by omega) fun hg2 => ?_
      have hg3 := hbk g hg2
      omega
    have hB4 : Below w.heap.size w w4 := b1.trans ((b2'.trans b4).mono b1.size)
    have hs14 : w1.heap.size ≤ w4.heap.size := (b2'.trans b4).size
    have hsz4 : w2.heap.size ≤ w4.heap.size := by have := b4.size; omega
    have ch := fun W h => held_strs v2 1 N W h (by omega) (by omega) (by omega)
    rw [show ((1 : Nat) : Int) = 1 from rfl] at ch
    have hT4 := tab_kept htab hB4
    clear cm b4 b2' ho4 hbk T1 htab
    have hne : (((1 + N : Nat) : Int) != ((1 + N : Nat) : Int)) = false := by simp
    obtain ⟨M, hM⟩ : ∃ M : Int, ((1 + N : Nat) : Int) = M := ⟨_, rfl⟩
    have hM0 : ¬ M < 0 := by omega
    rw [hM] at ch hne ⊢
    go_wp2_with (fail)
    with_reducible refine (ch w4 r4.rd).mono ?_
    rintro e w5 ⟨rfl, b5⟩
    have r1 := r1.keep b5 (by omega)
    have r4 := r4.keep b5 hsz4
    have hB5 := hB4.trans (b5.mono hB4.size)
    have hT5 := tab_kept hT4 b5
    have hz5 := b5.size
    clear b5 hB4 hT4
    go_wp2_with (fail)
    with_reducible refine (ci _ hT5).mono ?_
    rintro e w6 ⟨v6, rfl, r6, b6⟩
    have r1 := r1.keep b6 (by omega)
    have r4 := r4.keep b6 (by omega)
    have hB6 := hB5.trans (b6.mono hB5.size)
    clear b6 hB5 ci
    go_wp2_with (fail)
    with_reducible refine (eq_strs v6 v1 ps w6 r6.rd r1.rd (by omega)).mono ?_
    rintro e w7 ⟨rfl, m', rfl⟩
    have r4 := r4.drewN m'
    have hB7 := below_drawn hB6 m'
    clear r6 r1 hB6
    generalize w6.drewN m' = w7 at r4 hB7 ⊢
    go_wp2_with (fail)
    with_reducible refine (ch w7 r4.rd).mono ?_
    rintro e w8 ⟨rfl, b8⟩
    go_wp2_with (fail)
    go_ret
    exact ⟨rfl, hB7.trans (b8.mono hB7.size)⟩
  · have q : 1048576 < (s.size : Int) := by omega
    go_enter Tryd.func4, Tryd.ntmps4
    go_wp2_with (fail)
    go_ret
    exact ⟨rfl, Below.refl _ _⟩

end Go.Proofs.YtnikehgmopcocaaDoor
