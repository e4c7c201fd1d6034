import Derived.Test.YtnjcmknjfonjpaaDoorIBlock
import Derived.Test.YtnjcmknjfonjpaaDoorCut
import Derived.Deep.RegionHeld3
import Derived.Deep.RegionLawGrows
namespace Go.Proofs.YtnjcmknjfonjpaaDoor
open Go.RowKit

/-- zs with its first k places taken from ws. -/
def mixTo (zs ws : List Int) : Nat → List Int
  | 0 => zs
  | k + 1 => (mixTo zs ws k).set k (ws.getD k 0)

theorem mixTo_length (zs ws : List Int) (k : Nat) : (mixTo zs ws k).length = zs.length := by
  induction k with
  | zero => rfl
  | succ k ih => simp [mixTo, ih]

theorem mixTo_get (zs ws : List Int) (k i : Nat) (hi : i < k) (h : i < (mixTo zs ws k).length) : (mixTo zs ws k)[i] = ws.getD i 0 := by
  induction k with
  | zero => omega
  | succ k ih =>
    simp only [mixTo]
    rw [List.getElem_set]
    by_cases hik : k = i
    · subst hik; simp
    · rw [if_neg hik]
      exact ih (by omega) (by rw [mixTo_length] at h ⊢; exact h)

theorem mixTo_all (zs ws : List Int) (h : ws.length = zs.length) : mixTo zs ws zs.length = ws := by
  apply List.ext_getElem
  · rw [mixTo_length, h]
  · intro i h1 h2
    rw [mixTo_get _ _ _ _ (by rw [mixTo_length] at h1; exact h1)]
    simp [List.getD, h2]

theorem mixTo_zero (zs ws : List Int) : mixTo zs ws 0 = zs := rfl
theorem mixTo_succ (zs ws : List Int) (k : Nat) : mixTo zs ws (k + 1) = (mixTo zs ws k).set k (ws.getD k 0) := rfl
attribute [irreducible] mixTo

/-- What stands beside the cells that the last region loads. -/
structure SRest (w : World) (g6 : Nat) (d : Array (BitVec 32)) (v : Value) (zs : List Int) (W : World) : Prop where
  lt : g6 < W.heap.size
  bl : Below w.heap.size w W
  st : Blk W g6 35 d
  row : IRow W w.heap.size g6 v zs

@[simp] theorem SRest_drew (w : World) (g6 : Nat) (d : Array (BitVec 32)) (v : Value) (zs : List Int) (W : World) : SRest w g6 d v zs W.drew ↔ SRest w g6 d v zs W :=
  ⟨fun h => ⟨h.lt, ⟨h.bl.os, h.bl.tape, h.bl.output, h.bl.size, h.bl.block⟩, h.st, h.row⟩, fun h => ⟨h.lt, h.bl.drew, h.st, h.row⟩⟩

theorem SRest.below {w : World} {g6 : Nat} {d : Array (BitVec 32)} {v : Value} {zs : List Int} {W W' : World} (h : SRest w g6 d v zs W) (hb : Below W.heap.size W W') : SRest w g6 d v zs W' :=
  ⟨Nat.lt_of_lt_of_le h.lt hb.size, h.bl.trans (hb.mono h.bl.size), h.st.below hb h.lt, h.row.keep hb (Nat.le_of_lt h.lt)⟩

theorem SRest.cell {w : World} {g6 : Nat} {d : Array (BitVec 32)} {v : Value} {zs : List Int} {W W' : World} (h : SRest w g6 d v zs W) (hb : Below W.heap.size W W') (i : Nat) : W'.cell? ⟨g6, i, none⟩ = W.cell? ⟨g6, i, none⟩ := hb.cell h.lt

theorem SRest.cells {w : World} {g6 : Nat} {d : Array (BitVec 32)} {v : Value} {zs : List Int} {W W' : World} {i : Nat} {x : Value} (h : SRest w g6 d v zs W) (hb : Below W.heap.size W W') (hc : W.cell? ⟨g6, i, none⟩ = some x) : W'.cell? ⟨g6, i, none⟩ = some x := by
  rw [h.cell hb]; exact hc

theorem SRest.belowD {w : World} {g6 : Nat} {d : Array (BitVec 32)} {v : Value} {zs : List Int} {W W' : World} (h : SRest w g6 d v zs W) (hb : Below W.drew.heap.size W.drew W') : SRest w g6 d v zs W' :=
  SRest.below ((SRest_drew w g6 d v zs W).2 h) hb

theorem SRest.cellsD {w : World} {g6 : Nat} {d : Array (BitVec 32)} {v : Value} {zs : List Int} {W W' : World} {i : Nat} {x : Value} (h : SRest w g6 d v zs W) (hb : Below W.drew.heap.size W.drew W') (hc : W.cell? ⟨g6, i, none⟩ = some x) : W'.cell? ⟨g6, i, none⟩ = some x :=
  SRest.cells ((SRest_drew w g6 d v zs W).2 h) hb hc

attribute [-simp] Tryd.isAgg35 Tryd.sizeOf35 Tryd.zeroValue35

set_option maxHeartbeats 2000000 in
set_option maxRecDepth 100000 in
theorem spec_shaBlock (g : Nat) (zs : List Int) (s : ByteArray) (w : World) (hv : IBlk w g zs.toArray) (hn : zs.length ≤ 1048576) :
    Calls Tryd.prog 8 #[.slice (some ⟨g, 0, none⟩) zs.length zs.length, .string s] w fun e w' => ∃ v', e = .returned v' ∧ IRow w' w.heap.size w'.heap.size v' (shaOf zs s) ∧ Below w.heap.size w w' := by
  obtain ⟨i0, hi, hz0, hz1, hz2⟩ := info_parts infoI
  have ho1 := World.ownsRow_made w (e := 3) (size := 1) (base := w.heap.size) #[] 0 (Nat.le_refl _) (by unfold maxLen; omega) rfl
  have hB1 := (Below.refl w.heap.size w).alloc (Nat.le_refl _) (.cells #[] 3)
  have hv1 := hv.alloc (.cells #[] 3)
  go_enter Tryd.func8, Tryd.ntmps8
  go_wp2_with (at_builtin; refine wpList_append_own _ rfl _ _ 22 rfl w.heap.size 3 i0 (.int .i64 0) 1 8 Tryd.underlying22 hi hz0 hz1 hz2 rfl (by decide) _ _ _ rfl ho1 ⟨g, 0, none⟩ zs.length zs.length (zs.map (Value.int .i64)) rfl (by simp) ?c1 ?c2 ?c3 ?c4 ?c5 ?_)
  case c1 =>
    intro j u hj
    rw [List.getElem?_map] at hj
    obtain ⟨z, hz, rfl⟩ := Option.map_eq_some_iff.1 hj
    obtain ⟨hlt, rfl⟩ := List.getElem?_eq_some_iff.1 hz
    have hc := hv1.cell j (by simpa using hlt)
    rw [Addr.add_lit, Nat.zero_add, hc, getElem!_pos _ _ (by simpa using hlt)]
    simp
  case c2 => intro u hu; obtain ⟨z, _, rfl⟩ := List.mem_map.1 hu; rfl
  case c3 => unfold maxLen; omega
  case c4 => omega
  case c5 => simp
  intro v5 w2 hown hgrow _
  have hB2 := hB1.grown hgrow (by simp) (fun j hj => (ho1.lt j hj).1)
  have hv2 : IBlk w2 g zs.toArray := by
    show w2.heap[g]? = _
    rw [hgrow.block g (by have := hv.lt; simp; omega) (by have := hv.lt; simp [Value.ownBlock]; omega)]
    exact hv1
  have r5 : IRow w2 w.heap.size w2.heap.size v5 zs := ⟨hown, fun g hg => (hown.lt g hg).2⟩
  clear hown hgrow hB1 hv1 ho1
  by_cases hl : zs.length = 8
  · by_cases h64 : s.size = 64
    · have h64' : (s.size : Int) = 64 := by omega
      rw [hl]
      obtain ⟨g5, cap5, rfl⟩ : ∃ g5 cap5, v5 = .slice (some ⟨g5, 0, none⟩) 8 cap5 := by
        rcases r5.1.2 with ⟨_, h0⟩ | ⟨g5, cap5, cur, h, _⟩
        · omega
        · exact ⟨g5, cap5, by rw [h, hl]⟩
      have hst := store_new w2 35 35 z8 z8 rfl rfl (by rw [z8_size]; exact size35)
      have hB3 := hB2.alloc hB2.size (.cells (z8.map u) 35)
      have hd3 := Blk.new w2 35 z8
      have hv3 := hv2.alloc (.cells (z8.map u) 35)
      have r53 := r5.keep (Below.alloc (Below.refl w2.heap.size w2) (Nat.le_refl _) (.cells (z8.map u) 35)) (Nat.le_refl _)
      have hg5 : g5 < w2.heap.size := r5.2 g5 rfl
      have hg5' : w.heap.size ≤ g5 := by
        rcases r5.1.2 with ⟨_, h0⟩ | ⟨g', cap', cur, h, hb, _⟩
        · omega
        · injection h with e1; injection e1 with e1; injection e1 with e1; omega
      have hg6 := hB2.size
      have hgv := hv.lt
      go_wp2_with (fail)
      simp only [Tryd.sizeOf35, Result.andThen, ↓reduceIte, z8_size, hst]
      rw [Oper.upon_skip]
      clear hst hv2 r5 hB2
      have hsz3 : (w2.alloc (.cells (z8.map u) 35)).heap.size = w2.heap.size + 1 := World.size_alloc _ _
      generalize w2.alloc (.cells (z8.map u) 35) = W3 at hB3 hd3 hv3 r53 hsz3 ⊢
      generalize w2.heap.size = g6 at hd3 hg5 r53 hg6 hsz3 ⊢
      go_wp2_with (fail)
      go_loopw [7] (fun i wr => ∃ k : Nat, k ≤ 8 ∧ i = .int .i64 k ∧ (∀ j (h : j < zs.length), j < k → 0 ≤ zs[j] ∧ zs[j] ≤ 4294967295) ∧ (∃ d : Array (BitVec 32), d.size = 8 ∧ (∀ j, j < k → d[j]! = (toWords zs)[j]!) ∧ Blk wr g6 35 d) ∧ IBlk wr g zs.toArray ∧ IRow wr w.heap.size g6 (.slice (some ⟨g5, 0, none⟩) 8 cap5) zs ∧ g6 < wr.heap.size ∧ Below w.heap.size w wr) (fun i _ => 8 - (intOf i).toNat)
      case atStart => exact ⟨0, by omega, rfl, fun j _ h => by omega, ⟨z8, z8_size, fun j h => by omega, hd3⟩, hv3, r53, by omega, hB3⟩
      case round =>
        clear hd3 hv3 r53 hB3 hsz3
        obtain ⟨k, hk, rfl, hin, ⟨d, hd, hdj, hs⟩, hv3, r5, hlt6, hB⟩ := hrel
        by_cases hlt : k < 8
        · have h1 := hv3.cell k (by simp; omega)
          obtain ⟨z, hz⟩ : ∃ z, zs[k] = z := ⟨_, rfl⟩
          rw [getElem!_pos _ _ (by simp; omega)] at h1
          simp only [List.getElem_toArray, hz] at h1
          have q : (0 : Int) ≤ (k : Int) ∧ (k : Int) < 8 := by omega
          have c22 := fun W => spec_in z 0 4294967295 W
          by_cases hzz : 0 ≤ z ∧ z ≤ 4294967295
          · have hdec : decide (0 ≤ z ∧ z ≤ 4294967295) = true := by simpa using hzz
            rw [hdec] at c22
            have hwd := word_of z hzz.1 hzz.2
            have htw := toWords_get zs k (by omega)
            rw [hz] at htw
            generalize BitVec.ofNat 32 z.toNat = x at hwd htw
            have e1 : IntKind.u32.wrap z = (x.toNat : Int) := by rw [hwd]; simp [IntKind.wrap, IntKind.bits, IntKind.signed]; omega
            have e2 : z % 4294967296 = (x.toNat : Int) := by rw [hwd]; omega
            have h2 := hs.cell k (by omega)
            have hf := hs.frozen k
            generalize d[k]! = y at h2
            clear hwd
            go_wp2_with (go_at_call 22; refine (c22 _).mono ?_; rintro e w' ⟨rfl, rfl⟩)
            go_roundw
            case rel =>
              refine ⟨k + 1, by omega, by go_num, fun j hj hjk => ?_, ⟨d.setIfInBounds k x, by simp [hd], fun j hjk => ?_, hs.set k x⟩, hv3.other _ _ (by dsimp only; omega), r5.keep (Below.setCell (Below.refl g6 wr) (Nat.le_refl _) _) (Nat.le_refl _), by simpa using hlt6, hB.setCell (by dsimp only; omega) _⟩
              · by_cases hjk2 : j = k
                · subst hjk2; rw [hz]; exact hzz
                · exact hin j hj (by omega)
              · by_cases hjk2 : j = k
                · subst hjk2
                  rw [htw, getElem!_pos _ _ (by simp [hd]; omega), Array.getElem_setIfInBounds, if_pos rfl]
                  simp [hd]; omega
                · rw [getElem!_pos _ _ (by simp [hd]; omega), Array.getElem_setIfInBounds, if_neg (by omega), ← hdj j (by omega), getElem!_pos _ _ (by omega)]
            case measure => simp [intOf]; omega
          · have hdec : decide (0 ≤ z ∧ z ≤ 4294967295) = false := by simpa using hzz
            rw [hdec] at c22
            have hok : okState zs = false := by
              simp only [okState, decide_eq_false_iff_not]
              rintro ⟨_, h⟩
              exact hzz (h z (hz ▸ List.getElem_mem _))
            have hsh : shaOf zs s = zs := by unfold shaOf; rw [if_neg (by simp [hok])]
            go_wp2_with (go_at_call 22; refine (c22 _).mono ?_; rintro e w' ⟨rfl, rfl⟩)
            go_ret
            refine ⟨_, rfl, ?_, hB⟩
            rw [hsh]
            exact r5.mono (Nat.le_refl _) (by omega)
        · obtain rfl : k = 8 := by omega
          have hok : okState zs = true := by
            simp only [okState, decide_eq_true_eq]
            refine ⟨hl, fun z hz => ?_⟩
            obtain ⟨j, hj, rfl⟩ := List.getElem_of_mem hz
            exact hin j hj (by omega)
          have hdw : d = toWords zs := by
            apply Array.ext
            · rw [hd, toWords_size, hl]
            · intro j h1 h2
              have := hdj j (by omega)
              rw [getElem!_pos d j h1, getElem!_pos (toWords zs) j h2] at this
              exact this
          have hsh : shaOf zs s = words (blockOf d s) := by unfold shaOf; rw [if_pos ⟨hok, h64⟩, hdw]
          clear hdw hdj hin hv3
          have hem := eight_map d hd
          have c23 := fun W => spec_block d hd s h64 W
          have he := blockOf_size d s hd
          have c0 := hs.cell 0 (by omega)
          have c1 := hs.cell 1 (by omega)
          have c2 := hs.cell 2 (by omega)
          have c3 := hs.cell 3 (by omega)
          have c4 := hs.cell 4 (by omega)
          have c5 := hs.cell 5 (by omega)
          have c6 := hs.cell 6 (by omega)
          have c7 := hs.cell 7 (by omega)
          generalize blockOf d s = E at c23 he hsh
          rw [hem] at c23
          clear hem
          generalize d[0]! = x0 at c0 c23
          generalize d[1]! = x1 at c1 c23
          generalize d[2]! = x2 at c2 c23
          generalize d[3]! = x3 at c3 c23
          generalize d[4]! = x4 at c4 c23
          generalize d[5]! = x5 at c5 c23
          generalize d[6]! = x6 at c6 c23
          generalize d[7]! = x7 at c7 c23
          have hst := fun (W : World) (hW : SRest w g6 d (.slice (some ⟨g5, 0, none⟩) 8 cap5) zs W) => hW.st.storeFrom (P := Tryd.prog) 35 E (by rw [he, hd]) (by rw [hd]; exact size35)
          simp only [Array.toList_map] at hst
          have ia := Tryd.isAgg35
          have sz := Tryd.sizeOf35
          rw [show ((8 : Nat) : Int) = (8 : Int) from rfl]
          go_wp2_with (fail)
          have hsr : SRest w g6 d (.slice (some ⟨g5, 0, none⟩) 8 cap5) zs wr := ⟨hlt6, hB, hs, r5⟩
          clear hs r5 hB hlt6 hv hn hi hz0 hz1 hz2
          go_region_law (first
            | (go_simp; go_at_call 24; with_reducible refine (spec_keys _).mono ?_; rintro e w4 ⟨rfl, hb⟩
               have hs4 := SRest.belowD (w := w) (d := d) (v := .slice (some ⟨g5, 0, none⟩) 8 cap5) (zs := zs) hsr hb
               have k0 := SRest.cellsD (w := w) (d := d) (v := .slice (some ⟨g5, 0, none⟩) 8 cap5) (zs := zs) hsr hb c0
               have k1 := SRest.cellsD (w := w) (d := d) (v := .slice (some ⟨g5, 0, none⟩) 8 cap5) (zs := zs) hsr hb c1
               have k2 := SRest.cellsD (w := w) (d := d) (v := .slice (some ⟨g5, 0, none⟩) 8 cap5) (zs := zs) hsr hb c2
               have k3 := SRest.cellsD (w := w) (d := d) (v := .slice (some ⟨g5, 0, none⟩) 8 cap5) (zs := zs) hsr hb c3
               have k4 := SRest.cellsD (w := w) (d := d) (v := .slice (some ⟨g5, 0, none⟩) 8 cap5) (zs := zs) hsr hb c4
               have k5 := SRest.cellsD (w := w) (d := d) (v := .slice (some ⟨g5, 0, none⟩) 8 cap5) (zs := zs) hsr hb c5
               have k6 := SRest.cellsD (w := w) (d := d) (v := .slice (some ⟨g5, 0, none⟩) 8 cap5) (zs := zs) hsr hb c6
               have k7 := SRest.cellsD (w := w) (d := d) (v := .slice (some ⟨g5, 0, none⟩) 8 cap5) (zs := zs) hsr hb c7)
            | (go_simp; go_at_call 23; with_reducible refine (c23 _).mono ?_; rintro e w5 ⟨rfl, hb5⟩
               have hs5 := SRest.below (w := w) (d := d) (v := .slice (some ⟨g5, 0, none⟩) 8 cap5) (zs := zs) hs4 hb5))
          all_goals
            have hB6 := below_setRow hs5.bl g6 hg6 (E.map u)
            have hE6 : Blk (w5.setRow g6 (E.map u)) g6 35 E := hs5.st.setRow E
            have r6 : IRow (w5.setRow g6 (E.map u)) w.heap.size g6 (.slice (some ⟨g5, 0, none⟩) 8 cap5) zs := hs5.row.keep (below_setRow (Below.refl g6 w5) g6 (Nat.le_refl _) (E.map u)) (Nat.le_refl _)
            have hl6 : g6 < (w5.setRow g6 (E.map u)).heap.size := hE6.lt
            clear hs5 hs4 hsr k0 k1 k2 k3 k4 k5 k6 k7 c0 c1 c2 c3 c4 c5 c6 c7 hst ia sz hb hb5 c23
            generalize w5.setRow g6 (E.map u) = w6 at hB6 hE6 r6 hl6 ⊢
            go_wp2_with (fail)
            go_loopw [8] (fun i wr => ∃ k : Nat, k ≤ 8 ∧ i = .int .i64 k ∧ IRow wr w.heap.size g6 (.slice (some ⟨g5, 0, none⟩) 8 cap5) (mixTo zs (words E) k) ∧ Blk wr g6 35 E ∧ g6 < wr.heap.size ∧ Below w.heap.size w wr) (fun i _ => 8 - (intOf i).toNat)
            case atStart => exact ⟨0, by omega, rfl, by rw [mixTo_zero]; exact r6, hE6, hl6, hB6⟩
            case round =>
              clear hB6 hE6 r6 hl6
              obtain ⟨k, hk8, rfl, hr, hE, hl6, hB⟩ := hrel
              by_cases hlt : k < 8
              · have ce := hE.cell k (by omega)
                have hg := words_get E k (by omega)
                have hsuc := mixTo_succ zs (words E) k
                rw [List.getD_eq_getElem?_getD, List.getElem?_eq_getElem (by rw [words_length]; omega), Option.getD_some, hg] at hsuc
                generalize E[k]! = x at ce hsuc
                obtain ⟨h1, h2⟩ := hr.cell k (by rw [mixTo_length]; omega)
                generalize (mixTo zs (words E) k)[k]'_ = y at h1
                have q : (0 : Int) ≤ (k : Int) ∧ (k : Int) < 8 := by omega
                have e1 : IntKind.i64.wrap (x.toNat : Int) = (x.toNat : Int) := IntWalk.i64_in _ (by have := x.isLt; omega)
                clear hg
                go_wp2_with (fail)
                go_roundw
                case rel => exact ⟨k + 1, by omega, by go_num, by rw [hsuc]; exact hr.set k _, hE.other _ _ (by dsimp only; omega), by simpa using hl6, hB.setCell hg5' _⟩
                case measure => simp [intOf]; omega
              · obtain rfl : k = 8 := by omega
                have hall := mixTo_all zs (words E) (by rw [words_length, he, hl])
                rw [hl] at hall
                rw [hall, ← hsh] at hr
                clear hsh hall
                go_wp2_with (fail)
                go_ret
                exact ⟨_, rfl, hr.mono (Nat.le_refl _) (Nat.le_of_lt hl6), hB⟩
    · have hsh : shaOf zs s = zs := by unfold shaOf; rw [if_neg (by simp [h64])]
      have h64' : ¬ ((s.size : Int) = 64) := by omega
      rw [hl]
      go_wp2_with (fail)
      go_ret
      refine ⟨_, rfl, ?_, hB2⟩
      rw [hsh]
      exact r5
  · have hok : okState zs = false := by simp [okState, hl]
    have hsh : shaOf zs s = zs := by unfold shaOf; rw [if_neg (by simp [hok])]
    have hl' : ¬ ((zs.length : Int) = 8) := by omega
    go_wp2_with (fail)
    go_ret
    refine ⟨_, rfl, ?_, hB2⟩
    rw [hsh]
    exact r5
end Go.Proofs.YtnjcmknjfonjpaaDoor
