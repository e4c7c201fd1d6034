import Derived.Test.YtlkhgamhhblmgaaDoorNums
import Derived.Laws.ResultCell
namespace Go.Proofs.YtlkhgamhhblmgaaDoor
open Go.RowKit

/-- Eight words of 32 bits. -/
def okState (zs : List Int) : Bool := decide (zs.length = 8 ∧ ∀ z ∈ zs, 0 ≤ z ∧ z ≤ 4294967295)

def toWords (zs : List Int) : Array (BitVec 32) := (zs.map fun z => BitVec.ofNat 32 z.toNat).toArray

theorem toWords_size (zs : List Int) : (toWords zs).size = zs.length := by simp [toWords]
theorem toWords_get (zs : List Int) (j : Nat) (h : j < zs.length) : (toWords zs)[j]! = BitVec.ofNat 32 (zs[j].toNat) := by
  rw [getElem!_pos _ _ (by rw [toWords_size]; exact h)]
  simp [toWords]

theorem word_of (z : Int) (h0 : 0 ≤ z) (h1 : z ≤ 4294967295) : ((BitVec.ofNat 32 z.toNat).toNat : Int) = z := by
  rw [BitVec.toNat_ofNat]; omega

theorem zero40 (w : World) : (zeroValue 62).run Tryd.prog w = .ok (.agg (z8.map u)) w := by
  rw [Tryd.zeroValue62, z8, zeros8]

attribute [irreducible] toWords

theorem state_result {W : World} {g : Nat} {d : Array (BitVec 32)} (h : Blk W g 62 d) (hd : d.size = 8) (tmps : Array Value) (hp : tmps.getD 2 undef = .pointer (some ⟨g, 0, none⟩)) :
    (results Tryd.f37 tmps).run Tryd.prog W = .ok (.tuple #[.agg (d.map u), tmps.getD 3 undef]) W := by
  rw [results_cell_tmp (p := 2) (u := 3) (ty := 62) rfl]
  have hl := run_loadVar_row (P := Tryd.prog) W g 62 62 (d.map u) (0, 0) _ h Tryd.underlying62 rfl (by rw [Array.size_map, hd]; exact size40)
  rw [hp]
  simp [asAddr, Result.andThen, hl]

attribute [-simp] Tryd.isAgg62 Tryd.sizeOf62 Tryd.zeroValue62
attribute [local simp] zero40

set_option maxHeartbeats 1000000 in
set_option maxRecDepth 100000 in
theorem impl_stateOf (v : Value) (zs : List Int) (w : World) (hv : Rd w v zs) (_hn : zs.length ≤ 1048576) :
    Calls Tryd.prog 37 #[v] w fun e w' => ∃ d : Array (BitVec 32), d.size = 8 ∧ e = .returned (.tuple #[.agg (d.map u), .bool (okState zs)]) ∧ (okState zs = true → d = toWords zs) ∧ Below w.heap.size w w' := by
  have hv0 := hv
  obtain ⟨a, c, rfl, hc⟩ := hv
  have hB0 := (Below.refl w.heap.size w).alloc (Nat.le_refl _) (.cells (z8.map u) 62)
  have hr0 := Blk.new w 62 z8
  by_cases hl : zs.length = 8
  · have hr1 := hr0.alloc (.cells (z8.map u) 62)
    have hs1 := Blk.new (w.alloc (.cells (z8.map u) 62)) 62 z8
    have hB1 := hB0.alloc (by simp) (.cells (z8.map u) 62)
    rw [World.size_alloc] at hs1
    rw [hl]
    have hcc := hc (by omega)
    obtain ⟨b, off, rfl, hcc⟩ := hcc
    clear hc
    go_enter Tryd.func37, Tryd.ntmps37
    go_wp2_with (fail)
    generalize (w.alloc (.cells (z8.map u) 62)).alloc (.cells (z8.map u) 62) = W1 at hr1 hs1 hB1 ⊢
    clear hr0 hB0
    go_loopw [13] (fun i wr => ∃ k : Nat, k ≤ 8 ∧ i = .int .i64 k ∧ (∀ j (h : j < zs.length), j < k → 0 ≤ zs[j] ∧ zs[j] ≤ 4294967295) ∧ (∃ d : Array (BitVec 32), d.size = 8 ∧ (∀ j, j < k → d[j]! = (toWords zs)[j]!) ∧ Blk wr (w.heap.size + 1) 62 d) ∧ Blk wr w.heap.size 62 z8 ∧ Below w.heap.size w wr) (fun i _ => 8 - (intOf i).toNat)
    case atStart => exact ⟨0, by omega, rfl, fun j _ h => by omega, ⟨z8, z8_size, fun j h => by omega, hs1⟩, hr1, hB1⟩
    case round =>
      clear hr1 hs1 hB1
      obtain ⟨k, hk, rfl, hin, ⟨d, hd, hdj, hs⟩, hr, hB⟩ := hrel
      by_cases hlt : k < 8
      · have h1 := hcc k (by omega)
        have hbl := World.block_lt_of_cell? _ _ h1
        rw [← hB.cell hbl] at h1
        obtain ⟨z, hz⟩ : ∃ z, zs[k] = z := ⟨_, rfl⟩
        rw [hz] at h1
        have q : (0 : Int) ≤ (k : Int) ∧ (k : Int) < 8 := by omega
        by_cases hz0 : z < 0
        · have hok : okState zs = false := by
            simp only [okState, decide_eq_false_iff_not]
            rintro ⟨_, h⟩
            have := h z (hz ▸ List.getElem_mem _)
            omega
          have hst := hr.storeFrom (P := Tryd.prog) 62 z8 rfl (by rw [z8_size]; exact size40)
          have hr2 := hr.setRow z8
          have hB2 := below_setRow hB w.heap.size (Nat.le_refl _) (z8.map u)
          simp only [Array.toList_map] at hst
          go_wp2_with (fail)
          simp only [Tryd.sizeOf62, Result.andThen, ↓reduceIte, z8_size, hst]
          rw [Oper.upon_skip]
          go_wp2_with (fail)
          refine bodyPost_ret (v := .tuple #[.agg (z8.map u), .bool false]) ?_ rfl ⟨z8, z8_size, by rw [hok], (fun h => by rw [hok] at h; cases h), hB2⟩
          exact state_result hr2 z8_size _ rfl
        · by_cases hz1 : 4294967295 < z
          · have hok : okState zs = false := by
              simp only [okState, decide_eq_false_iff_not]
              rintro ⟨_, h⟩
              have := h z (hz ▸ List.getElem_mem _)
              omega
            have hz0' : 0 ≤ z := by omega
            have hst := hr.storeFrom (P := Tryd.prog) 62 z8 rfl (by rw [z8_size]; exact size40)
            have hr2 := hr.setRow z8
            have hB2 := below_setRow hB w.heap.size (Nat.le_refl _) (z8.map u)
            simp only [Array.toList_map] at hst
            go_wp2_with (fail)
            simp only [Tryd.sizeOf62, Result.andThen, ↓reduceIte, z8_size, hst]
            rw [Oper.upon_skip]
            go_wp2_with (fail)
            refine bodyPost_ret (v := .tuple #[.agg (z8.map u), .bool false]) ?_ rfl ⟨z8, z8_size, by rw [hok], (fun h => by rw [hok] at h; cases h), hB2⟩
            exact state_result hr2 z8_size _ rfl
          · have hz0' : 0 ≤ z := by omega
            have hz1' : z ≤ 4294967295 := by omega
            have hwd := word_of z hz0' hz1'
            have htw := toWords_get zs k (by omega)
            rw [hz] at htw
            generalize BitVec.ofNat 32 z.toNat = x at hwd htw
            have e1 : IntKind.u32.wrap z = (x.toNat : Int) := by rw [hwd]; simp [IntKind.wrap, IntKind.bits, IntKind.signed]; omega
            have e2 : z % 4294967296 = (x.toNat : Int) := by rw [hwd]; omega
            have h2 := hs.cell k (by omega)
            have hf := hs.frozen k
            generalize d[k]! = y at h2
            clear hwd
            go_wp2_with (fail)
            go_roundw
            case rel =>
              refine ⟨k + 1, by omega, by go_num, fun j hj hjk => ?_, ⟨d.setIfInBounds k x, by simp [hd], fun j hjk => ?_, hs.set k x⟩, hr.other _ _ (by dsimp only; omega), hB.setCell (by dsimp only; omega) _⟩
              · by_cases hjk2 : j = k
                · subst hjk2; rw [hz]; exact ⟨hz0', hz1'⟩
                · exact hin j hj (by omega)
              · by_cases hjk2 : j = k
                · subst hjk2
                  rw [htw, getElem!_pos _ _ (by simp [hd]; omega), Array.getElem_setIfInBounds, if_pos rfl]
                  simp [hd]; omega
                · rw [getElem!_pos _ _ (by simp [hd]; omega), Array.getElem_setIfInBounds, if_neg (by omega), ← hdj j (by omega), getElem!_pos _ _ (by omega)]
            case measure => simp [intOf]; omega
      · obtain rfl : k = 8 := by omega
        have hok : okState zs = true := by
          simp only [okState, decide_eq_true_eq]
          refine ⟨hl, fun z hz => ?_⟩
          obtain ⟨j, hj, rfl⟩ := List.getElem_of_mem hz
          exact hin j hj (by omega)
        have hld := load_open hs hd
        have hst := hr.storeFrom (P := Tryd.prog) 62 d (by rw [hd, z8_size]) (by rw [z8_size]; exact size40)
        have hr2 := hr.setRow d
        have hB2 := below_setRow hB w.heap.size (Nat.le_refl _) (d.map u)
        simp only [Array.toList_map] at hst
        rw [show ((8 : Nat) : Int) = (8 : Int) from rfl]
        go_wp2_with (fail)
        simp only [Tryd.isAgg62, Tryd.sizeOf62, Result.andThen, ↓reduceIte, hld]
        rw [Oper.upon_value]
        go_wp2_with (fail)
        simp only [Tryd.sizeOf62, Result.andThen, ↓reduceIte, hst]
        rw [Oper.upon_skip]
        go_wp2_with (fail)
        have hdw : d = toWords zs := by
          apply Array.ext
          · rw [hd, toWords_size, hl]
          · intro j h1 h2
            have := hdj j (by omega)
            rw [getElem!_pos d j h1, getElem!_pos (toWords zs) j h2] at this
            exact this
        refine bodyPost_ret (v := .tuple #[.agg (d.map u), .bool true]) ?_ rfl ⟨d, hd, by rw [hok], fun _ => hdw, hB2⟩
        exact state_result hr2 hd _ rfl
  · have hok : okState zs = false := by simp [okState, hl]
    have hl' : ¬ ((zs.length : Int) = 8) := by omega
    rw [hok]
    have hst := store_new w 62 62 z8 z8 rfl rfl (by rw [z8_size]; exact size40)
    go_enter Tryd.func37, Tryd.ntmps37
    go_wp2_with (fail)
    simp only [Tryd.sizeOf62, Result.andThen, ↓reduceIte, z8_size, hst]
    rw [Oper.upon_skip]
    go_wp2_with (fail)
    refine bodyPost_ret (v := .tuple #[.agg (z8.map u), .bool false]) ?_ rfl ⟨z8, z8_size, rfl, (fun h => by cases h), hB0⟩
    exact state_result hr0 z8_size _ rfl
end Go.Proofs.YtlkhgamhhblmgaaDoor
