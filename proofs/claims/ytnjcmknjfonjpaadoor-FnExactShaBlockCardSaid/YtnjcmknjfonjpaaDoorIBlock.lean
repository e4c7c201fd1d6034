import Derived.Test.YtnjcmknjfonjpaaDoorStOf
import Derived.Test.YtnjcmknjfonjpaaDoorInts2
import Derived.Test.YtnjcmknjfonjpaaDoorShelf
namespace Go.Proofs.YtnjcmknjfonjpaaDoor
open Go.RowKit

/-- What ShaBlock answers. -/
def shaOf (zs : List Int) (s : ByteArray) : List Int := if okState zs = true ∧ s.size = 64 then words (blockOf (toWords zs) s) else zs

theorem okState_length {zs : List Int} (h : okState zs = true) : zs.length = 8 := by
  simp only [okState, decide_eq_true_eq] at h
  exact h.1

theorem shaOf_length (zs : List Int) (s : ByteArray) : (shaOf zs s).length = zs.length := by
  unfold shaOf
  split
  · rename_i h
    rw [words_length, blockOf_size _ _ (by rw [toWords_size]; exact okState_length h.1), okState_length h.1]
  · rfl

theorem IRow.mono {W : World} {B B' C C' : Nat} {v : Value} {zs : List Int} (h : IRow W B C v zs) (hB : B' ≤ B) (hC : C ≤ C') : IRow W B' C' v zs := by
  obtain ⟨⟨h1, h2⟩, h3⟩ := h
  refine ⟨⟨h1, ?_⟩, fun g hg => Nat.lt_of_lt_of_le (h3 g hg) hC⟩
  rcases h2 with h2 | ⟨g, cap, cur, hv, hg, r⟩
  · exact .inl h2
  · exact .inr ⟨g, cap, cur, hv, Nat.le_trans hB hg, r⟩

attribute [-simp] Tryd.isAgg40 Tryd.sizeOf40 Tryd.zeroValue40
attribute [local simp] zero40

set_option maxHeartbeats 1000000 in
set_option maxRecDepth 100000 in
theorem impl_shaBlock (g : Nat) (zs : List Int) (s : ByteArray) (w : World) (hv : IBlk w g zs.toArray) (hn : zs.length ≤ 1048576) (hk : Keys w) :
    Calls Tryd.prog 10 #[.slice (some ⟨g, 0, none⟩) zs.length zs.length, .string s] w fun e w' => ∃ v', e = .returned v' ∧ IRow w' w.heap.size w'.heap.size v' (shaOf zs s) ∧ Below w.heap.size w w' := by
  have hrd : Rd w (.slice (some ⟨g, 0, none⟩) zs.length zs.length) zs := (hv.irow hn (Nat.zero_le _) hv.lt).rd
  have c25 := impl_stateOf _ zs w hrd hn
  have hcl := fun W (h : IBlk W g zs.toArray) => Tryd.slices_Clone_int g 0 zs.length zs.length zs W (Nat.le_refl _) (by omega) (fun j hj => by
    have := h.cell j (by simpa using hj)
    rw [Nat.zero_add, this, getElem!_pos _ _ (by simpa using hj)]
    simp [List.getD, hj])
  go_enter Tryd.func10, Tryd.ntmps10
  go_wp2_with (fail)
  refine c25.mono ?_
  rintro e w1 ⟨d, hd, rfl, hdw, hb1⟩
  have hv1 := hv.below hb1 hv.lt
  have hst := store_new w1 40 40 z8 d (by rw [hd, z8_size]) rfl (by rw [hd]; exact size40)
  have hB2 := hb1.alloc hb1.size (.cells (d.map u) 40)
  have hd2 := Blk.new w1 40 d
  have hv2 := hv1.alloc (.cells (d.map u) 40)
  go_wp2_with (fail)
  simp only [Tryd.sizeOf40, Result.andThen, ↓reduceIte, hst]
  rw [Oper.upon_skip]
  clear hst hv1 hb1
  generalize w1.alloc (.cells (d.map u) 40) = W2 at hB2 hd2 hv2 ⊢
  generalize w1.heap.size = g2 at hd2 ⊢
  cases hok : okState zs with
  | false =>
    have hsh : shaOf zs s = zs := by unfold shaOf; rw [if_neg (by simp [hok])]
    go_wp2_with (fail)
    refine (hcl W2 hv2).mono ?_
    rintro e w3 ⟨v', rfl, hown, _, hb3⟩
    rw [List.take_length] at hown
    go_wp2_with (fail)
    go_ret
    refine ⟨_, rfl, ?_, hB2.trans (hb3.mono hB2.size)⟩
    rw [hsh]
    exact IRow.mono (B := W2.heap.size) ⟨hown, fun g hg => (hown.lt g hg).2⟩ hB2.size (Nat.le_refl _)
  | true =>
    by_cases h64 : s.size = 64
    · have hsh : shaOf zs s = words (blockOf (toWords zs) s) := by unfold shaOf; rw [if_pos ⟨hok, h64⟩]
      have h64' : (s.size : Int) = 64 := by omega
      obtain rfl := hdw hok
      have hld := load_open hd2 hd
      have c27 := impl_block (toWords zs) hd s h64 W2 (hk.below hB2)
      have c28 := fun W => impl_numbers (blockOf (toWords zs) s) (blockOf_size _ _ hd) W
      go_wp2_with (fail)
      simp only [Tryd.isAgg40, Tryd.sizeOf40, Result.andThen, ↓reduceIte, hld]
      rw [Oper.upon_value]
      go_wp2_with (fail)
      refine c27.mono ?_
      rintro e w3 ⟨rfl, hb3⟩
      go_wp2_with (fail)
      refine (c28 w3).mono ?_
      rintro e w4 ⟨v', rfl, hr, hb4⟩
      have hB3 := hB2.trans (hb3.mono hB2.size)
      have hB4 := hB3.trans (hb4.mono hB3.size)
      go_wp2_with (fail)
      go_ret
      refine ⟨_, rfl, ?_, hB4⟩
      rw [hsh]
      exact hr.mono hB3.size (Nat.le_refl _)
    · have hsh : shaOf zs s = zs := by unfold shaOf; rw [if_neg (by simp [h64])]
      have h64' : ¬ ((s.size : Int) = 64) := by omega
      go_wp2_with (fail)
      refine (hcl W2 hv2).mono ?_
      rintro e w3 ⟨v', rfl, hown, _, hb3⟩
      rw [List.take_length] at hown
      go_wp2_with (fail)
      go_ret
      refine ⟨_, rfl, ?_, hB2.trans (hb3.mono hB2.size)⟩
      rw [hsh]
      exact IRow.mono (B := W2.heap.size) ⟨hown, fun g hg => (hown.lt g hg).2⟩ hB2.size (Nat.le_refl _)
end Go.Proofs.YtnjcmknjfonjpaaDoor
