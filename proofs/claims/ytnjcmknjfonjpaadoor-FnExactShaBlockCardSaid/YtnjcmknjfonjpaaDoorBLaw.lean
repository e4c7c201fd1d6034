import Derived.Test.YtnjcmknjfonjpaaDoorSBlock
namespace Go.Proofs.YtnjcmknjfonjpaaDoor
open Go.RowKit

set_option maxHeartbeats 2000000 in
set_option maxRecDepth 100000 in
theorem block_law (v : Value) (zs : List Int) (s : ByteArray) (w : World) (hv : Rd w v zs) (hk : Keys w) :
    Calls Tryd.prog 3 #[v, .string s] w fun e w' => e = .returned (.bool true) ∧ Below w.heap.size w w' := by
  have hform : ∃ a c, v = .slice a zs.length c := by
    obtain ⟨a, c, h, _⟩ := hv
    exact ⟨a, c, h⟩
  by_cases hn : zs.length ≤ 1048576
  · by_cases hs : s.size ≤ 1048576
    · obtain ⟨a, c, rfl⟩ := hform
      have q1 : ¬ (1048576 < (zs.length : Int)) := by omega
      have q2 : ¬ (1048576 < (s.size : Int)) := by omega
      have hR := shaOf_length zs s
      go_enter Tryd.func3, Tryd.ntmps3
      go_wp2_with (fail)
      with_reducible refine (to_ints_blk _ zs w hv hn).mono ?_
      rintro e w1 ⟨rfl, i1, b1⟩
      go_wp2_with (fail)
      with_reducible refine (spec_shaBlock w.heap.size zs s w1 i1 hn).mono ?_
      rintro e w2 ⟨v0, rfl, r0, b2⟩
      have B2 : Below w.heap.size w w2 := b1.trans (b2.mono b1.size)
      clear i1
      go_wp2_with (fail)
      with_reducible refine (to_ints_blk _ zs w2 (hv.below B2) hn).mono ?_
      rintro e w3 ⟨rfl, x3, b3⟩
      have B3 : Below w.heap.size w w3 := B2.trans (b3.mono B2.size)
      have r0 := r0.keep b3 (Nat.le_refl _)
      go_wp2_with (fail)
      with_reducible refine (impl_shaBlock w2.heap.size zs s w3 x3 hn (hk.below B3)).mono ?_
      rintro e w4 ⟨v1, rfl, r1, b4⟩
      have B4 : Below w.heap.size w w4 := B3.trans (b4.mono B3.size)
      have r0 := r0.keep b4 b3.size
      have s23 := x3.lt
      have x4 := x3.below b4 x3.lt
      clear x3
      go_wp2_with (fail)
      with_reducible refine (eq_ints v1 v0 _ w4 r1.rd r0.rd (by omega)).mono ?_
      rintro e w5 ⟨rfl, m, rfl⟩
      have B5 : Below w.heap.size w (w4.drewN m) := below_drewN B4 m
      have r0 : IRow (w4.drewN m) w1.heap.size w2.heap.size v0 (shaOf zs s) := r0
      have r1 : IRow (w4.drewN m) w3.heap.size w4.heap.size v1 (shaOf zs s) := r1
      have x5 : IBlk (w4.drewN m) w2.heap.size zs.toArray := x4
      have s4 : w4.heap.size ≤ (w4.drewN m).heap.size := Nat.le_refl _
      have s34 : w3.heap.size ≤ w4.heap.size := b4.size
      have s12 : w1.heap.size ≤ w2.heap.size := b2.size
      clear x4 b4 B4
      generalize w4.drewN m = w5 at r0 r1 x5 B5 s4
      go_wp2_with (fail)
      with_reducible refine (to_ints_blk _ zs w5 (hv.below B5) hn).mono ?_
      rintro e w6 ⟨rfl, t6, b6⟩
      have B6 : Below w.heap.size w w6 := B5.trans (b6.mono B5.size)
      have r0 := r0.keep b6 (by omega)
      have r1 := r1.keep b6 (by omega)
      have x6 := x5.below b6 x5.lt
      have xr := x6.irow (B := w2.heap.size) (C := w3.heap.size) hn (Nat.le_refl _) s23
      have s56 : w5.heap.size ≤ w6.heap.size := b6.size
      clear x5 x6 b6 B5
      go_wp2_with (fail)
      have ce := eq_ints _ _ zs w6 xr.rd (t6.irow hn (Nat.zero_le _) t6.lt).rd hn
      with_reducible refine ce.mono ?_
      rintro e w7 ⟨rfl, m2, rfl⟩
      have B7 : Below w.heap.size w (w6.drewN m2) := below_drewN B6 m2
      have r0 : IRow (w6.drewN m2) w1.heap.size w2.heap.size v0 (shaOf zs s) := r0
      have r1 : IRow (w6.drewN m2) w3.heap.size w4.heap.size v1 (shaOf zs s) := r1
      have xr : IRow (w6.drewN m2) w2.heap.size w3.heap.size (.slice (some ⟨w2.heap.size, 0, none⟩) zs.length zs.length) zs := xr
      have s67 : w6.heap.size ≤ (w6.drewN m2).heap.size := Nat.le_refl _
      clear t6 B6
      generalize w6.drewN m2 = w7 at r0 r1 xr B7 s67
      have cm := mark_ints_only _ zs w7 _ _ 1 xr hn (by omega)
      rw [show ((1 : Nat) : Int) = 1 from rfl] at cm
      go_wp2_with (fail)
      with_reducible refine cm.mono ?_
      rintro e w8 ⟨rfl, _, b8, o8⟩
      have B8 : Below w.heap.size w w8 := B7.trans (b8.mono (by have := B2.size; omega))
      have r0 := r0.keepAt (W' := w8) (fun g hg => o8 g (by have := r0.block g hg; simp [Value.ownBlock]; omega))
      have r1 := r1.keepAt (W' := w8) (fun g hg => o8 g (by have := r1.block g hg; simp [Value.ownBlock]; omega))
      have s78 : w7.heap.size ≤ w8.heap.size := b8.size
      clear cm xr b8 o8 B7
      have q3 : ¬ (((1 + zs.length : Nat) : Int) < 0) := by omega
      have q4 : ¬ ((1 : Int) + (zs.length : Int) < 0) := by omega
      go_wp2_with (fail)
      with_reducible refine (eq_ints v1 v0 _ w8 r1.rd r0.rd (by omega)).mono ?_
      rintro e w9 ⟨rfl, m3, rfl⟩
      have B9 : Below w.heap.size w (w8.drewN m3) := below_drewN B8 m3
      have r0 : IRow (w8.drewN m3) w1.heap.size w2.heap.size v0 (shaOf zs s) := r0
      have r1 : IRow (w8.drewN m3) w3.heap.size w4.heap.size v1 (shaOf zs s) := r1
      have s89 : w8.heap.size ≤ (w8.drewN m3).heap.size := Nat.le_refl _
      clear B8
      generalize w8.drewN m3 = w9 at r0 r1 B9 s89
      have cm := mark_ints_only v1 (shaOf zs s) w9 _ _ 1 r1 (by omega) (by omega)
      rw [show ((1 : Nat) : Int) = 1 from rfl, hR] at cm
      go_wp2_with (fail)
      with_reducible refine cm.mono ?_
      rintro e w10 ⟨rfl, r1m, b10, o10⟩
      have B10 : Below w.heap.size w w10 := B9.trans (b10.mono (by have := B3.size; omega))
      have r0 := r0.keep b10 (by omega)
      have s910 : w9.heap.size ≤ w10.heap.size := b10.size
      have ch := fun W h => held_ints v1 1 zs.length W h hn (by omega)
      rw [show ((1 : Nat) : Int) = 1 from rfl] at ch
      clear cm r1 b10 o10 B9
      go_wp2_with (fail)
      with_reducible refine (ch w10 r1m.rd).mono ?_
      rintro e w' ⟨rfl, rfl⟩
      go_wp2_with (fail)
      with_reducible refine (to_ints_blk _ zs w10 (hv.below B10) hn).mono ?_
      rintro e w11 ⟨rfl, t11, b11⟩
      have B11 : Below w.heap.size w w11 := B10.trans (b11.mono B10.size)
      have r0 := r0.keep b11 (by omega)
      have r1m := r1m.keep b11 (by omega)
      have s1011 : w10.heap.size ≤ w11.heap.size := b11.size
      clear b11 B10
      go_wp2_with (fail)
      with_reducible refine (impl_shaBlock w10.heap.size zs s w11 t11 hn (hk.below B11)).mono ?_
      rintro e w12 ⟨v5, rfl, r5, b12⟩
      have B12 : Below w.heap.size w w12 := B11.trans (b12.mono B11.size)
      have r0 := r0.keep b12 (by omega)
      have r1m := r1m.keep b12 (by omega)
      clear b12 B11 t11
      go_wp2_with (fail)
      with_reducible refine (eq_ints v5 v0 _ w12 r5.rd r0.rd (by omega)).mono ?_
      rintro e w13 ⟨rfl, m4, rfl⟩
      have B13 : Below w.heap.size w (w12.drewN m4) := below_drewN B12 m4
      have r1m : IRow (w12.drewN m4) w3.heap.size w4.heap.size v1 (marks 1 zs.length) := r1m
      clear r5 r0 B12
      generalize w12.drewN m4 = w13 at r1m B13
      go_wp2_with (fail)
      with_reducible refine (ch w13 r1m.rd).mono ?_
      rintro e w' ⟨rfl, rfl⟩
      go_wp2_with (fail)
      go_ret
      exact ⟨rfl, B13⟩
    · obtain ⟨a, c, rfl⟩ := hform
      have q1 : ¬ (1048576 < (zs.length : Int)) := by omega
      have q2 : 1048576 < (s.size : Int) := by omega
      go_enter Tryd.func3, Tryd.ntmps3
      go_wp2_with (fail)
      go_ret
      exact ⟨rfl, Below.refl _ _⟩
  · obtain ⟨a, c, rfl⟩ := hform
    have q1 : 1048576 < (zs.length : Int) := by omega
    go_enter Tryd.func3, Tryd.ntmps3
    go_wp2_with (fail)
    go_ret
    exact ⟨rfl, Below.refl _ _⟩
end Go.Proofs.YtnjcmknjfonjpaaDoor
