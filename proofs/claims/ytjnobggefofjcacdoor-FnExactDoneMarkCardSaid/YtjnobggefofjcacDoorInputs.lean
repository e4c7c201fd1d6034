import Derived.Test.YtjnobggefofjcacDoorBlk
import Derived.StillTailTactics
import Derived.Deep.RegionHeld3
import Derived.BigRegion
namespace Go.Proofs.YtjnobggefofjcacDoor
open Go.RowKit

/-- A byte as a word. -/
def byteW (c : UInt8) : BitVec 32 := BitVec.ofNat 32 c.toNat

theorem byteW_nat (c : UInt8) : ((byteW c).toNat : Int) = (c.toNat : Int) := by
  have := c.toNat_lt
  simp [byteW, BitVec.toNat_ofNat]

theorem byteW_wrap (c : UInt8) : IntKind.u32.wrap (c.toNat : Int) = ((byteW c).toNat : Int) := by
  have := c.toNat_lt
  rw [byteW_nat, IntKind.wrap_u32']; omega

/-- Word number k of a block's text. -/
def wordAt (s : ByteArray) (k : Nat) : BitVec 32 :=
  byteW (s.data[4 * k]!) <<< 24 ||| byteW (s.data[4 * k + 1]!) <<< 16 ||| byteW (s.data[4 * k + 2]!) <<< 8 ||| byteW (s.data[4 * k + 3]!)

/-- The first k words of the block, the rest zero. -/
def fill : (s : ByteArray) → (k : Nat) → Array (BitVec 32)
  | _, 0 => Array.replicate 64 0
  | s, k + 1 => (fill s k).setIfInBounds k (wordAt s k)

theorem fill_size (s : ByteArray) (k : Nat) : (fill s k).size = 64 := by
  induction k with
  | zero => simp [fill]
  | succ k ih => simp [fill, ih]

/-- Word number n, out of the words before it. -/
def nextWord (d : Array (BitVec 32)) (n : Nat) : BitVec 32 :=
  d[n - 16]! + d[n - 7]! + (rotr d[n - 15]! 7 ^^^ rotr d[n - 15]! 18 ^^^ d[n - 15]! >>> 3) + (rotr d[n - 2]! 17 ^^^ rotr d[n - 2]! 19 ^^^ d[n - 2]! >>> 10)

/-- .. and k words more. -/
def spread : (s : ByteArray) → (k : Nat) → Array (BitVec 32)
  | s, 0 => fill s 16
  | s, k + 1 => (spread s k).setIfInBounds (16 + k) (nextWord (spread s k) (16 + k))

theorem spread_size (s : ByteArray) (k : Nat) : (spread s k).size = 64 := by
  induction k with
  | zero => simp [spread, fill_size]
  | succ k ih => simp [spread, ih]

theorem fill_succ (s : ByteArray) (k : Nat) : fill s (k + 1) = (fill s k).setIfInBounds k (wordAt s k) := by rw [fill]
theorem fill_zero (s : ByteArray) : fill s 0 = Array.replicate 64 0 := by rw [fill]
theorem spread_succ (s : ByteArray) (k : Nat) : spread s (k + 1) = (spread s k).setIfInBounds (16 + k) (nextWord (spread s k) (16 + k)) := by rw [spread]
theorem spread_zero (s : ByteArray) : spread s 0 = fill s 16 := by rw [spread]
attribute [irreducible] fill spread

theorem zeros64 : (Array.replicate 64 (0 : BitVec 32)).map u = #[.int .u32 0, .int .u32 0, .int .u32 0, .int .u32 0, .int .u32 0, .int .u32 0, .int .u32 0, .int .u32 0, .int .u32 0, .int .u32 0, .int .u32 0, .int .u32 0, .int .u32 0, .int .u32 0, .int .u32 0, .int .u32 0, .int .u32 0, .int .u32 0, .int .u32 0, .int .u32 0, .int .u32 0, .int .u32 0, .int .u32 0, .int .u32 0, .int .u32 0, .int .u32 0, .int .u32 0, .int .u32 0, .int .u32 0, .int .u32 0, .int .u32 0, .int .u32 0, .int .u32 0, .int .u32 0, .int .u32 0, .int .u32 0, .int .u32 0, .int .u32 0, .int .u32 0, .int .u32 0, .int .u32 0, .int .u32 0, .int .u32 0, .int .u32 0, .int .u32 0, .int .u32 0, .int .u32 0, .int .u32 0, .int .u32 0, .int .u32 0, .int .u32 0, .int .u32 0, .int .u32 0, .int .u32 0, .int .u32 0, .int .u32 0, .int .u32 0, .int .u32 0, .int .u32 0, .int .u32 0, .int .u32 0, .int .u32 0, .int .u32 0, .int .u32 0] := by
  rw [Array.map_replicate]
  rfl

theorem getElem_bang (s : ByteArray) (i : Nat) (h : i < s.size) : s[i] = s.data[i]! := by
  rw [getElem!_pos s.data i h]; rfl

theorem word_expr (v0 v1 v2 v3 : BitVec 32) :
    bits .or .u32 (bits .or .u32 (bits .or .u32 ((v0.toNat : Int) * 16777216 % 4294967296) ((v1.toNat : Int) * 65536 % 4294967296)) ((v2.toNat : Int) * 256 % 4294967296)) (v3.toNat : Int)
      = ((v0 <<< 24 ||| v1 <<< 16 ||| v2 <<< 8 ||| v3).toNat : Int) := by
  have z0 := u_shlm v0 24
  have z1 := u_shlm v1 16
  have z2 := u_shlm v2 8
  simp only [Int.reducePow] at z0 z1 z2
  rw [z0, z1, z2, u_or, u_or, u_or]

theorem index_at (s : ByteArray) (n : Nat) (h : n < s.size) (e : Int) (he : e = n) (w : World) :
    (Instr.index 9 (.string s) (.int .i64 e)).run Tryd.prog w = .ok (.int .u8 ((s.data[n]!).toNat : Int)) w := by
  subst he
  rw [run_index_string w 9 _ _ _ Tryd.underlying9]
  rw [← getElem_bang s n h]
  simp [h]

attribute [-simp] Tryd.isAgg42 Tryd.sizeOf42

set_option maxHeartbeats 1000000 in
set_option maxRecDepth 100000 in
theorem impl_inputs (s : ByteArray) (w : World) (hs : s.size = 64) :
    Calls Tryd.prog 56 #[.string s] w fun x w' => x = .returned (.agg ((spread s 48).map u)) ∧ Below w.heap.size w w' := by
  go_enter Tryd.func56, Tryd.ntmps56
  go_wp2_with (fail)
  go_loopw [9] (fun i wr => ∃ k : Nat, k ≤ 16 ∧ i = .int .i64 k ∧ Blk wr w.heap.size 42 (Array.replicate 64 0) ∧ Blk wr (w.heap.size + 1) 42 (fill s k) ∧ Below w.heap.size w wr) (fun i _ => 16 - (intOf i).toNat)
  case atStart =>
    refine ⟨0, by omega, rfl, ?_, ?_, ((Below.refl _ _).alloc (Nat.le_refl _) _).alloc (by simp) _⟩
    · have h := (Blk.new w 42 (Array.replicate 64 0)).alloc (.cells ((Array.replicate 64 (0 : BitVec 32)).map u) 42)
      rw [zeros64] at h
      exact h
    · have h := Blk.new (w.alloc (.cells ((Array.replicate 64 (0 : BitVec 32)).map u) 42)) 42 (Array.replicate 64 0)
      rw [zeros64] at h
      first | (rw [fill_zero]; exact h) | (rw [fill_zero]; simpa using h)
  case round =>
    obtain ⟨k, hk, rfl, hb1, hb2, hnx⟩ := hrel
    by_cases hlt : k < 16
    · go_wp2_with (fail)
      have x0 := index_at s (4 * k) (by omega) ((k : Int) * 4) (by omega)
      have x1 := index_at s (4 * k + 1) (by omega) ((k : Int) * 4 + 1) (by omega)
      have x2 := index_at s (4 * k + 2) (by omega) ((k : Int) * 4 + 2) (by omega)
      have x3 := index_at s (4 * k + 3) (by omega) ((k : Int) * 4 + 3) (by omega)
      have y0 := byteW_wrap (s.data[4 * k]!)
      have y1 := byteW_wrap (s.data[4 * k + 1]!)
      have y2 := byteW_wrap (s.data[4 * k + 2]!)
      have y3 := byteW_wrap (s.data[4 * k + 3]!)
      have hx := word_expr (byteW (s.data[4 * k]!)) (byteW (s.data[4 * k + 1]!)) (byteW (s.data[4 * k + 2]!)) (byteW (s.data[4 * k + 3]!))
      change _ = ((wordAt s k).toNat : Int) at hx
      obtain ⟨wd, hwd⟩ : ∃ x, x = wordAt s k := ⟨_, rfl⟩
      rw [← hwd] at hx
      generalize s.data[4 * k]! = b0 at x0 y0 hx
      generalize s.data[4 * k + 1]! = b1 at x1 y1 hx
      generalize s.data[4 * k + 2]! = b2 at x2 y2 hx
      generalize s.data[4 * k + 3]! = b3 at x3 y3 hx
      generalize byteW b0 = v0 at y0 hx
      generalize byteW b1 = v1 at y1 hx
      generalize byteW b2 = v2 at y2 hx
      generalize byteW b3 = v3 at y3 hx
      have m1 : IntKind.i64.wrap ((k : Int) * 4 + 1) = (k : Int) * 4 + 1 := by simp [IntKind.wrap, IntKind.bits, IntKind.signed]; omega
      have m2 : IntKind.i64.wrap ((k : Int) * 4 + 2) = (k : Int) * 4 + 2 := by simp [IntKind.wrap, IntKind.bits, IntKind.signed]; omega
      have m3 : IntKind.i64.wrap ((k : Int) * 4 + 3) = (k : Int) * 4 + 3 := by simp [IntKind.wrap, IntKind.bits, IntKind.signed]; omega
      have hc := hb2.cell k (by rw [fill_size]; omega)
      have hf := hb2.frozen k
      have hn : ((k : Int)).toNat = k := by omega
      have h0 : (0 : Int) ≤ (k : Int) := by omega
      have h64 : (k : Int) < 64 := by omega
      go_region
      go_wp2_with (fail)
      go_roundw
      case rel =>
        refine ⟨k + 1, by omega, by go_num, hb1.other _ _ (by simp), ?_, (hnx.setCell (by simp) _).drew⟩
        rw [fill_succ, ← hwd]
        first | exact hb2.set k wd | (rw [hx]; exact hb2.set k wd)
      case measure => simp [intOf]; omega
    · obtain rfl : k = 16 := by omega
      go_wp2_with (fail)
      have hb2' : Blk wr (w.heap.size + 1) 42 (spread s 0) := by rw [spread_zero]; exact hb2
      clear hb2
      rw [show ((16 : Nat) : Int) = (16 : Int) from rfl]
      go_loopw [6] (fun i wr => ∃ n : Nat, 16 ≤ n ∧ n ≤ 64 ∧ i = .int .i64 (n : Int) ∧ Blk wr w.heap.size 42 (Array.replicate 64 0) ∧ Blk wr (w.heap.size + 1) 42 (spread s (n - 16)) ∧ Below w.heap.size w wr) (fun i _ => 64 - (intOf i).toNat)
      case atStart => exact ⟨16, by omega, by omega, rfl, hb1, hb2', hnx⟩
      case round =>
        clear hb1 hb2' hnx
        obtain ⟨n, hn1, hn2', rfl, hb1, hb2, hnx⟩ := hrel
        by_cases hlt : n < 64
        · have c1 := hb2.cell (n - 15) (by rw [spread_size]; omega)
          have c2 := hb2.cell (n - 2) (by rw [spread_size]; omega)
          have c3 := hb2.cell (n - 16) (by rw [spread_size]; omega)
          have c4 := hb2.cell (n - 7) (by rw [spread_size]; omega)
          have c5 := hb2.cell n (by rw [spread_size]; omega)
          have hf := hb2.frozen n
          have hx : nextWord (spread s (n - 16)) n = nextWord (spread s (n - 16)) n := rfl
          conv at hx => rhs; unfold nextWord
          obtain ⟨x15, h15⟩ : ∃ x, (spread s (n - 16))[n - 15]! = x := ⟨_, rfl⟩
          obtain ⟨x2, h2⟩ : ∃ x, (spread s (n - 16))[n - 2]! = x := ⟨_, rfl⟩
          obtain ⟨x16, h16⟩ : ∃ x, (spread s (n - 16))[n - 16]! = x := ⟨_, rfl⟩
          obtain ⟨x7, h7⟩ : ∃ x, (spread s (n - 16))[n - 7]! = x := ⟨_, rfl⟩
          rw [h15] at c1; rw [h2] at c2; rw [h16] at c3; rw [h7] at c4
          rw [h15, h2, h16, h7] at hx
          clear h15 h2 h16 h7
          obtain ⟨y, hy⟩ : ∃ y, y = (spread s (n - 16))[n]! := ⟨_, rfl⟩
          rw [← hy] at c5
          have m1 : IntKind.i64.wrap ((n : Int) - 15) = (n : Int) - 15 := by simp [IntKind.wrap, IntKind.bits, IntKind.signed]; omega
          have m2 : IntKind.i64.wrap ((n : Int) - 2) = (n : Int) - 2 := by simp [IntKind.wrap, IntKind.bits, IntKind.signed]; omega
          have m3 : IntKind.i64.wrap ((n : Int) - 16) = (n : Int) - 16 := by simp [IntKind.wrap, IntKind.bits, IntKind.signed]; omega
          have m4 : IntKind.i64.wrap ((n : Int) - 7) = (n : Int) - 7 := by simp [IntKind.wrap, IntKind.bits, IntKind.signed]; omega
          have n1 : ((n : Int) - 15).toNat = n - 15 := by omega
          have n2 : ((n : Int) - 2).toNat = n - 2 := by omega
          have n3 : ((n : Int) - 16).toNat = n - 16 := by omega
          have n4 : ((n : Int) - 7).toNat = n - 7 := by omega
          have q1 : (0 : Int) ≤ (n : Int) - 15 ∧ (n : Int) - 15 < 64 := by omega
          have q2 : (0 : Int) ≤ (n : Int) - 2 ∧ (n : Int) - 2 < 64 := by omega
          have q3 : (0 : Int) ≤ (n : Int) - 16 ∧ (n : Int) - 16 < 64 := by omega
          have q4 : (0 : Int) ≤ (n : Int) - 7 ∧ (n : Int) - 7 < 64 := by omega
          have q6 : (16 : Int) ≤ (n : Int) ∧ (7 : Int) ≤ (n : Int) ∧ (15 : Int) ≤ (n : Int) ∧ (2 : Int) ≤ (n : Int) := by omega
          have q5 : (0 : Int) ≤ (n : Int) ∧ (n : Int) < 64 := by omega
          have l1 : ∀ W, Calls Tryd.prog 58 #[u x15, .int .i64 (-7)] W fun e w' => e = .returned (u (rotr x15 7)) ∧ W = w' := bits_left x15 7 (by decide) (by decide)
          have l2 : ∀ W, Calls Tryd.prog 58 #[u x15, .int .i64 (-18)] W fun e w' => e = .returned (u (rotr x15 18)) ∧ W = w' := bits_left x15 18 (by decide) (by decide)
          have l3 : ∀ W, Calls Tryd.prog 58 #[u x2, .int .i64 (-17)] W fun e w' => e = .returned (u (rotr x2 17)) ∧ W = w' := bits_left x2 17 (by decide) (by decide)
          have l4 : ∀ W, Calls Tryd.prog 58 #[u x2, .int .i64 (-19)] W fun e w' => e = .returned (u (rotr x2 19)) ∧ W = w' := bits_left x2 19 (by decide) (by decide)
          have s1 := u_shr x15 3
          have s2 := u_shr x2 10
          simp only [Int.reducePow] at s1 s2
          generalize x15 >>> 3 = h1 at s1 hx
          generalize x2 >>> 10 = h2 at s2 hx
          generalize rotr x15 7 = r1 at l1 hx
          generalize rotr x15 18 = r2 at l2 hx
          generalize rotr x2 17 = r3 at l3 hx
          generalize rotr x2 19 = r4 at l4 hx
          have o1 := u_xor r1 r2
          generalize r1 ^^^ r2 = r5 at o1 hx
          have o2 := u_xor r5 h1
          generalize r5 ^^^ h1 = r6 at o2 hx
          have o3 := u_xor r3 r4
          generalize r3 ^^^ r4 = r7 at o3 hx
          have o4 := u_xor r7 h2
          generalize r7 ^^^ h2 = r8 at o4 hx
          have a1 := u_addm x16 x7
          generalize x16 + x7 = t1 at a1 hx
          have a2 := u_addm t1 r6
          generalize t1 + r6 = t2 at a2 hx
          have a3 := u_addm t2 r8
          generalize t2 + r8 = t3 at a3 hx
          go_wp2_with (fail)
          go_quiet (fail)
          go_wp2_with (fail)
          refine wp_region_still_tail 29 (by kernel_rfl) (by kernel_rfl) ?_
          change wpStill _ _ (wr.drewN nq).drew _ _ _
          generalize hW : (wr.drewN nq).drew = W
          have c3' : W.cell? ⟨w.heap.size + 1, n - 16, none⟩ = some (u x16) := by rw [← hW]; exact c3
          have c4' : W.cell? ⟨w.heap.size + 1, n - 7, none⟩ = some (u x7) := by rw [← hW]; exact c4
          have c5' : W.cell? ⟨w.heap.size + 1, n, none⟩ = some (u y) := by rw [← hW]; exact c5
          have hf' : W.frozen? ⟨w.heap.size + 1, n, none⟩ = false := by rw [← hW]; exact hf
          have hb1' : Blk W w.heap.size 42 (Array.replicate 64 0) := by rw [← hW]; exact hb1
          have hb2' : Blk W (w.heap.size + 1) 42 (spread s (n - 16)) := by rw [← hW]; exact hb2
          have hnx' : Below w.heap.size w W := by rw [← hW]; exact (below_drewN hnx _).drew
          clear c3 c4 c5 hf hb1 hb2 hnx
          simp only [List.take_succ_cons, List.take_zero, List.drop_succ_cons, List.drop_zero]
          iterate 11 still_step
          still_call ((l1 _).mono fun _ _ h => ⟨h.1, h.2.symm⟩)
          still_step
          still_call ((l2 _).mono fun _ _ h => ⟨h.1, h.2.symm⟩)
          iterate 6 still_step
          still_call ((l3 _).mono fun _ _ h => ⟨h.1, h.2.symm⟩)
          still_step
          still_call ((l4 _).mono fun _ _ h => ⟨h.1, h.2.symm⟩)
          iterate 6 still_step
          refine wpStill_nil ?_
          change wpList _ _ _ _ _ (wr.drewN nq).drew
          rw [hW]
          clear hW
          go_wp2_with (fail)
          go_roundw
          case rel =>
            refine ⟨n + 1, by omega, by omega, by go_num, hb1'.other _ _ (by simp), ?_, hnx'.setCell (by simp) _⟩
            have e : n + 1 - 16 = (n - 16) + 1 := by omega
            have e2 : 16 + (n - 16) = n := by omega
            rw [e, spread_succ, e2, hx]
            exact hb2'.set n t3
          case measure => simp [intOf]; omega
        · obtain rfl : n = 64 := by omega
          rw [show ((64 : Nat) : Int) = (64 : Int) from rfl]
          have hi38 : (Tryd.prog.info? 42).map (·.size) = some 64 := by kernel_rfl
          rw [show 64 - 16 = 48 from rfl] at hb2
          have hld := hb2.loadFrom (P := Tryd.prog) 64 (spread_size _ _)
          have hst := hb1.storeFrom (P := Tryd.prog) 42 (spread s 48) (by rw [spread_size]; simp) (by simpa using hi38)
          have hrd := (hb1.setRow (spread s 48)).loadFrom (P := Tryd.prog) 64 (spread_size _ _)
          have hnx2 := below_setRow hnx w.heap.size (Nat.le_refl _) ((spread s 48).map u)
          have hcs : ((spread s 48).map u).size = 64 := by rw [Array.size_map, spread_size]
          have hrow : (wr.setRow w.heap.size ((spread s 48).map u)).heap[w.heap.size]? = some (.cells ((spread s 48).map u) 42 (0, 0)) := hb1.setRow _
          generalize hcs0 : (spread s 48).map u = cs at hrow hld hst hrd hnx2 hcs ⊢
          go_wp2_with (fail)
          simp only [Tryd.isAgg42, Tryd.sizeOf42, Result.andThen, ↓reduceIte, hld]
          rw [Oper.upon_value]
          go_wp2_with (fail)
          simp only [Tryd.sizeOf42, Result.andThen, ↓reduceIte, hst]
          rw [Oper.upon_skip]
          go_wp2_with (fail)
          refine bodyPost_ret (v := .agg cs) ?_ rfl ⟨by rw [hcs0], hnx2⟩
          exact results_cell_row rfl _ _ w.heap.size 42 cs (0, 0) _ rfl hrow Tryd.underlying42 rfl (by rw [hcs]; exact hi38)
end Go.Proofs.YtjnobggefofjcacDoor
