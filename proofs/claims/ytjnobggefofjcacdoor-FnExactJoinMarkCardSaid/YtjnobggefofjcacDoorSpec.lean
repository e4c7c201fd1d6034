import Derived.Test.YtjnobggefofjcacDoorMath
namespace Go.Proofs.YtjnobggefofjcacDoor
open Go.RowKit

/-- Arrays of zero. -/
def z64 : Array (BitVec 32) := Array.replicate 64 0
def z8 : Array (BitVec 32) := Array.replicate 8 0
theorem z64_size : z64.size = 64 := by simp [z64]
theorem z8_size : z8.size = 8 := by simp [z8]

theorem zero38 (w : World) : (zeroValue 42).run Tryd.prog w = .ok (.agg (z64.map u)) w := by
  rw [Tryd.zeroValue42, z64, zeros64]
theorem zero35 (w : World) : (zeroValue 40).run Tryd.prog w = .ok (.agg (z8.map u)) w := by
  rw [Tryd.zeroValue40, z8, zeros8]
theorem fill_z (s : ByteArray) : fill s 0 = z64 := by rw [fill_zero, z64]

attribute [irreducible] z64 z8
attribute [-simp] Tryd.isAgg42 Tryd.sizeOf42 Tryd.isAgg40 Tryd.sizeOf40 Tryd.zeroValue42 Tryd.zeroValue40
attribute [simp] zero38 zero35

theorem set_chain (d : Array (BitVec 32)) (h : d.size = 8) (x0 x1 x2 x3 x4 x5 x6 x7 : BitVec 32) :
    (((((((d.setIfInBounds 7 x7).setIfInBounds 6 x6).setIfInBounds 5 x5).setIfInBounds 4 x4).setIfInBounds 3 x3).setIfInBounds 2 x2).setIfInBounds 1 x1).setIfInBounds 0 x0 = #[x0, x1, x2, x3, x4, x5, x6, x7] := by
  have hd := eight d h
  generalize d[0]! = b0 at hd
  generalize d[1]! = b1 at hd
  generalize d[2]! = b2 at hd
  generalize d[3]! = b3 at hd
  generalize d[4]! = b4 at hd
  generalize d[5]! = b5 at hd
  generalize d[6]! = b6 at hd
  generalize d[7]! = b7 at hd
  subst hd
  simp

theorem roundOf_def (d : Array (BitVec 32)) (i : BitVec 32) : roundOf d i =
    #[low d[4]! d[5]! d[6]! d[7]! i + high d[0]! d[1]! d[2]!, d[0]!, d[1]!, d[2]!, d[3]! + low d[4]! d[5]! d[6]! d[7]! i, d[4]!, d[5]!, d[6]!] := by
  unfold roundOf
  rfl

theorem size35 : (Tryd.prog.info? 40).map (·.size) = some 8 := by kernel_rfl

set_option maxHeartbeats 2000000 in
set_option maxRecDepth 100000 in
theorem spec_block (h : Array (BitVec 32)) (hh : h.size = 8) (s : ByteArray) (hs : s.size = 64) (w : World) :
    Calls Tryd.prog 34 #[.agg (h.map u), .string s, .agg (keys.map u)] w fun x w' => x = .returned (.agg ((blockOf h s).map u)) ∧ Below w.heap.size w w' := by
  go_enter Tryd.func34, Tryd.ntmps34
  go_wp2_with (fail)
  have hst := store_new (((w.alloc (.cells (h.map u) 40)).alloc (.cells (keys.map u) 42)).alloc (.cells (z8.map u) 40)) 42 42 z64 z64 rfl rfl (by rw [z64_size]; exact size38)
  rw [show (((w.alloc (.cells (h.map u) 40)).alloc (.cells (keys.map u) 42)).alloc (.cells (z8.map u) 40)).heap.size = w.heap.size + 1 + 1 + 1 from by simp] at hst
  simp only [Tryd.sizeOf42, Result.andThen, ↓reduceIte, z64_size, hst]
  rw [Oper.upon_skip]
  clear hst
  have hB : Below w.heap.size w ((((w.alloc (.cells (h.map u) 40)).alloc (.cells (keys.map u) 42)).alloc (.cells (z8.map u) 40)).alloc (.cells (z64.map u) 42)) :=
    ((((Below.refl _ _).alloc (Nat.le_refl _) _).alloc (by simp) _).alloc (by simp; omega) _).alloc (by simp; omega) _
  have hh1 := (((Blk.new w 40 h).alloc (.cells (keys.map u) 42)).alloc (.cells (z8.map u) 40)).alloc (.cells (z64.map u) 42)
  have hk1 := ((Blk.new (w.alloc (.cells (h.map u) 40)) 42 keys).alloc (.cells (z8.map u) 40)).alloc (.cells (z64.map u) 42)
  have hr1 := (Blk.new ((w.alloc (.cells (h.map u) 40)).alloc (.cells (keys.map u) 42)) 40 z8).alloc (.cells (z64.map u) 42)
  have hi1 := Blk.new (((w.alloc (.cells (h.map u) 40)).alloc (.cells (keys.map u) 42)).alloc (.cells (z8.map u) 40)) 42 z64
  simp only [World.size_alloc] at hk1 hr1 hi1
  generalize (((w.alloc (.cells (h.map u) 40)).alloc (.cells (keys.map u) 42)).alloc (.cells (z8.map u) 40)).alloc (.cells (z64.map u) 42) = W1 at hB hh1 hk1 hr1 hi1 ⊢
  obtain ⟨g0, hg0⟩ : ∃ g, g = w.heap.size := ⟨_, rfl⟩
  obtain ⟨g1, hg1⟩ : ∃ g, g = w.heap.size + 1 := ⟨_, rfl⟩
  obtain ⟨g2, hg2⟩ : ∃ g, g = w.heap.size + 1 + 1 := ⟨_, rfl⟩
  obtain ⟨g3, hg3⟩ : ∃ g, g = w.heap.size + 1 + 1 + 1 := ⟨_, rfl⟩
  rw [← fill_z s] at hi1
  go_wp2_with (fail)
  go_loopw [8] (fun i wr => ∃ k : Nat, k ≤ 16 ∧ i = .int .i64 k ∧ Blk wr w.heap.size 40 h ∧ Blk wr (w.heap.size + 1) 42 keys ∧ Blk wr (w.heap.size + 1 + 1) 40 z8 ∧ Blk wr (w.heap.size + 1 + 1 + 1) 42 (fill s k) ∧ Below w.heap.size w wr) (fun i _ => 16 - (intOf i).toNat)
  case atStart => exact ⟨0, by omega, rfl, hh1, hk1, hr1, hi1, hB⟩
  case round =>
    clear hB hh1 hk1 hr1 hi1
    obtain ⟨k, hk, rfl, hh1, hk1, hr1, hb2, hB⟩ := hrel
    by_cases hlt : k < 16
    · go_wp2_with (fail)
      have x0 := index_at s (4 * k) (by omega) (4 * (k : Int)) (by omega)
      have x1 := index_at s (4 * k + 1) (by omega) (4 * (k : Int) + 1) (by omega)
      have x2 := index_at s (4 * k + 2) (by omega) (4 * (k : Int) + 2) (by omega)
      have x3 := index_at s (4 * k + 3) (by omega) (4 * (k : Int) + 3) (by omega)
      have y0 := byteW_wrap (s.data[4 * k]!)
      have y1 := byteW_wrap (s.data[4 * k + 1]!)
      have y2 := byteW_wrap (s.data[4 * k + 2]!)
      have y3 := byteW_wrap (s.data[4 * k + 3]!)
      have hx := word_expr (byteW (s.data[4 * k]!)) (byteW (s.data[4 * k + 1]!)) (byteW (s.data[4 * k + 2]!)) (byteW (s.data[4 * k + 3]!))
      change _ = ((wordAt s k).toNat : Int) at hx
      obtain ⟨wd, hwd⟩ : ∃ x, x = wordAt s k := ⟨_, rfl⟩
      rw [← hwd] at hx
      generalize s.data[4 * k]! = b0 at x0 y0 hx
      generalize s.data[4 * k + 1]! = b1 at x1 y1 hx
      generalize s.data[4 * k + 2]! = b2 at x2 y2 hx
      generalize s.data[4 * k + 3]! = b3 at x3 y3 hx
      generalize byteW b0 = v0 at y0 hx
      generalize byteW b1 = v1 at y1 hx
      generalize byteW b2 = v2 at y2 hx
      generalize byteW b3 = v3 at y3 hx
      have m0 : IntKind.i64.wrap (4 * (k : Int)) = 4 * (k : Int) := by simp [IntKind.wrap, IntKind.bits, IntKind.signed]; omega
      have m1 : IntKind.i64.wrap (4 * (k : Int) + 1) = 4 * (k : Int) + 1 := by simp [IntKind.wrap, IntKind.bits, IntKind.signed]; omega
      have m2 : IntKind.i64.wrap (4 * (k : Int) + 2) = 4 * (k : Int) + 2 := by simp [IntKind.wrap, IntKind.bits, IntKind.signed]; omega
      have m3 : IntKind.i64.wrap (4 * (k : Int) + 3) = 4 * (k : Int) + 3 := by simp [IntKind.wrap, IntKind.bits, IntKind.signed]; omega
      have hc := hb2.cell k (by rw [fill_size]; omega)
      have hf := hb2.frozen k
      have hn : ((k : Int)).toNat = k := by omega
      have h0 : (0 : Int) ≤ (k : Int) := by omega
      have h64 : (k : Int) < 64 := by omega
      go_region
      go_wp2_with (fail)
      go_roundw
      case rel =>
        refine ⟨k + 1, by omega, by go_num, hh1.other _ _ (by dsimp only; omega), hk1.other _ _ (by dsimp only; omega), hr1.other _ _ (by dsimp only; omega), ?_, (hB.setCell (by dsimp only; omega) _).drew⟩
        rw [fill_succ, ← hwd]
        first | exact hb2.set k wd | (rw [hx]; exact hb2.set k wd)
      case measure => simp [intOf]; omega
    · obtain rfl : k = 16 := by omega
      rw [show ((16 : Nat) : Int) = (16 : Int) from rfl]
      rw [← spread_zero] at hb2
      go_wp2_with (fail)
      go_loopw [9] (fun i wr => ∃ n : Nat, 16 ≤ n ∧ n ≤ 64 ∧ i = .int .i64 n ∧ Blk wr w.heap.size 40 h ∧ Blk wr (w.heap.size + 1) 42 keys ∧ Blk wr (w.heap.size + 1 + 1) 40 z8 ∧ Blk wr (w.heap.size + 1 + 1 + 1) 42 (spread s (n - 16)) ∧ Below w.heap.size w wr) (fun i _ => 64 - (intOf i).toNat)
      case atStart => exact ⟨16, by omega, by omega, rfl, hh1, hk1, hr1, hb2, hB⟩
      case round =>
        clear hB hh1 hk1 hr1 hb2
        obtain ⟨n, hn1, hn2', rfl, hh1, hk1, hr1, hb2, hB⟩ := hrel
        by_cases hlt : n < 64
        · have c1 := hb2.cell (n - 15) (by rw [spread_size]; omega)
          have c2 := hb2.cell (n - 2) (by rw [spread_size]; omega)
          have c3 := hb2.cell (n - 16) (by rw [spread_size]; omega)
          have c4 := hb2.cell (n - 7) (by rw [spread_size]; omega)
          have c5 := hb2.cell n (by rw [spread_size]; omega)
          have hf := hb2.frozen n
          have hx : nextWord (spread s (n - 16)) n = nextWord (spread s (n - 16)) n := rfl
          conv at hx => rhs; unfold nextWord
          obtain ⟨x15, h15⟩ : ∃ x, (spread s (n - 16))[n - 15]! = x := ⟨_, rfl⟩
          obtain ⟨x2, h2⟩ : ∃ x, (spread s (n - 16))[n - 2]! = x := ⟨_, rfl⟩
          obtain ⟨x16, h16⟩ : ∃ x, (spread s (n - 16))[n - 16]! = x := ⟨_, rfl⟩
          obtain ⟨x7, h7⟩ : ∃ x, (spread s (n - 16))[n - 7]! = x := ⟨_, rfl⟩
          rw [h15] at c1; rw [h2] at c2; rw [h16] at c3; rw [h7] at c4
          rw [h15, h2, h16, h7] at hx
          clear h15 h2 h16 h7
          obtain ⟨y, hy⟩ : ∃ y, y = (spread s (n - 16))[n]! := ⟨_, rfl⟩
          rw [← hy] at c5
          have m1 : IntKind.i64.wrap ((n : Int) - 15) = (n : Int) - 15 := by simp [IntKind.wrap, IntKind.bits, IntKind.signed]; omega
          have m2 : IntKind.i64.wrap ((n : Int) - 2) = (n : Int) - 2 := by simp [IntKind.wrap, IntKind.bits, IntKind.signed]; omega
          have m3 : IntKind.i64.wrap ((n : Int) - 16) = (n : Int) - 16 := by simp [IntKind.wrap, IntKind.bits, IntKind.signed]; omega
          have m4 : IntKind.i64.wrap ((n : Int) - 7) = (n : Int) - 7 := by simp [IntKind.wrap, IntKind.bits, IntKind.signed]; omega
          have n1 : ((n : Int) - 15).toNat = n - 15 := by omega
          have n2 : ((n : Int) - 2).toNat = n - 2 := by omega
          have n3 : ((n : Int) - 16).toNat = n - 16 := by omega
          have n4 : ((n : Int) - 7).toNat = n - 7 := by omega
          have q1 : (0 : Int) ≤ (n : Int) - 15 ∧ (n : Int) - 15 < 64 := by omega
          have q2 : (0 : Int) ≤ (n : Int) - 2 ∧ (n : Int) - 2 < 64 := by omega
          have q3 : (0 : Int) ≤ (n : Int) - 16 ∧ (n : Int) - 16 < 64 := by omega
          have q4 : (0 : Int) ≤ (n : Int) - 7 ∧ (n : Int) - 7 < 64 := by omega
          have q6 : (16 : Int) ≤ (n : Int) ∧ (7 : Int) ≤ (n : Int) ∧ (15 : Int) ≤ (n : Int) ∧ (2 : Int) ≤ (n : Int) := by omega
          have q5 : (0 : Int) ≤ (n : Int) ∧ (n : Int) < 64 := by omega
          have l1 : ∀ W, Calls Tryd.prog 39 #[u x15, .int .u64 7] W fun e w' => e = .returned (u (rotr x15 7)) ∧ W = w' := spec_turn x15 7 (by decide) (by decide)
          have l2 : ∀ W, Calls Tryd.prog 39 #[u x15, .int .u64 18] W fun e w' => e = .returned (u (rotr x15 18)) ∧ W = w' := spec_turn x15 18 (by decide) (by decide)
          have l3 : ∀ W, Calls Tryd.prog 39 #[u x2, .int .u64 17] W fun e w' => e = .returned (u (rotr x2 17)) ∧ W = w' := spec_turn x2 17 (by decide) (by decide)
          have l4 : ∀ W, Calls Tryd.prog 39 #[u x2, .int .u64 19] W fun e w' => e = .returned (u (rotr x2 19)) ∧ W = w' := spec_turn x2 19 (by decide) (by decide)
          have s1 := u_shr x15 3
          have s2 := u_shr x2 10
          simp only [Int.reducePow] at s1 s2
          generalize x15 >>> 3 = h1 at s1 hx
          generalize x2 >>> 10 = h2 at s2 hx
          generalize rotr x15 7 = r1 at l1 hx
          generalize rotr x15 18 = r2 at l2 hx
          generalize rotr x2 17 = r3 at l3 hx
          generalize rotr x2 19 = r4 at l4 hx
          have o1 := u_xor r1 r2
          generalize r1 ^^^ r2 = r5 at o1 hx
          have o2 := u_xor r5 h1
          generalize r5 ^^^ h1 = r6 at o2 hx
          have o3 := u_xor r3 r4
          generalize r3 ^^^ r4 = r7 at o3 hx
          have o4 := u_xor r7 h2
          generalize r7 ^^^ h2 = r8 at o4 hx
          have hx2 : nextWord (spread s (n - 16)) n = x16 + r6 + x7 + r8 := by rw [hx, BitVec.add_assoc x16 x7 r6, BitVec.add_comm x7 r6, ← BitVec.add_assoc]
          clear hx
          have a1 := u_addm x16 r6
          generalize x16 + r6 = t1 at a1 hx2
          have a2 := u_addm t1 x7
          generalize t1 + x7 = t2 at a2 hx2
          have a3 := u_addm t2 r8
          generalize t2 + r8 = t3 at a3 hx2
          go_wp2_with (fail)
          go_quiet (first | ((go_at_call 39; with_reducible exact drew_first (drew_none l1))) | ((go_at_call 39; with_reducible exact drew_first (drew_none l2))))
          revert nq
          intro e1
          go_wp2_with (fail)
          go_quiet (first | ((go_at_call 39; with_reducible exact drew_next (drew_none l3))) | ((go_at_call 39; with_reducible exact drew_next (drew_none l4))))
          go_wp2_with (fail)
          revert nq
          intro e2
          generalize hW : (wr.drewN e1).drewN e2 = W
          have c3' : W.cell? ⟨w.heap.size + 1 + 1 + 1, n - 16, none⟩ = some (u x16) := by rw [← hW]; exact c3
          have c4' : W.cell? ⟨w.heap.size + 1 + 1 + 1, n - 7, none⟩ = some (u x7) := by rw [← hW]; exact c4
          have c5' : W.cell? ⟨w.heap.size + 1 + 1 + 1, n, none⟩ = some (u y) := by rw [← hW]; exact c5
          have hf' : W.frozen? ⟨w.heap.size + 1 + 1 + 1, n, none⟩ = false := by rw [← hW]; exact hf
          have hh2 : Blk W w.heap.size 40 h := by rw [← hW]; exact hh1
          have hk2 : Blk W (w.heap.size + 1) 42 keys := by rw [← hW]; exact hk1
          have hr2 : Blk W (w.heap.size + 1 + 1) 40 z8 := by rw [← hW]; exact hr1
          have hb3 : Blk W (w.heap.size + 1 + 1 + 1) 42 (spread s (n - 16)) := by rw [← hW]; exact hb2
          have hB2 : Below w.heap.size w W := by rw [← hW]; exact below_drewN (below_drewN hB _) _
          clear c1 c2 c3 c4 c5 hf hh1 hk1 hr1 hb2 hB l1 l2 l3 l4 hW
          go_region
          go_wp2_with (fail)
          go_roundw
          case rel =>
            refine ⟨n + 1, by omega, by omega, by go_num, hh2.other _ _ (by dsimp only; omega), hk2.other _ _ (by dsimp only; omega), hr2.other _ _ (by dsimp only; omega), ?_, (hB2.setCell (by dsimp only; omega) _).drew⟩
            have e : n + 1 - 16 = (n - 16) + 1 := by omega
            have e2 : 16 + (n - 16) = n := by omega
            rw [e, spread_succ, e2, hx2]
            exact hb3.set n t3
          case measure => simp [intOf]; omega
        · obtain rfl : n = 64 := by omega
          rw [show ((64 : Nat) : Int) = (64 : Int) from rfl]
          rw [show 64 - 16 = 48 from rfl] at hb2
          have hld := load_open hh1 hh
          go_wp2_with (fail)
          simp only [Tryd.isAgg40, Tryd.sizeOf40, Result.andThen, ↓reduceIte, hld]
          rw [Oper.upon_value]
          go_wp2_with (fail)
          have hst := store_new wr 40 40 z8 h (by rw [hh, z8_size]) rfl (by rw [hh]; exact size35)
          simp only [Tryd.sizeOf40, Result.andThen, ↓reduceIte, hst]
          rw [Oper.upon_skip]
          have hgt := hb2.lt
          have hB2 := hB.alloc (by omega) (.cells (h.map u) 40)
          have hh2 := hh1.alloc (.cells (h.map u) 40)
          have hk2 := hk1.alloc (.cells (h.map u) 40)
          have hr2 := hr1.alloc (.cells (h.map u) 40)
          have hi2 := hb2.alloc (.cells (h.map u) 40)
          have hm2 := Blk.new wr 40 h
          clear hld hst hB hh1 hk1 hr1 hb2
          generalize hW2 : wr.alloc (.cells (h.map u) 40) = W2 at hB2 hh2 hk2 hr2 hi2 hm2 ⊢
          clear hW2
          generalize wr.heap.size = g6 at hgt hm2 ⊢
          clear hg0 hg1 hg2 hg3
          go_wp2_with (fail)
          go_loopw [13] (fun i wr => ∃ k : Nat, k ≤ 64 ∧ i = .int .i64 k ∧ Blk wr w.heap.size 40 h ∧ Blk wr (w.heap.size + 1) 42 keys ∧ Blk wr (w.heap.size + 1 + 1) 40 z8 ∧ Blk wr (w.heap.size + 1 + 1 + 1) 42 (spread s 48) ∧ Blk wr g6 40 (rounds h s k) ∧ Below w.heap.size w wr) (fun i _ => 64 - (intOf i).toNat)
          case atStart => exact ⟨0, by omega, rfl, hh2, hk2, hr2, hi2, by rw [rounds_zero]; exact hm2, hB2⟩
          case round =>
            clear hB2 hh2 hk2 hr2 hi2 hm2
            obtain ⟨k, hk64, rfl, hh3, hk3, hr3, hi3, hm3, hB3⟩ := hrel
            by_cases hlt : k < 64
            · have ci := hi3.cell k (by rw [spread_size]; omega)
              have ck := hk3.cell k (by rw [keys_size]; omega)
              have hd := rounds_size h s hh k
              have hnext := rounds_succ h s k
              rw [roundOf_def] at hnext
              have d0 := hm3.cell 0 (by omega)
              have d1 := hm3.cell 1 (by omega)
              have d2 := hm3.cell 2 (by omega)
              have d3 := hm3.cell 3 (by omega)
              have d4 := hm3.cell 4 (by omega)
              have d5 := hm3.cell 5 (by omega)
              have d6 := hm3.cell 6 (by omega)
              have d7 := hm3.cell 7 (by omega)
              have hf := hm3.frozen
              obtain ⟨a0, e0⟩ : ∃ x, (rounds h s k)[0]! = x := ⟨_, rfl⟩
              obtain ⟨a1, e1⟩ : ∃ x, (rounds h s k)[1]! = x := ⟨_, rfl⟩
              obtain ⟨a2, e2⟩ : ∃ x, (rounds h s k)[2]! = x := ⟨_, rfl⟩
              obtain ⟨a3, e3⟩ : ∃ x, (rounds h s k)[3]! = x := ⟨_, rfl⟩
              obtain ⟨a4, e4⟩ : ∃ x, (rounds h s k)[4]! = x := ⟨_, rfl⟩
              obtain ⟨a5, e5⟩ : ∃ x, (rounds h s k)[5]! = x := ⟨_, rfl⟩
              obtain ⟨a6, e6⟩ : ∃ x, (rounds h s k)[6]! = x := ⟨_, rfl⟩
              obtain ⟨a7, e7⟩ : ∃ x, (rounds h s k)[7]! = x := ⟨_, rfl⟩
              obtain ⟨x, ex⟩ : ∃ x, (spread s 48)[k]! = x := ⟨_, rfl⟩
              obtain ⟨y, ey⟩ : ∃ x, keys[k]! = x := ⟨_, rfl⟩
              rw [e0] at d0; rw [e1] at d1; rw [e2] at d2; rw [e3] at d3; rw [e4] at d4; rw [e5] at d5; rw [e6] at d6; rw [e7] at d7
              rw [ex] at ci; rw [ey] at ck
              rw [e0, e1, e2, e3, e4, e5, e6, e7, ex, ey] at hnext
              clear e0 e1 e2 e3 e4 e5 e6 e7 ex ey
              obtain ⟨t1, ht1⟩ : ∃ t, t = rotr a4 6 ^^^ rotr a4 11 ^^^ rotr a4 25 := ⟨_, rfl⟩
              obtain ⟨t2, ht2⟩ : ∃ t, t = rotr a0 2 ^^^ rotr a0 13 ^^^ rotr a0 22 := ⟨_, rfl⟩
              obtain ⟨ch, hch⟩ : ∃ x, x = (a4 &&& a5 ^^^ ~~~ a4 &&& a6) := ⟨_, rfl⟩
              obtain ⟨mj, hmj⟩ : ∃ x, x = (a0 &&& a1 ^^^ a0 &&& a2 ^^^ a1 &&& a2) := ⟨_, rfl⟩
              have b1 : bits .xor .u32 (bits .and .u32 (a4.toNat : Int) (a5.toNat : Int)) (bits .and .u32 (bits .xor .u32 (a4.toNat : Int) 4294967295) (a6.toNat : Int)) = (ch.toNat : Int) := by
                rw [u_not', u_and, u_and, u_xor, hch]
              have b2 : bits .xor .u32 (bits .xor .u32 (bits .and .u32 (a0.toNat : Int) (a1.toNat : Int)) (bits .and .u32 (a0.toNat : Int) (a2.toNat : Int))) (bits .and .u32 (a1.toNat : Int) (a2.toNat : Int)) = (mj.toNat : Int) := by
                rw [u_and, u_and, u_and, u_xor, u_xor, hmj]
              obtain ⟨p1, hp1⟩ : ∃ x, x = a7 + t1 := ⟨_, rfl⟩
              obtain ⟨p2, hp2⟩ : ∃ x, x = p1 + ch := ⟨_, rfl⟩
              obtain ⟨p3, hp3⟩ : ∃ x, x = p2 + y := ⟨_, rfl⟩
              obtain ⟨lo, hlo⟩ : ∃ z, z = p3 + x := ⟨_, rfl⟩
              obtain ⟨hi, hhi⟩ : ∃ x, x = t2 + mj := ⟨_, rfl⟩
              obtain ⟨na, hna⟩ : ∃ x, x = lo + hi := ⟨_, rfl⟩
              obtain ⟨ne, hne⟩ : ∃ x, x = a3 + lo := ⟨_, rfl⟩
              have s1 : ((a7.toNat : Int) + (t1.toNat : Int)) % 4294967296 = (p1.toNat : Int) := by rw [u_addm, hp1]
              have s2 : ((p1.toNat : Int) + (ch.toNat : Int)) % 4294967296 = (p2.toNat : Int) := by rw [u_addm, hp2]
              have s3 : ((p2.toNat : Int) + (y.toNat : Int)) % 4294967296 = (p3.toNat : Int) := by rw [u_addm, hp3]
              have s4 : ((p3.toNat : Int) + (x.toNat : Int)) % 4294967296 = (lo.toNat : Int) := by rw [u_addm, hlo]
              have s5 : ((t2.toNat : Int) + (mj.toNat : Int)) % 4294967296 = (hi.toNat : Int) := by rw [u_addm, hhi]
              have s6 : ((lo.toNat : Int) + (hi.toNat : Int)) % 4294967296 = (na.toNat : Int) := by rw [u_addm, hna]
              have s7 : ((a3.toNat : Int) + (lo.toNat : Int)) % 4294967296 = (ne.toNat : Int) := by rw [u_addm, hne]
              have hl : low a4 a5 a6 a7 (x + y) = lo := by
                rw [hlo, hp3, hp2, hp1, hch, ht1, low, BitVec.add_assoc _ y x, BitVec.add_comm y x]
              have hh4 : high a0 a1 a2 = hi := by rw [hhi, ht2, hmj, high]
              rw [hl, hh4, ← hna, ← hne] at hnext
              clear hl hh4 hna hne hhi hlo hp3 hp2 hp1 hmj hch
              obtain ⟨z1, hz1⟩ : ∃ z, z = rotr a4 6 := ⟨_, rfl⟩
              obtain ⟨z2, hz2⟩ : ∃ z, z = rotr a4 11 := ⟨_, rfl⟩
              obtain ⟨z3, hz3⟩ : ∃ z, z = rotr a4 25 := ⟨_, rfl⟩
              obtain ⟨z4, hz4⟩ : ∃ z, z = rotr a0 2 := ⟨_, rfl⟩
              obtain ⟨z5, hz5⟩ : ∃ z, z = rotr a0 13 := ⟨_, rfl⟩
              obtain ⟨z6, hz6⟩ : ∃ z, z = rotr a0 22 := ⟨_, rfl⟩
              have l1 : ∀ W, Calls Tryd.prog 39 #[u a4, .int .u64 6] W fun e w' => e = .returned (u z1) ∧ W = w' := hz1 ▸ spec_turn a4 6 (by decide) (by decide)
              have l2 : ∀ W, Calls Tryd.prog 39 #[u a4, .int .u64 11] W fun e w' => e = .returned (u z2) ∧ W = w' := hz2 ▸ spec_turn a4 11 (by decide) (by decide)
              have l3 : ∀ W, Calls Tryd.prog 39 #[u a4, .int .u64 25] W fun e w' => e = .returned (u z3) ∧ W = w' := hz3 ▸ spec_turn a4 25 (by decide) (by decide)
              have l4 : ∀ W, Calls Tryd.prog 39 #[u a0, .int .u64 2] W fun e w' => e = .returned (u z4) ∧ W = w' := hz4 ▸ spec_turn a0 2 (by decide) (by decide)
              have l5 : ∀ W, Calls Tryd.prog 39 #[u a0, .int .u64 13] W fun e w' => e = .returned (u z5) ∧ W = w' := hz5 ▸ spec_turn a0 13 (by decide) (by decide)
              have l6 : ∀ W, Calls Tryd.prog 39 #[u a0, .int .u64 22] W fun e w' => e = .returned (u z6) ∧ W = w' := hz6 ▸ spec_turn a0 22 (by decide) (by decide)
              have o1 : bits .xor .u32 (bits .xor .u32 (z1.toNat : Int) (z2.toNat : Int)) (z3.toNat : Int) = (t1.toNat : Int) := by rw [u_xor, u_xor, ht1, hz1, hz2, hz3]
              have o2 : bits .xor .u32 (bits .xor .u32 (z4.toNat : Int) (z5.toNat : Int)) (z6.toNat : Int) = (t2.toNat : Int) := by rw [u_xor, u_xor, ht2, hz4, hz5, hz6]
              clear hz1 hz2 hz3 hz4 hz5 hz6 ht1 ht2
              have q : (0 : Int) ≤ (k : Int) ∧ (k : Int) < 64 := by omega
              have qn : (k : Int).toNat = k := by omega
              go_wp2_with (fail)
              go_quiet (first | ((go_at_call 39; with_reducible exact drew_first (drew_none l1))) | ((go_at_call 39; with_reducible exact drew_first (drew_none l2))) | ((go_at_call 39; with_reducible exact drew_first (drew_none l3))))
              revert nq
              intro q1
              go_wp2_with (fail)
              go_quiet (fail)
              revert nq
              intro q2
              go_wp2_with (fail)
              go_quiet (first | ((go_at_call 39; with_reducible exact drew_next (drew_none l4))) | ((go_at_call 39; with_reducible exact drew_next (drew_none l5))) | ((go_at_call 39; with_reducible exact drew_next (drew_none l6))) | ((go_at_call 39; with_reducible exact drew_first (drew_none l4))) | ((go_at_call 39; with_reducible exact drew_first (drew_none l5))) | ((go_at_call 39; with_reducible exact drew_first (drew_none l6))))
              revert nq
              intro q3
              go_wp2_with (fail)
              clear l1 l2 l3 l4 l5 l6 d0 d1 d2 d3 d4 d5 d6 d7 ci ck hf o1 o2 s1 s2 s3 s4 s5 s6 s7 b1 b2
              have hfin : Blk (((((((((wr.drewN (q1 + q2 + q3)).setCell ⟨g6, 7, none⟩ (u a6)).setCell ⟨g6, 6, none⟩ (u a5)).setCell ⟨g6, 5, none⟩ (u a4)).setCell ⟨g6, 4, none⟩ (u ne)).setCell ⟨g6, 3, none⟩ (u a2)).setCell ⟨g6, 2, none⟩ (u a1)).setCell ⟨g6, 1, none⟩ (u a0)).setCell ⟨g6, 0, none⟩ (u na)) g6 40 (rounds h s (k + 1)) := by
                have hx := (((((((((hm3.drewN (q1 + q2 + q3)).set 7 a6).set 6 a5).set 5 a4).set 4 ne).set 3 a2).set 2 a1).set 1 a0).set 0 na)
                rw [set_chain _ hd] at hx
                rw [hnext]
                exact hx
              have hoth : ∀ g t (d : Array (BitVec 32)), g ≠ g6 → Blk wr g t d → Blk (((((((((wr.drewN (q1 + q2 + q3)).setCell ⟨g6, 7, none⟩ (u a6)).setCell ⟨g6, 6, none⟩ (u a5)).setCell ⟨g6, 5, none⟩ (u a4)).setCell ⟨g6, 4, none⟩ (u ne)).setCell ⟨g6, 3, none⟩ (u a2)).setCell ⟨g6, 2, none⟩ (u a1)).setCell ⟨g6, 1, none⟩ (u a0)).setCell ⟨g6, 0, none⟩ (u na)) g t d := by
                intro g t d hg hb
                exact (((((((((hb.drewN (q1 + q2 + q3)).other _ _ hg).other _ _ hg).other _ _ hg).other _ _ hg).other _ _ hg).other _ _ hg).other _ _ hg).other _ _ hg)
              have hbel : Below w.heap.size w (((((((((wr.drewN (q1 + q2 + q3)).setCell ⟨g6, 7, none⟩ (u a6)).setCell ⟨g6, 6, none⟩ (u a5)).setCell ⟨g6, 5, none⟩ (u a4)).setCell ⟨g6, 4, none⟩ (u ne)).setCell ⟨g6, 3, none⟩ (u a2)).setCell ⟨g6, 2, none⟩ (u a1)).setCell ⟨g6, 1, none⟩ (u a0)).setCell ⟨g6, 0, none⟩ (u na)) := by
                have hg : w.heap.size ≤ g6 := by omega
                exact ((((((((below_drewN hB3 _).setCell hg _).setCell hg _).setCell hg _).setCell hg _).setCell hg _).setCell hg _).setCell hg _).setCell hg _
              go_roundw
              case rel =>
                exact ⟨k + 1, by omega, by go_num, hoth _ _ _ (by omega) hh3, hoth _ _ _ (by omega) hk3, hoth _ _ _ (by omega) hr3, hoth _ _ _ (by omega) hi3, hfin, hbel⟩
              case measure => simp [intOf]; omega
            · obtain rfl : k = 64 := by omega
              rw [show ((64 : Nat) : Int) = (64 : Int) from rfl]
              go_wp2_with (fail)
              have hms := rounds_size h s hh 64
              have hbo : blockOf h s = addUp h (rounds h s 64) 8 := by unfold blockOf; rfl
              rw [show h = addUp h (rounds h s 64) 0 from (addUp_zero _ _).symm] at hh3
              generalize hm64 : rounds h s 64 = m at hms hbo hh3 hm3 ⊢
              clear hi3 hk3
              go_loopw [20] (fun i wr => ∃ k : Nat, k ≤ 8 ∧ i = .int .i64 k ∧ Blk wr w.heap.size 40 (addUp h m k) ∧ Blk wr (w.heap.size + 1 + 1) 40 z8 ∧ Blk wr g6 40 m ∧ Below w.heap.size w wr) (fun i _ => 8 - (intOf i).toNat)
              case atStart => exact ⟨0, by omega, rfl, hh3, hr3, hm3, hB3⟩
              case round =>
                clear hh3 hr3 hm3 hB3
                obtain ⟨k, hk8, rfl, hh3, hr3, hm3, hB3⟩ := hrel
                by_cases hlt : k < 8
                · have c1 := hh3.cell k (by rw [addUp_size h m hh]; omega)
                  have cf := hh3.frozen k
                  have c2 := hm3.cell k (by omega)
                  have hnext := addUp_succ h m k
                  obtain ⟨x, hx⟩ : ∃ x, (addUp h m k)[k]! = x := ⟨_, rfl⟩
                  obtain ⟨y, hy⟩ : ∃ y, m[k]! = y := ⟨_, rfl⟩
                  rw [hx] at c1
                  rw [hy] at c2
                  rw [hx, hy] at hnext
                  have a1 := u_addm x y
                  generalize x + y = z at a1 hnext
                  have q : (0 : Int) ≤ (k : Int) ∧ (k : Int) < 8 := by omega
                  have qn : (k : Int).toNat = k := by omega
                  go_wp2_with (fail)
                  go_region
                  go_wp2_with (fail)
                  go_roundw
                  case rel => exact ⟨k + 1, by omega, by go_num, by rw [hnext]; first | exact hh3.set k z | (rw [← a1]; exact hh3.set k z), hr3.other _ _ (by dsimp only; omega), hm3.other _ _ (by dsimp only; omega), (hB3.setCell (by dsimp only; omega) _).drew⟩
                  case measure => simp [intOf]; omega
                · obtain rfl : k = 8 := by omega
                  rw [← hbo] at hh3
                  clear hbo
                  rw [show ((8 : Nat) : Int) = (8 : Int) from rfl]
                  have hld := load_open hh3 (blockOf_size h s hh)
                  go_wp2_with (fail)
                  simp only [Tryd.isAgg40, Tryd.sizeOf40, Result.andThen, ↓reduceIte, hld]
                  rw [Oper.upon_value]
                  have hst := hr3.storeFrom (P := Tryd.prog) 40 (blockOf h s) (by rw [blockOf_size h s hh, z8_size]) (by rw [z8_size]; exact size35)
                  have hsz : (blockOf h s).size = 8 := blockOf_size h s hh
                  have hrow : (wr.setRow (w.heap.size + 1 + 1) ((blockOf h s).map u)).heap[w.heap.size + 1 + 1]? = some (.cells ((blockOf h s).map u) 40 (0, 0)) := hr3.setRow _
                  have hB4 := below_setRow hB3 (w.heap.size + 1 + 1) (by omega) ((blockOf h s).map u)
                  simp only [Array.toList_map] at hst
                  go_wp2_with (fail)
                  simp only [Tryd.sizeOf40, Result.andThen, ↓reduceIte, hst]
                  rw [Oper.upon_skip]
                  go_wp2_with (fail)
                  refine bodyPost_ret (v := .agg ((blockOf h s).map u)) ?_ rfl ⟨rfl, hB4⟩
                  exact results_cell_row rfl _ _ (w.heap.size + 1 + 1) 40 _ (0, 0) _ rfl hrow Tryd.underlying40 rfl (by rw [Array.size_map, hsz]; exact size35)
end Go.Proofs.YtjnobggefofjcacDoor
