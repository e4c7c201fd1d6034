import Derived.Test.YtkpajakangaekabNumM
namespace Go.Proofs.Ytkpajakangaekab
open Go.RowKit


set_option maxHeartbeats 1000000 in
theorem impl_numt1 (n : Nat) (W0 : World) (hn : n < 256) :
    Calls Try.prog 32 #[.int .i64 (n : Int), .int .i64 1] W0 fun e w' => e = .returned (.string ⟨(numBytes n 1).toArray⟩) ∧ Below W0.heap.size W0 w' := by
  have hmk := makeRow 1 (by omega)
  rw [show ((1 : Nat) : Int) = (1 : Int) from rfl] at hmk
  have hb0 : BBlk (W0.alloc (.cells ((Array.replicate 1 (0 : UInt8)).map cb) 5)) W0.heap.size (numArr n 1 0) := by
    show (W0.heap.push _)[W0.heap.size]? = _
    rw [numArr_zero]
    simp
  have hB0 := below_newN W0 (.cells ((Array.replicate 1 (0 : UInt8)).map cb) 5)
  generalize (Array.replicate 1 (0 : UInt8)).map cb = z at hmk hb0 hB0
  have HE := Lib.hid (numArr_end n 1)
  have hq : (n : Int) / 256 = 0 := by omega
  go_enter Try.func32, Try.ntmps32
  go_wp2_with (fail)
  go_loopw [27] (fun i wr => ∃ k : Nat, k ≤ 1 ∧ i = .int .i64 k ∧ BBlk wr W0.heap.size (numArr n 1 k) ∧ Below W0.heap.size W0 wr) (fun i _ => 1 - (intOf i).toNat)
  case atStart => exact ⟨0, by omega, rfl, hb0, hB0⟩
  case round =>
    clear hb0 hB0 hmk
    obtain ⟨k, hk, rfl, hb, hB⟩ := hrel
    by_cases hlt : k < 1
    · have hsucc := numArr_succ n 1 k hlt
      have hg := numBytes_get n 1 k hlt
      obtain ⟨v0, o0⟩ := hb.cell k (by rw [numArr_size n 1 k (by omega)]; exact hlt)
      have hf := hb.frozen k
      generalize (numBytes n 1)[k]'(by rw [numBytes_length]; exact hlt) = y at hsucc hg
      have hset : ∀ x : Int, x = (y.toNat : Int) → BBlk (wr.setCell ⟨W0.heap.size, k, none⟩ (.int .u8 x)) W0.heap.size (numArr n 1 (k + 1)) := by
        rintro _ rfl
        rw [hsucc]
        exact hb.set k y
      clear hsucc hb
      obtain rfl : k = 0 := by omega
      all_goals
        simp only [Nat.reducePow, Nat.reduceSub] at hg
        have HG := Lib.hid hg
        clear hg
        go_wp2_with (fail)
        go_roundw
        case rel =>
          refine ⟨_, ?_, ?_, hset _ ?_, hB.setCell (Nat.le_refl _) _⟩
          · omega
          · rfl
          · have := HG.out; omega
        case measure => simp [intOf]
    · obtain rfl : k = 1 := by omega
      have hcv := hb.conv 1 (numArr_size n 1 1 (by omega))
      rw [HE.out] at hcv
      go_wp2_with (fail)
      go_ret
      exact ⟨rfl, hB⟩

theorem impl_numt1_big (n : Int) (W0 : World) (hn : 256 ≤ n) :
    Calls Try.prog 32 #[.int .i64 n, .int .i64 1] W0 fun e w' => e = .returned (.string ⟨#[]⟩) ∧ Below W0.heap.size W0 w' := by
  have hq : ¬ n < 0 := by omega
  have hq2 : (n / 256 != 0) = true := by simp; omega
  have hq3 : (n / 256 == 0) = false := by simp; omega
  go_enter Try.func32, Try.ntmps32
  go_wp2_with (fail)
  go_ret
  exact ⟨rfl, Below.refl _ _⟩

set_option maxHeartbeats 1000000 in
theorem impl_numt2 (n : Nat) (W0 : World) (hn : n < 65536) :
    Calls Try.prog 32 #[.int .i64 (n : Int), .int .i64 2] W0 fun e w' => e = .returned (.string ⟨(numBytes n 2).toArray⟩) ∧ Below W0.heap.size W0 w' := by
  have hmk := makeRow 2 (by omega)
  rw [show ((2 : Nat) : Int) = (2 : Int) from rfl] at hmk
  have hb0 : BBlk (W0.alloc (.cells ((Array.replicate 2 (0 : UInt8)).map cb) 5)) W0.heap.size (numArr n 2 0) := by
    show (W0.heap.push _)[W0.heap.size]? = _
    rw [numArr_zero]
    simp
  have hB0 := below_newN W0 (.cells ((Array.replicate 2 (0 : UInt8)).map cb) 5)
  generalize (Array.replicate 2 (0 : UInt8)).map cb = z at hmk hb0 hB0
  have HE := Lib.hid (numArr_end n 2)
  have hq : (n : Int) / 65536 = 0 := by omega
  go_enter Try.func32, Try.ntmps32
  go_wp2_with (fail)
  go_loopw [27] (fun i wr => ∃ k : Nat, k ≤ 2 ∧ i = .int .i64 k ∧ BBlk wr W0.heap.size (numArr n 2 k) ∧ Below W0.heap.size W0 wr) (fun i _ => 2 - (intOf i).toNat)
  case atStart => exact ⟨0, by omega, rfl, hb0, hB0⟩
  case round =>
    clear hb0 hB0 hmk
    obtain ⟨k, hk, rfl, hb, hB⟩ := hrel
    by_cases hlt : k < 2
    · have hsucc := numArr_succ n 2 k hlt
      have hg := numBytes_get n 2 k hlt
      obtain ⟨v0, o0⟩ := hb.cell k (by rw [numArr_size n 2 k (by omega)]; exact hlt)
      have hf := hb.frozen k
      generalize (numBytes n 2)[k]'(by rw [numBytes_length]; exact hlt) = y at hsucc hg
      have hset : ∀ x : Int, x = (y.toNat : Int) → BBlk (wr.setCell ⟨W0.heap.size, k, none⟩ (.int .u8 x)) W0.heap.size (numArr n 2 (k + 1)) := by
        rintro _ rfl
        rw [hsucc]
        exact hb.set k y
      clear hsucc hb
      have hk4 : k = 0 ∨ k = 1 := by omega
      rcases hk4 with rfl | rfl
      all_goals
        simp only [Nat.reducePow, Nat.reduceSub] at hg
        have HG := Lib.hid hg
        clear hg
        go_wp2_with (fail)
        go_roundw
        case rel =>
          refine ⟨_, ?_, ?_, hset _ ?_, hB.setCell (Nat.le_refl _) _⟩
          · omega
          · rfl
          · have := HG.out; omega
        case measure => simp [intOf]
    · obtain rfl : k = 2 := by omega
      have hcv := hb.conv 2 (numArr_size n 2 2 (by omega))
      rw [HE.out] at hcv
      go_wp2_with (fail)
      go_ret
      exact ⟨rfl, hB⟩

theorem impl_numt2_big (n : Int) (W0 : World) (hn : 65536 ≤ n) :
    Calls Try.prog 32 #[.int .i64 n, .int .i64 2] W0 fun e w' => e = .returned (.string ⟨#[]⟩) ∧ Below W0.heap.size W0 w' := by
  have hq : ¬ n < 0 := by omega
  have hq2 : (n / 65536 != 0) = true := by simp; omega
  have hq3 : (n / 65536 == 0) = false := by simp; omega
  go_enter Try.func32, Try.ntmps32
  go_wp2_with (fail)
  go_ret
  exact ⟨rfl, Below.refl _ _⟩

set_option maxHeartbeats 1000000 in
theorem impl_numt3 (n : Nat) (W0 : World) (hn : n < 16777216) :
    Calls Try.prog 32 #[.int .i64 (n : Int), .int .i64 3] W0 fun e w' => e = .returned (.string ⟨(numBytes n 3).toArray⟩) ∧ Below W0.heap.size W0 w' := by
  have hmk := makeRow 3 (by omega)
  rw [show ((3 : Nat) : Int) = (3 : Int) from rfl] at hmk
  have hb0 : BBlk (W0.alloc (.cells ((Array.replicate 3 (0 : UInt8)).map cb) 5)) W0.heap.size (numArr n 3 0) := by
    show (W0.heap.push _)[W0.heap.size]? = _
    rw [numArr_zero]
    simp
  have hB0 := below_newN W0 (.cells ((Array.replicate 3 (0 : UInt8)).map cb) 5)
  generalize (Array.replicate 3 (0 : UInt8)).map cb = z at hmk hb0 hB0
  have HE := Lib.hid (numArr_end n 3)
  have hq : (n : Int) / 16777216 = 0 := by omega
  go_enter Try.func32, Try.ntmps32
  go_wp2_with (fail)
  go_loopw [27] (fun i wr => ∃ k : Nat, k ≤ 3 ∧ i = .int .i64 k ∧ BBlk wr W0.heap.size (numArr n 3 k) ∧ Below W0.heap.size W0 wr) (fun i _ => 3 - (intOf i).toNat)
  case atStart => exact ⟨0, by omega, rfl, hb0, hB0⟩
  case round =>
    clear hb0 hB0 hmk
    obtain ⟨k, hk, rfl, hb, hB⟩ := hrel
    by_cases hlt : k < 3
    · have hsucc := numArr_succ n 3 k hlt
      have hg := numBytes_get n 3 k hlt
      obtain ⟨v0, o0⟩ := hb.cell k (by rw [numArr_size n 3 k (by omega)]; exact hlt)
      have hf := hb.frozen k
      generalize (numBytes n 3)[k]'(by rw [numBytes_length]; exact hlt) = y at hsucc hg
      have hset : ∀ x : Int, x = (y.toNat : Int) → BBlk (wr.setCell ⟨W0.heap.size, k, none⟩ (.int .u8 x)) W0.heap.size (numArr n 3 (k + 1)) := by
        rintro _ rfl
        rw [hsucc]
        exact hb.set k y
      clear hsucc hb
      have hk4 : k = 0 ∨ k = 1 ∨ k = 2 := by omega
      rcases hk4 with rfl | rfl | rfl
      all_goals
        simp only [Nat.reducePow, Nat.reduceSub] at hg
        have HG := Lib.hid hg
        clear hg
        go_wp2_with (fail)
        go_roundw
        case rel =>
          refine ⟨_, ?_, ?_, hset _ ?_, hB.setCell (Nat.le_refl _) _⟩
          · omega
          · rfl
          · have := HG.out; omega
        case measure => simp [intOf]
    · obtain rfl : k = 3 := by omega
      have hcv := hb.conv 3 (numArr_size n 3 3 (by omega))
      rw [HE.out] at hcv
      go_wp2_with (fail)
      go_ret
      exact ⟨rfl, hB⟩

theorem impl_numt3_big (n : Int) (W0 : World) (hn : 16777216 ≤ n) :
    Calls Try.prog 32 #[.int .i64 n, .int .i64 3] W0 fun e w' => e = .returned (.string ⟨#[]⟩) ∧ Below W0.heap.size W0 w' := by
  have hq : ¬ n < 0 := by omega
  have hq2 : (n / 16777216 != 0) = true := by simp; omega
  have hq3 : (n / 16777216 == 0) = false := by simp; omega
  go_enter Try.func32, Try.ntmps32
  go_wp2_with (fail)
  go_ret
  exact ⟨rfl, Below.refl _ _⟩

set_option maxHeartbeats 1000000 in
theorem impl_numt4 (n : Nat) (W0 : World) (hn : n < 4294967296) :
    Calls Try.prog 32 #[.int .i64 (n : Int), .int .i64 4] W0 fun e w' => e = .returned (.string ⟨(numBytes n 4).toArray⟩) ∧ Below W0.heap.size W0 w' := by
  have hmk := makeRow 4 (by omega)
  rw [show ((4 : Nat) : Int) = (4 : Int) from rfl] at hmk
  have hb0 : BBlk (W0.alloc (.cells ((Array.replicate 4 (0 : UInt8)).map cb) 5)) W0.heap.size (numArr n 4 0) := by
    show (W0.heap.push _)[W0.heap.size]? = _
    rw [numArr_zero]
    simp
  have hB0 := below_newN W0 (.cells ((Array.replicate 4 (0 : UInt8)).map cb) 5)
  generalize (Array.replicate 4 (0 : UInt8)).map cb = z at hmk hb0 hB0
  have HE := Lib.hid (numArr_end n 4)
  have hq : (n : Int) / 4294967296 = 0 := by omega
  go_enter Try.func32, Try.ntmps32
  go_wp2_with (fail)
  go_loopw [27] (fun i wr => ∃ k : Nat, k ≤ 4 ∧ i = .int .i64 k ∧ BBlk wr W0.heap.size (numArr n 4 k) ∧ Below W0.heap.size W0 wr) (fun i _ => 4 - (intOf i).toNat)
  case atStart => exact ⟨0, by omega, rfl, hb0, hB0⟩
  case round =>
    clear hb0 hB0 hmk
    obtain ⟨k, hk, rfl, hb, hB⟩ := hrel
    by_cases hlt : k < 4
    · have hsucc := numArr_succ n 4 k hlt
      have hg := numBytes_get n 4 k hlt
      obtain ⟨v0, o0⟩ := hb.cell k (by rw [numArr_size n 4 k (by omega)]; exact hlt)
      have hf := hb.frozen k
      generalize (numBytes n 4)[k]'(by rw [numBytes_length]; exact hlt) = y at hsucc hg
      have hset : ∀ x : Int, x = (y.toNat : Int) → BBlk (wr.setCell ⟨W0.heap.size, k, none⟩ (.int .u8 x)) W0.heap.size (numArr n 4 (k + 1)) := by
        rintro _ rfl
        rw [hsucc]
        exact hb.set k y
      clear hsucc hb
      have hk4 : k = 0 ∨ k = 1 ∨ k = 2 ∨ k = 3 := by omega
      rcases hk4 with rfl | rfl | rfl | rfl
      all_goals
        simp only [Nat.reducePow, Nat.reduceSub] at hg
        have HG := Lib.hid hg
        clear hg
        go_wp2_with (fail)
        go_roundw
        case rel =>
          refine ⟨_, ?_, ?_, hset _ ?_, hB.setCell (Nat.le_refl _) _⟩
          · omega
          · rfl
          · have := HG.out; omega
        case measure => simp [intOf]
    · obtain rfl : k = 4 := by omega
      have hcv := hb.conv 4 (numArr_size n 4 4 (by omega))
      rw [HE.out] at hcv
      go_wp2_with (fail)
      go_ret
      exact ⟨rfl, hB⟩

theorem impl_numt4_big (n : Int) (W0 : World) (hn : 4294967296 ≤ n) :
    Calls Try.prog 32 #[.int .i64 n, .int .i64 4] W0 fun e w' => e = .returned (.string ⟨#[]⟩) ∧ Below W0.heap.size W0 w' := by
  have hq : ¬ n < 0 := by omega
  have hq2 : (n / 4294967296 != 0) = true := by simp; omega
  have hq3 : (n / 4294967296 == 0) = false := by simp; omega
  go_enter Try.func32, Try.ntmps32
  go_wp2_with (fail)
  go_ret
  exact ⟨rfl, Below.refl _ _⟩

set_option maxHeartbeats 1000000 in
theorem impl_numt5 (n : Nat) (W0 : World) (hn : n < 1099511627776) :
    Calls Try.prog 32 #[.int .i64 (n : Int), .int .i64 5] W0 fun e w' => e = .returned (.string ⟨(numBytes n 5).toArray⟩) ∧ Below W0.heap.size W0 w' := by
  have hmk := makeRow 5 (by omega)
  rw [show ((5 : Nat) : Int) = (5 : Int) from rfl] at hmk
  have hb0 : BBlk (W0.alloc (.cells ((Array.replicate 5 (0 : UInt8)).map cb) 5)) W0.heap.size (numArr n 5 0) := by
    show (W0.heap.push _)[W0.heap.size]? = _
    rw [numArr_zero]
    simp
  have hB0 := below_newN W0 (.cells ((Array.replicate 5 (0 : UInt8)).map cb) 5)
  generalize (Array.replicate 5 (0 : UInt8)).map cb = z at hmk hb0 hB0
  have HE := Lib.hid (numArr_end n 5)
  have hq : (n : Int) / 1099511627776 = 0 := by omega
  go_enter Try.func32, Try.ntmps32
  go_wp2_with (fail)
  go_loopw [27] (fun i wr => ∃ k : Nat, k ≤ 5 ∧ i = .int .i64 k ∧ BBlk wr W0.heap.size (numArr n 5 k) ∧ Below W0.heap.size W0 wr) (fun i _ => 5 - (intOf i).toNat)
  case atStart => exact ⟨0, by omega, rfl, hb0, hB0⟩
  case round =>
    clear hb0 hB0 hmk
    obtain ⟨k, hk, rfl, hb, hB⟩ := hrel
    by_cases hlt : k < 5
    · have hsucc := numArr_succ n 5 k hlt
      have hg := numBytes_get n 5 k hlt
      obtain ⟨v0, o0⟩ := hb.cell k (by rw [numArr_size n 5 k (by omega)]; exact hlt)
      have hf := hb.frozen k
      generalize (numBytes n 5)[k]'(by rw [numBytes_length]; exact hlt) = y at hsucc hg
      have hset : ∀ x : Int, x = (y.toNat : Int) → BBlk (wr.setCell ⟨W0.heap.size, k, none⟩ (.int .u8 x)) W0.heap.size (numArr n 5 (k + 1)) := by
        rintro _ rfl
        rw [hsucc]
        exact hb.set k y
      clear hsucc hb
      have hk4 : k = 0 ∨ k = 1 ∨ k = 2 ∨ k = 3 ∨ k = 4 := by omega
      rcases hk4 with rfl | rfl | rfl | rfl | rfl
      all_goals
        simp only [Nat.reducePow, Nat.reduceSub] at hg
        have HG := Lib.hid hg
        clear hg
        go_wp2_with (fail)
        go_roundw
        case rel =>
          refine ⟨_, ?_, ?_, hset _ ?_, hB.setCell (Nat.le_refl _) _⟩
          · omega
          · rfl
          · have := HG.out; omega
        case measure => simp [intOf]
    · obtain rfl : k = 5 := by omega
      have hcv := hb.conv 5 (numArr_size n 5 5 (by omega))
      rw [HE.out] at hcv
      go_wp2_with (fail)
      go_ret
      exact ⟨rfl, hB⟩

theorem impl_numt5_big (n : Int) (W0 : World) (hn : 1099511627776 ≤ n) :
    Calls Try.prog 32 #[.int .i64 n, .int .i64 5] W0 fun e w' => e = .returned (.string ⟨#[]⟩) ∧ Below W0.heap.size W0 w' := by
  have hq : ¬ n < 0 := by omega
  have hq2 : (n / 1099511627776 != 0) = true := by simp; omega
  have hq3 : (n / 1099511627776 == 0) = false := by simp; omega
  go_enter Try.func32, Try.ntmps32
  go_wp2_with (fail)
  go_ret
  exact ⟨rfl, Below.refl _ _⟩

set_option maxHeartbeats 1000000 in
theorem impl_numt6 (n : Nat) (W0 : World) (hn : n < 281474976710656) :
    Calls Try.prog 32 #[.int .i64 (n : Int), .int .i64 6] W0 fun e w' => e = .returned (.string ⟨(numBytes n 6).toArray⟩) ∧ Below W0.heap.size W0 w' := by
  have hmk := makeRow 6 (by omega)
  rw [show ((6 : Nat) : Int) = (6 : Int) from rfl] at hmk
  have hb0 : BBlk (W0.alloc (.cells ((Array.replicate 6 (0 : UInt8)).map cb) 5)) W0.heap.size (numArr n 6 0) := by
    show (W0.heap.push _)[W0.heap.size]? = _
    rw [numArr_zero]
    simp
  have hB0 := below_newN W0 (.cells ((Array.replicate 6 (0 : UInt8)).map cb) 5)
  generalize (Array.replicate 6 (0 : UInt8)).map cb = z at hmk hb0 hB0
  have HE := Lib.hid (numArr_end n 6)
  have hq : (n : Int) / 281474976710656 = 0 := by omega
  go_enter Try.func32, Try.ntmps32
  go_wp2_with (fail)
  go_loopw [27] (fun i wr => ∃ k : Nat, k ≤ 6 ∧ i = .int .i64 k ∧ BBlk wr W0.heap.size (numArr n 6 k) ∧ Below W0.heap.size W0 wr) (fun i _ => 6 - (intOf i).toNat)
  case atStart => exact ⟨0, by omega, rfl, hb0, hB0⟩
  case round =>
    clear hb0 hB0 hmk
    obtain ⟨k, hk, rfl, hb, hB⟩ := hrel
    by_cases hlt : k < 6
    · have hsucc := numArr_succ n 6 k hlt
      have hg := numBytes_get n 6 k hlt
      obtain ⟨v0, o0⟩ := hb.cell k (by rw [numArr_size n 6 k (by omega)]; exact hlt)
      have hf := hb.frozen k
      generalize (numBytes n 6)[k]'(by rw [numBytes_length]; exact hlt) = y at hsucc hg
      have hset : ∀ x : Int, x = (y.toNat : Int) → BBlk (wr.setCell ⟨W0.heap.size, k, none⟩ (.int .u8 x)) W0.heap.size (numArr n 6 (k + 1)) := by
        rintro _ rfl
        rw [hsucc]
        exact hb.set k y
      clear hsucc hb
      have hk4 : k = 0 ∨ k = 1 ∨ k = 2 ∨ k = 3 ∨ k = 4 ∨ k = 5 := by omega
      rcases hk4 with rfl | rfl | rfl | rfl | rfl | rfl
      all_goals
        simp only [Nat.reducePow, Nat.reduceSub] at hg
        have HG := Lib.hid hg
        clear hg
        go_wp2_with (fail)
        go_roundw
        case rel =>
          refine ⟨_, ?_, ?_, hset _ ?_, hB.setCell (Nat.le_refl _) _⟩
          · omega
          · rfl
          · have := HG.out; omega
        case measure => simp [intOf]
    · obtain rfl : k = 6 := by omega
      have hcv := hb.conv 6 (numArr_size n 6 6 (by omega))
      rw [HE.out] at hcv
      go_wp2_with (fail)
      go_ret
      exact ⟨rfl, hB⟩

theorem impl_numt6_big (n : Int) (W0 : World) (hn : 281474976710656 ≤ n) :
    Calls Try.prog 32 #[.int .i64 n, .int .i64 6] W0 fun e w' => e = .returned (.string ⟨#[]⟩) ∧ Below W0.heap.size W0 w' := by
  have hq : ¬ n < 0 := by omega
  have hq2 : (n / 281474976710656 != 0) = true := by simp; omega
  have hq3 : (n / 281474976710656 == 0) = false := by simp; omega
  go_enter Try.func32, Try.ntmps32
  go_wp2_with (fail)
  go_ret
  exact ⟨rfl, Below.refl _ _⟩

theorem impl_numt_out (n m : Int) (W0 : World) (h : ¬ (1 ≤ m ∧ m ≤ 6)) :
    Calls Try.prog 32 #[.int .i64 n, .int .i64 m] W0 fun e w' => e = .returned (.string ⟨#[]⟩) ∧ Below W0.heap.size W0 w' := by
  by_cases h1 : m < 1
  · clear h
    go_enter Try.func32, Try.ntmps32
    go_wp2_with (fail)
    go_ret
    exact ⟨rfl, Below.refl _ _⟩
  · have h2 : 6 < m := by omega
    clear h
    go_enter Try.func32, Try.ntmps32
    go_wp2_with (fail)
    go_ret
    exact ⟨rfl, Below.refl _ _⟩

theorem impl_numt_neg (n m : Int) (W0 : World) (h1 : 1 ≤ m) (h6 : m ≤ 6) (hn : n < 0) :
    Calls Try.prog 32 #[.int .i64 n, .int .i64 m] W0 fun e w' => e = .returned (.string ⟨#[]⟩) ∧ Below W0.heap.size W0 w' := by
  have q1 : ¬ m < 1 := by omega
  have q2 : ¬ 6 < m := by omega
  go_enter Try.func32, Try.ntmps32
  go_wp2_with (fail)
  go_ret
  exact ⟨rfl, Below.refl _ _⟩

/-- What NumText answers. -/
def numText (n m : Int) : ByteArray := if 1 ≤ m ∧ m ≤ 6 ∧ 0 ≤ n ∧ n < 256 ^ m.toNat then ⟨(numBytes n.toNat m.toNat).toArray⟩ else ⟨#[]⟩

theorem impl_numText (n m : Int) (W0 : World) :
    Calls Try.prog 32 #[.int .i64 n, .int .i64 m] W0 fun e w' => e = .returned (.string (numText n m)) ∧ Below W0.heap.size W0 w' := by
  unfold numText
  by_cases hw : 1 ≤ m ∧ m ≤ 6
  · obtain ⟨h1, h6⟩ := hw
    by_cases h0 : n < 0
    · rw [if_neg (by omega)]; exact impl_numt_neg n m W0 h1 h6 h0
    · obtain ⟨k, rfl⟩ : ∃ k : Nat, n = k := ⟨n.toNat, by omega⟩
      have hc : m = 1 ∨ m = 2 ∨ m = 3 ∨ m = 4 ∨ m = 5 ∨ m = 6 := by omega
      rcases hc with rfl | rfl | rfl | rfl | rfl | rfl
      · by_cases hb : k < 256
        · rw [if_pos ⟨by omega, by omega, by omega, by show (k : Int) < 256 ^ 1; omega⟩]; exact impl_numt1 k W0 hb
        · rw [if_neg (fun h => by have : (k : Int) < 256 ^ 1 := h.2.2.2; omega)]; exact impl_numt1_big k W0 (by omega)
      · by_cases hb : k < 65536
        · rw [if_pos ⟨by omega, by omega, by omega, by show (k : Int) < 256 ^ 2; omega⟩]; exact impl_numt2 k W0 hb
        · rw [if_neg (fun h => by have : (k : Int) < 256 ^ 2 := h.2.2.2; omega)]; exact impl_numt2_big k W0 (by omega)
      · by_cases hb : k < 16777216
        · rw [if_pos ⟨by omega, by omega, by omega, by show (k : Int) < 256 ^ 3; omega⟩]; exact impl_numt3 k W0 hb
        · rw [if_neg (fun h => by have : (k : Int) < 256 ^ 3 := h.2.2.2; omega)]; exact impl_numt3_big k W0 (by omega)
      · by_cases hb : k < 4294967296
        · rw [if_pos ⟨by omega, by omega, by omega, by show (k : Int) < 256 ^ 4; omega⟩]; exact impl_numt4 k W0 hb
        · rw [if_neg (fun h => by have : (k : Int) < 256 ^ 4 := h.2.2.2; omega)]; exact impl_numt4_big k W0 (by omega)
      · by_cases hb : k < 1099511627776
        · rw [if_pos ⟨by omega, by omega, by omega, by show (k : Int) < 256 ^ 5; omega⟩]; exact impl_numt5 k W0 hb
        · rw [if_neg (fun h => by have : (k : Int) < 256 ^ 5 := h.2.2.2; omega)]; exact impl_numt5_big k W0 (by omega)
      · by_cases hb : k < 281474976710656
        · rw [if_pos ⟨by omega, by omega, by omega, by show (k : Int) < 256 ^ 6; omega⟩]; exact impl_numt6 k W0 hb
        · rw [if_neg (fun h => by have : (k : Int) < 256 ^ 6 := h.2.2.2; omega)]; exact impl_numt6_big k W0 (by omega)
  · rw [if_neg (by omega)]; exact impl_numt_out n m W0 hw

end Go.Proofs.Ytkpajakangaekab
