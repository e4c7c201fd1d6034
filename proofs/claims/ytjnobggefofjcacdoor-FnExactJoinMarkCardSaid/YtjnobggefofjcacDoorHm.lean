import Derived.Test.YtjnobggefofjcacDoorMark
import Derived.Test.YtjnobggefofjcacDoorCel
import Derived.Deep.RegionHeld3
import Derived.Lib.Hide
namespace Go.Proofs.YtjnobggefofjcacDoor
open Go.RowKit

theorem xored_zero (l : List UInt8) (m : UInt8) : xored l m 0 = l := by
  unfold xored; simp

theorem xorText_eq (s : ByteArray) (m : UInt8) : (⟨(xored s.data.toList m s.size).toArray⟩ : ByteArray) = xorText s m := by
  unfold xored xorText
  rw [List.take_of_length_le (by simp), List.drop_of_length_le (by simp)]
  simp

set_option maxHeartbeats 400000 in
theorem spec_xor (s : ByteArray) (m : UInt8) (w : World) (hs : s.size ≤ 1000000) :
    Calls Tryd.prog 26 #[.string s, .int .u8 (m.toNat : Int)] w fun e w' => e = .returned (.string (xorText s m)) ∧ Below w.heap.size w w' := by
  have hcv := fun W : World => run_bytes_of_string W 9 33 5 s Tryd.underlying9 Tryd.underlying33 Tryd.underlying5
  have hrow : BRow (w.alloc (.cells (bytesRow s (grownCap w s.size 0 5)) 5 ((bytesRow s (grownCap w s.size 0 5)).size, (bytesRow s (grownCap w s.size 0 5)).size + 1))).drew w.heap.size (.slice (some ⟨w.heap.size, 0, none⟩) s.size (grownCap w s.size 0 5)) (xored s.data.toList m 0) := by
    rw [xored_zero]
    exact BRow.of_string w s w.heap.size (Nat.le_refl _) (by unfold maxLen; omega)
  have hB : Below w.heap.size w (w.alloc (.cells (bytesRow s (grownCap w s.size 0 5)) 5 ((bytesRow s (grownCap w s.size 0 5)).size, (bytesRow s (grownCap w s.size 0 5)).size + 1))).drew := ((Below.refl _ _).alloc (Nat.le_refl _) _).drew
  have hfin := xorText_eq s m
  have hl : s.data.toList.length = s.size := by simp
  generalize xorText s m = fin at hfin ⊢
  go_enter Tryd.func26, Tryd.ntmps26
  go_wp2_with (fail)
  clear hcv
  generalize (w.alloc (.cells (bytesRow s (grownCap w s.size 0 5)) 5 ((bytesRow s (grownCap w s.size 0 5)).size, (bytesRow s (grownCap w s.size 0 5)).size + 1))).drew = W1 at hrow hB ⊢
  generalize grownCap w s.size 0 5 = cap at hrow ⊢
  go_loopw [6] (fun i wr => ∃ k : Nat, k ≤ s.size ∧ i = .int .i64 k ∧ BRow wr w.heap.size (.slice (some ⟨w.heap.size, 0, none⟩) s.size cap) (xored s.data.toList m k) ∧ Below w.heap.size w wr) (fun i _ => s.size - (intOf i).toNat)
  case atStart => exact ⟨0, by omega, rfl, hrow, hB⟩
  case round =>
    clear hrow hB
    obtain ⟨k, hk, rfl, hb, hB⟩ := hrel
    by_cases hlt : k < s.size
    · have q : (k : Int) < (s.size : Int) := by omega
      have hk2 : k < s.data.toList.length := by rw [hl]; exact hlt
      have hsucc := xored_succ s.data.toList m k hk2
      have hxl := xored_length s.data.toList m k
      have hc := hb.cell (by rw [hxl, hl]) k (by rw [hxl]; exact hk2)
      rw [xored_get s.data.toList m k hk2] at hc
      have hf := hb.frozen k (by rw [hxl]; exact hk2)
      have hset := hb.set k (s.data.toList[k] ^^^ m)
      rw [← hsucc] at hset
      have hx := bits_xor8 s.data.toList[k] m
      unfold cb at hc hset
      generalize s.data.toList[k] ^^^ m = y at hx hset
      generalize s.data.toList[k] = x at hx hc
      clear hsucc hxl hb
      go_wp2_with (fail)
      go_roundw
      case rel => exact ⟨k + 1, by omega, by go_num, hset, hB.setCell (Nat.le_refl _) _⟩
      case measure => simp [intOf]; omega
    · obtain rfl : k = s.size := by omega
      have q : ¬ ((s.size : Int) < (s.size : Int)) := by omega
      have hcv := hb.conv
      rw [hfin] at hcv
      clear hfin
      go_wp2_with (fail)
      go_ret
      exact ⟨rfl, hB⟩

set_option maxHeartbeats 400000 in
theorem impl_masked (s : ByteArray) (m : UInt8) (w : World) (hs : s.size ≤ 1000000) :
    Calls Tryd.prog 45 #[.string s, .int .u8 (m.toNat : Int)] w fun e w' => e = .returned (.string (xorText s m)) ∧ Below w.heap.size w w' := by
  have hcv := fun W : World => run_bytes_of_string W 9 33 5 s Tryd.underlying9 Tryd.underlying33 Tryd.underlying5
  have hrow : BRow (w.alloc (.cells (bytesRow s (grownCap w s.size 0 5)) 5 ((bytesRow s (grownCap w s.size 0 5)).size, (bytesRow s (grownCap w s.size 0 5)).size + 1))).drew w.heap.size (.slice (some ⟨w.heap.size, 0, none⟩) s.size (grownCap w s.size 0 5)) (xored s.data.toList m 0) := by
    rw [xored_zero]
    exact BRow.of_string w s w.heap.size (Nat.le_refl _) (by unfold maxLen; omega)
  have hB : Below w.heap.size w (w.alloc (.cells (bytesRow s (grownCap w s.size 0 5)) 5 ((bytesRow s (grownCap w s.size 0 5)).size, (bytesRow s (grownCap w s.size 0 5)).size + 1))).drew := ((Below.refl _ _).alloc (Nat.le_refl _) _).drew
  have hfin := xorText_eq s m
  have hl : s.data.toList.length = s.size := by simp
  generalize xorText s m = fin at hfin ⊢
  go_enter Tryd.func45, Tryd.ntmps45
  go_wp2_with (fail)
  clear hcv
  generalize (w.alloc (.cells (bytesRow s (grownCap w s.size 0 5)) 5 ((bytesRow s (grownCap w s.size 0 5)).size, (bytesRow s (grownCap w s.size 0 5)).size + 1))).drew = W1 at hrow hB ⊢
  generalize grownCap w s.size 0 5 = cap at hrow ⊢
  go_loopw [11] (fun i wr => ∃ k : Nat, k ≤ s.size ∧ i = .int .i64 k ∧ BRow wr w.heap.size (.slice (some ⟨w.heap.size, 0, none⟩) s.size cap) (xored s.data.toList m k) ∧ Below w.heap.size w wr) (fun i _ => s.size - (intOf i).toNat)
  case atStart => exact ⟨0, by omega, rfl, hrow, hB⟩
  case round =>
    clear hrow hB
    obtain ⟨k, hk, rfl, hb, hB⟩ := hrel
    by_cases hlt : k < s.size
    · have q : (k : Int) < (s.size : Int) := by omega
      have hk2 : k < s.data.toList.length := by rw [hl]; exact hlt
      have hsucc := xored_succ s.data.toList m k hk2
      have hxl := xored_length s.data.toList m k
      have hc := hb.cell (by rw [hxl, hl]) k (by rw [hxl]; exact hk2)
      rw [xored_get s.data.toList m k hk2] at hc
      have hf := hb.frozen k (by rw [hxl]; exact hk2)
      have hset := hb.set k (s.data.toList[k] ^^^ m)
      rw [← hsucc] at hset
      have hx := bits_xor8 s.data.toList[k] m
      unfold cb at hc hset
      generalize s.data.toList[k] ^^^ m = y at hx hset
      generalize s.data.toList[k] = x at hx hc
      clear hsucc hxl hb
      go_wp2_with (fail)
      go_roundw
      case rel => exact ⟨k + 1, by omega, by go_num, hset, hB.setCell (Nat.le_refl _) _⟩
      case measure => simp [intOf]; omega
    · obtain rfl : k = s.size := by omega
      have q : ¬ ((s.size : Int) < (s.size : Int)) := by omega
      have hcv := hb.conv
      rw [hfin] at hcv
      clear hfin
      go_wp2_with (fail)
      go_ret
      exact ⟨rfl, hB⟩

theorem spec_zeros (n : Int) (w : World) (h0 : 0 ≤ n) (hn : n ≤ 1000000) :
    Calls Tryd.prog 30 #[.int .i64 n, .int .u8 0] w fun e w' => e = .returned (.string ⟨(List.replicate n.toNat 0).toArray⟩) ∧ Below w.heap.size w w' := by
  have h := spec_long n.toNat 0 w (by omega)
  rw [show ((n.toNat : Nat) : Int) = n by omega] at h
  exact h

theorem fill64_eq (s : ByteArray) : s ++ (⟨(List.replicate (64 - s.size) 0).toArray⟩ : ByteArray) = fill64 s := by
  unfold fill64
  apply ByteArray.ext
  apply Array.toList_inj.1
  simp

theorem spec_key (s : ByteArray) (w : World) (hs : s.size ≤ 1048576) :
    Calls Tryd.prog 24 #[.string s] w fun e w' => e = .returned (.string (keyOf s)) ∧ Below w.heap.size w w' := by
  by_cases h : 64 < s.size
  · have q : (64 : Int) < (s.size : Int) := by omega
    have c1 := fun W => spec_digest s W (by omega)
    have hz := digestOf_size s
    have hk : keyOf s = digestOf s ++ (⟨(List.replicate (64 - (digestOf s).size) 0).toArray⟩ : ByteArray) := by unfold keyOf; rw [if_pos h, fill64_eq]
    have c2 := fun W => spec_zeros (64 - ((digestOf s).size : Int)) W (by omega) (by omega)
    rw [show (64 - ((digestOf s).size : Int)).toNat = 64 - (digestOf s).size by omega] at c2
    have hzz : (⟨(List.replicate (64 - (digestOf s).size) 0).toArray⟩ : ByteArray).size = 64 - (digestOf s).size := by show (List.replicate (64 - (digestOf s).size) (0 : UInt8)).toArray.size = _; simp
    have b1 : (digestOf s).size + (⟨(List.replicate (64 - (digestOf s).size) 0).toArray⟩ : ByteArray).size ≤ 9223372036854775807 := by omega
    clear hzz
    generalize (⟨(List.replicate (64 - (digestOf s).size) 0).toArray⟩ : ByteArray) = z at c2 hk b1
    have HK := Lib.hid hk
    clear hk
    generalize digestOf s = t at c1 hz c2 HK b1
    have hz1 : (t.size : Int) ≤ 32 := by omega
    have HZ := Lib.hid hz
    clear hz
    go_enter Tryd.func24, Tryd.ntmps24
    go_wp2_with (first
      | (go_at_call 25; refine (c1 _).mono ?_; rintro e w1 ⟨rfl, hb1⟩)
      | (go_at_call 30; refine (c2 _).mono ?_; rintro e w2 ⟨rfl, hb2⟩))
    go_ret
    rw [HK.out]
    exact ⟨rfl, hb1.trans (hb2.mono hb1.size)⟩
  · have q : ¬ (64 : Int) < (s.size : Int) := by omega
    have hk : keyOf s = s ++ (⟨(List.replicate (64 - s.size) 0).toArray⟩ : ByteArray) := by unfold keyOf; rw [if_neg h, fill64_eq]
    have c2 := fun W => spec_zeros (64 - (s.size : Int)) W (by omega) (by omega)
    rw [show (64 - (s.size : Int)).toNat = 64 - s.size by omega] at c2
    have hzz : (⟨(List.replicate (64 - s.size) 0).toArray⟩ : ByteArray).size = 64 - s.size := by show (List.replicate (64 - s.size) (0 : UInt8)).toArray.size = _; simp
    have b1 : s.size + (⟨(List.replicate (64 - s.size) 0).toArray⟩ : ByteArray).size ≤ 9223372036854775807 := by omega
    clear hzz
    generalize (⟨(List.replicate (64 - s.size) 0).toArray⟩ : ByteArray) = z at c2 hk b1
    have HK := Lib.hid hk
    clear hk
    go_enter Tryd.func24, Tryd.ntmps24
    go_wp2_with (go_at_call 30; refine (c2 _).mono ?_; rintro e w2 ⟨rfl, hb2⟩)
    go_ret
    rw [HK.out]
    exact ⟨rfl, hb2⟩

theorem spec_hmac (k t : ByteArray) (w : World) (hk : k.size ≤ 1048576) (ht : t.size ≤ 1100000) :
    Calls Tryd.prog 17 #[.string k, .string t] w fun e w' => e = .returned (.string (hmacOf k t)) ∧ Below w.heap.size w w' := by
  have c1 := fun W => spec_key k W hk
  have hks := keyOf_size k
  have c2 := fun W => spec_xor (keyOf k) 92 W (by omega)
  have c3 := fun W => spec_xor (keyOf k) 54 W (by omega)
  change ∀ W, Calls Tryd.prog 26 #[.string (keyOf k), .int .u8 92] W _ at c2
  change ∀ W, Calls Tryd.prog 26 #[.string (keyOf k), .int .u8 54] W _ at c3
  have s2 : (xorText (keyOf k) 92).size = 64 := by rw [xorText_size, hks]
  have s3 : (xorText (keyOf k) 54).size = 64 := by rw [xorText_size, hks]
  have hh : hmacOf k t = digestOf (xorText (keyOf k) 92 ++ digestOf (xorText (keyOf k) 54 ++ t)) := rfl
  have c4 := fun W => spec_digest (xorText (keyOf k) 54 ++ t) W (by rw [ByteArray.size_append]; omega)
  have c5 := fun W => spec_digest (xorText (keyOf k) 92 ++ digestOf (xorText (keyOf k) 54 ++ t)) W (by rw [ByteArray.size_append, digestOf_size]; omega)
  rw [← hh] at c5
  have b1 : (xorText (keyOf k) 54).size + t.size ≤ 9223372036854775807 := by omega
  have b2 : (xorText (keyOf k) 92).size + (digestOf (xorText (keyOf k) 54 ++ t)).size ≤ 9223372036854775807 := by rw [digestOf_size]; omega
  clear hks hh s2 s3
  generalize digestOf (xorText (keyOf k) 54 ++ t) = d1 at c4 c5 b2
  generalize xorText (keyOf k) 54 = x1 at c3 c4 b1
  generalize xorText (keyOf k) 92 = x2 at c2 c5 b2
  generalize hmacOf k t = r at c5
  generalize keyOf k = kk at c1 c2 c3
  go_enter Tryd.func17, Tryd.ntmps17
  go_wp2_with (fail)
  with_reducible refine (c1 _).mono ?_
  rintro e w1 ⟨rfl, hb1⟩
  go_wp2_with (fail)
  with_reducible refine (c2 _).mono ?_
  rintro e w2 ⟨rfl, hb2⟩
  go_wp2_with (fail)
  with_reducible refine (c3 _).mono ?_
  rintro e w3 ⟨rfl, hb3⟩
  go_wp2_with (fail)
  with_reducible refine (c4 _).mono ?_
  rintro e w4 ⟨rfl, hb4⟩
  go_wp2_with (fail)
  with_reducible refine (c5 _).mono ?_
  rintro e w5 ⟨rfl, hb5⟩
  go_wp2_with (fail)
  go_ret
  have h2 := hb1.trans (hb2.mono hb1.size)
  have h3 := h2.trans (hb3.mono h2.size)
  have h4 := h3.trans (hb4.mono h3.size)
  exact ⟨rfl, h4.trans (hb5.mono h4.size)⟩

theorem impl_sum (f t : ByteArray) (w : World) (hf : f.size + t.size ≤ 1500000) (hk : Keys w) (hst : Starts w) :
    Calls Tryd.prog 46 #[.agg #[.string f], .string t] w fun e w' => e = .returned (.string (digestOf (f ++ t))) ∧ Below w.heap.size w w' := by
  have b1 : f.size + t.size ≤ 9223372036854775807 := by omega
  have hb : Below w.heap.size w (w.alloc (.cells #[.string f] 48)) := (Below.refl _ _).alloc (Nat.le_refl _) _
  have c1 := impl_digest (f ++ t) (w.alloc (.cells #[.string f] 48)) (by rw [ByteArray.size_append]; omega) (hk.below hb) (hst.below hb)
  generalize digestOf (f ++ t) = r at c1
  go_enter Tryd.func46, Tryd.ntmps46
  go_wp2_with (fail)
  with_reducible refine c1.mono ?_
  rintro e w1 ⟨rfl, hb1⟩
  go_wp2_with (fail)
  go_ret
  exact ⟨rfl, hb.trans (hb1.mono hb.size)⟩

/-- make of 64 bytes, then copy of a text that fits. -/
theorem fill_steps (t : ByteArray) (ht : t.size ≤ 64) (W : World) (z : Array Value) (hz : z = (Array.replicate 64 (0 : UInt8)).map cb) :
    ∃ row : Array Value, (Builtin.copy_ #[33, 9] 3 #[.slice (some ⟨W.heap.size, 0, none⟩) 64 64, .string t]).run Tryd.prog (W.alloc (.cells z 5)) = .ok (goInt t.size) ((W.alloc (.cells z 5)).setRow W.heap.size row) ∧
      (convert 33 9 (.slice (some ⟨W.heap.size, 0, none⟩) 64 64)).run Tryd.prog ((W.alloc (.cells z 5)).setRow W.heap.size row) = .ok (.string (fill64 t)) ((W.alloc (.cells z 5)).setRow W.heap.size row) ∧
      Below W.heap.size W ((W.alloc (.cells z 5)).setRow W.heap.size row) := by
  have hg : (W.alloc (.cells z 5)).heap[W.heap.size]? = some (.cells z 5 (0, 0)) := by
    show (W.heap.push _)[W.heap.size]? = _
    simp
  have hzs : z.size = 64 := by rw [hz]; simp
  have hl : t.data.toList.length = t.size := by simp
  have hs5 : (Tryd.prog.info? 5).map (·.size) = some 1 := by kernel_rfl
  have hcp := Lib.run_copy_row_string (P := Tryd.prog) (W.alloc (.cells z 5)) 33 9 3 5 W.heap.size 0 64 64 t z 5 Tryd.underlying33 hs5 hg ht (by omega)
  have hrow : (z.toList.take 0 ++ Lib.byteCells t.data.toList ++ z.toList.drop (0 + t.size)).toArray = (fill64 t).data.map cb := by
    unfold fill64
    apply Array.toList_inj.1
    rw [hz]
    simp only [List.take_zero, List.nil_append, Nat.zero_add, Array.toList_map, List.map_append, Array.toList_replicate, List.map_replicate, List.drop_replicate]
    rfl
  rw [hrow] at hcp
  have hb : BBlk ((W.alloc (.cells z 5)).setRow W.heap.size ((fill64 t).data.map cb)) W.heap.size (fill64 t).data := setRow_heap _ _ _ _ _ _ hg
  refine ⟨(fill64 t).data.map cb, hcp, ?_, below_setRow ((Below.refl _ _).alloc (Nat.le_refl _) _) _ (Nat.le_refl _) _⟩
  have h := hb.conv 64 (fill64_size t ht)
  exact h

theorem impl_key (s : ByteArray) (w : World) (hs : s.size ≤ 1048576) (hk : Keys w) (hst : Starts w) :
    Calls Tryd.prog 44 #[.string s] w fun e w' => e = .returned (.string (keyOf s)) ∧ Below w.heap.size w w' := by
  have hmk := makeRow 64 (by omega)
  obtain ⟨z, hz⟩ : ∃ z : Array Value, z = (Array.replicate 64 (0 : UInt8)).map cb := ⟨_, rfl⟩
  rw [← hz] at hmk
  change ∀ W, (Instr.makeSlice 33 (.int .i64 64) (.int .i64 64)).run Tryd.prog W = _ at hmk
  have HZ := Lib.hid hz
  clear hz
  by_cases h : 64 < s.size
  · have q : (64 : Int) < (s.size : Int) := by omega
    have c1 := impl_digest s w (by omega) hk hst
    have e1 : fill64 (digestOf s) = keyOf s := by unfold keyOf; rw [if_pos h]
    have h32 : (digestOf s).size ≤ 64 := by rw [digestOf_size]; omega
    have E1 := Lib.hid e1
    clear e1
    generalize digestOf s = t at c1 E1 h32
    go_enter Tryd.func44, Tryd.ntmps44
    go_wp2_with (fail)
    with_reducible refine c1.mono ?_
    rintro e w1 ⟨rfl, hb1⟩
    obtain ⟨row, hcp, hcv, hbf⟩ := fill_steps t h32 w1 z HZ.out
    rw [E1.out] at hcv
    go_wp2_with (fail)
    go_ret
    exact ⟨rfl, hb1.trans (hbf.mono hb1.size)⟩
  · have q : ¬ (64 : Int) < (s.size : Int) := by omega
    have e1 : fill64 s = keyOf s := by unfold keyOf; rw [if_neg h]
    obtain ⟨row, hcp, hcv, hbf⟩ := fill_steps s (by omega) w z HZ.out
    rw [e1] at hcv
    clear e1
    go_enter Tryd.func44, Tryd.ntmps44
    go_wp2_with (fail)
    go_ret
    exact ⟨rfl, hbf⟩

theorem impl_keyed (s : ByteArray) (w : World) (hs : s.size ≤ 1048576) (hk : Keys w) (hst : Starts w) :
    Calls Tryd.prog 37 #[.string s] w fun e w' => e = .returned (.agg #[.string (xorText (keyOf s) 54), .string (xorText (keyOf s) 92)]) ∧ Below w.heap.size w w' := by
  have hks := keyOf_size s
  have c2 := fun W => impl_masked (keyOf s) 92 W (by omega)
  have c3 := fun W => impl_masked (keyOf s) 54 W (by omega)
  change ∀ W, Calls Tryd.prog 45 #[.string (keyOf s), .int .u8 92] W _ at c2
  change ∀ W, Calls Tryd.prog 45 #[.string (keyOf s), .int .u8 54] W _ at c3
  clear hks
  have c1 := fun W a b => impl_key s W hs a b
  go_enter Tryd.func37, Tryd.ntmps37
  go_wp2_with (fail)
  have hB0 : ∀ o, Below w.heap.size w (w.alloc o) := fun o => (Below.refl _ _).alloc (Nat.le_refl _) o
  with_reducible refine (c1 _ (hk.below (hB0 _)) (hst.below (hB0 _))).mono ?_
  rintro e w1 ⟨rfl, hb1⟩
  go_wp2_with (fail)
  with_reducible refine (c3 _).mono ?_
  rintro e w2 ⟨rfl, hb2⟩
  go_wp2_with (fail)
  with_reducible refine (c2 _).mono ?_
  rintro e w3 ⟨rfl, hb3⟩
  have hblk : Cel w3 w.heap.size 50 #[.string ⟨#[]⟩, .string ⟨#[]⟩] := (((Cel.new _ _ _).kept hb1).kept hb2).kept hb3
  have d0 : w3.cell? ⟨w.heap.size, 0, none⟩ = some (.string ⟨#[]⟩) := hblk.cell 0
  have d1 : w3.cell? ⟨w.heap.size, 1, none⟩ = some (.string ⟨#[]⟩) := hblk.cell 1
  have f0 := hblk.frozen
  have hB : Below w.heap.size w w3 := Below.then_ (Below.then_ (Below.then_ (hB0 _) hb1) hb2) hb3
  clear hb1 hb2 hb3
  go_wp2_with (fail)
  generalize xorText (keyOf s) 54 = x1
  generalize xorText (keyOf s) 92 = x2
  have hblk2 := (hblk.set 0 (.string x1)).set 1 (.string x2)
  refine bodyPost_ret (v := .agg #[.string x1, .string x2]) ?_ rfl ⟨rfl, (hB.setCell (Nat.le_refl _) _).setCell (Nat.le_refl _) _⟩
  exact hblk2.result rfl _ rfl Tryd.underlying50 rfl (by kernel_rfl)

theorem mark_keep {g : Nat} {a b : Value} {W W' : World} (h : Keys W ∧ Starts W ∧ W.cell? ⟨g, 0, none⟩ = some a ∧ W.cell? ⟨g, 1, none⟩ = some b) (hb : Below W.heap.size W W') :
    Keys W' ∧ Starts W' ∧ W'.cell? ⟨g, 0, none⟩ = some a ∧ W'.cell? ⟨g, 1, none⟩ = some b := by
  obtain ⟨h1, h2, h3, h4⟩ := h
  exact ⟨h1.below hb, h2.below hb, by rw [hb.cell (World.block_lt_of_cell? _ _ h3)]; exact h3, by rw [hb.cell (World.block_lt_of_cell? _ _ h4)]; exact h4⟩

theorem impl_mark (x1 x2 t : ByteArray) (w : World) (h1 : x1.size = 64) (h2 : x2.size = 64) (ht : t.size ≤ 1100000) (hk : Keys w) (hst : Starts w) :
    Calls Tryd.prog 38 #[.agg #[.string x1, .string x2], .string t] w fun e w' => e = .returned (.string (digestOf (x2 ++ digestOf (x1 ++ t)))) ∧ Below w.heap.size w w' := by
  have c1 := fun W a b => impl_sum x1 t W (by omega) a b
  have c2 := fun W a b => impl_sum x2 (digestOf (x1 ++ t)) W (by rw [digestOf_size]; omega) a b
  generalize digestOf (x2 ++ digestOf (x1 ++ t)) = r2 at c2 ⊢
  generalize digestOf (x1 ++ t) = r1 at c1 c2
  have hblk : Cel (w.alloc (.cells #[.string x1, .string x2] 50)) w.heap.size 50 #[.string x1, .string x2] := Cel.new _ _ _
  have hB := below_new w (.cells #[.string x1, .string x2] 50)
  clear h1 h2
  go_enter Tryd.func38, Tryd.ntmps38
  go_wp2_with (fail)
  have hS : Keys (w.alloc (.cells #[.string x1, .string x2] 50)) ∧ Starts (w.alloc (.cells #[.string x1, .string x2] 50)) ∧ (w.alloc (.cells #[.string x1, .string x2] 50)).cell? ⟨w.heap.size, 0, none⟩ = some (.string x1) ∧ (w.alloc (.cells #[.string x1, .string x2] 50)).cell? ⟨w.heap.size, 1, none⟩ = some (.string x2) :=
    ⟨hk.below hB, hst.below hB, hblk.cell 0, hblk.cell 1⟩
  clear hblk
  generalize w.alloc (.cells #[.string x1, .string x2] 50) = W1 at hS hB ⊢
  go_region_held3 (fun W => Keys W ∧ Starts W ∧ W.cell? ⟨w.heap.size, 0, none⟩ = some (.string x1) ∧ W.cell? ⟨w.heap.size, 1, none⟩ = some (.string x2))
    (first | exact hS | exact mark_keep (by assumption) (by assumption) | go_keep)
    (first
      | (go_at_call 46; with_reducible refine (c1 _ ?_ ?_).mono ?_; (simp only [*]); (simp only [*]); rintro e w2 ⟨rfl, hb2⟩)
      | (go_at_call 46; with_reducible refine (c2 _ ?_ ?_).mono ?_; (simp only [*]); (simp only [*]); rintro e w3 ⟨rfl, hb3⟩))
  go_wp2_with (fail)
  go_ret
  exact ⟨rfl, Below.then_ (Below.then_ hB.drew hb2) hb3⟩

theorem impl_hmac (k t : ByteArray) (w : World) (hks : k.size ≤ 1048576) (ht : t.size ≤ 1100000) (hk : Keys w) (hst : Starts w) :
    Calls Tryd.prog 29 #[.string k, .string t] w fun e w' => e = .returned (.string (hmacOf k t)) ∧ Below w.heap.size w w' := by
  have c1 := impl_keyed k w hks hk hst
  have c2 := fun W a b => impl_mark (xorText (keyOf k) 54) (xorText (keyOf k) 92) t W (by rw [xorText_size, keyOf_size]) (by rw [xorText_size, keyOf_size]) ht a b
  have hh : hmacOf k t = digestOf (xorText (keyOf k) 92 ++ digestOf (xorText (keyOf k) 54 ++ t)) := rfl
  rw [← hh] at c2
  clear hh
  generalize hmacOf k t = r at c2 ⊢
  generalize xorText (keyOf k) 54 = x1 at c1 c2
  generalize xorText (keyOf k) 92 = x2 at c1 c2
  go_enter Tryd.func29, Tryd.ntmps29
  go_wp2_with (fail)
  with_reducible refine c1.mono ?_
  rintro e w1 ⟨rfl, hb1⟩
  go_wp2_with (fail)
  with_reducible refine (c2 _ (hk.below hb1) (hst.below hb1)).mono ?_
  rintro e w2 ⟨rfl, hb2⟩
  go_wp2_with (fail)
  go_ret
  exact ⟨rfl, Below.then_ hb1 hb2⟩
end Go.Proofs.YtjnobggefofjcacDoor
