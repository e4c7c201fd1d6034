import Derived.Test.YtjnobggefofjcacDoorRound
import Derived.Test.YtjnobggefofjcacDoorInputs
import Derived.Lib.LaidTab
import Derived.Deep.WholeRow
namespace Go.Proofs.YtjnobggefofjcacDoor
open Go.RowKit

/-- The numbers of the rounds. -/
def keys : Array (BitVec 32) := #[1116352408#32, 1899447441#32, 3049323471#32, 3921009573#32, 961987163#32, 1508970993#32, 2453635748#32, 2870763221#32, 3624381080#32, 310598401#32, 607225278#32, 1426881987#32, 1925078388#32, 2162078206#32, 2614888103#32, 3248222580#32, 3835390401#32, 4022224774#32, 264347078#32, 604807628#32, 770255983#32, 1249150122#32, 1555081692#32, 1996064986#32, 2554220882#32, 2821834349#32, 2952996808#32, 3210313671#32, 3336571891#32, 3584528711#32, 113926993#32, 338241895#32, 666307205#32, 773529912#32, 1294757372#32, 1396182291#32, 1695183700#32, 1986661051#32, 2177026350#32, 2456956037#32, 2730485921#32, 2820302411#32, 3259730800#32, 3345764771#32, 3516065817#32, 3600352804#32, 4094571909#32, 275423344#32, 430227734#32, 506948616#32, 659060556#32, 883997877#32, 958139571#32, 1322822218#32, 1537002063#32, 1747873779#32, 1955562222#32, 2024104815#32, 2227730452#32, 2361852424#32, 2428436474#32, 2756734187#32, 3204031479#32, 3329325298#32]
def keyInts : List Int := [1116352408, 1899447441, 3049323471, 3921009573, 961987163, 1508970993, 2453635748, 2870763221, 3624381080, 310598401, 607225278, 1426881987, 1925078388, 2162078206, 2614888103, 3248222580, 3835390401, 4022224774, 264347078, 604807628, 770255983, 1249150122, 1555081692, 1996064986, 2554220882, 2821834349, 2952996808, 3210313671, 3336571891, 3584528711, 113926993, 338241895, 666307205, 773529912, 1294757372, 1396182291, 1695183700, 1986661051, 2177026350, 2456956037, 2730485921, 2820302411, 3259730800, 3345764771, 3516065817, 3600352804, 4094571909, 275423344, 430227734, 506948616, 659060556, 883997877, 958139571, 1322822218, 1537002063, 1747873779, 1955562222, 2024104815, 2227730452, 2361852424, 2428436474, 2756734187, 3204031479, 3329325298]

/-- The first state. -/
def start : Array (BitVec 32) := #[1779033703#32, 3144134277#32, 1013904242#32, 2773480762#32, 1359893119#32, 2600822924#32, 528734635#32, 1541459225#32]
def startInts : List Int := [1779033703, 3144134277, 1013904242, 2773480762, 1359893119, 2600822924, 528734635, 1541459225]

theorem keys_size : keys.size = 64 := rfl
theorem start_size : start.size = 8 := rfl

theorem keyInts_get (i : Nat) (h : i < 64) : keyInts.getD i 0 = ((keys[i]!).toNat : Int) := by
  have : ∀ i : Fin 64, keyInts.getD i.val 0 = ((keys[i.val]!).toNat : Int) := by decide
  exact this ⟨i, h⟩

theorem startInts_get (i : Nat) (h : i < 8) : startInts.getD i 0 = ((start[i]!).toNat : Int) := by
  have : ∀ i : Fin 8, startInts.getD i.val 0 = ((start[i.val]!).toNat : Int) := by decide
  exact this ⟨i, h⟩

attribute [irreducible] keys start keyInts startInts

/-- The program's table of the rounds' numbers lies where it lay. -/
def Keys (W : World) : Prop := ∀ i, i < 64 → W.cell? ⟨2, i, none⟩ = some (u keys[i]!)

theorem Keys.below {W W' : World} (h : Keys W) (hb : Below W.heap.size W W') : Keys W' := fun i hi => by
  have hlt := World.block_lt_of_cell? _ _ (h i hi)
  rw [hb.cell hlt]; exact h i hi

theorem Keys.lt {W : World} (h : Keys W) : 2 < W.heap.size := World.block_lt_of_cell? _ _ (h 0 (by decide))

/-- One round. -/
def roundOf (d : Array (BitVec 32)) (i : BitVec 32) : Array (BitVec 32) :=
  #[low d[4]! d[5]! d[6]! d[7]! i + high d[0]! d[1]! d[2]!, d[0]!, d[1]!, d[2]!, d[3]! + low d[4]! d[5]! d[6]! d[7]! i, d[4]!, d[5]!, d[6]!]

theorem eight (d : Array (BitVec 32)) (h : d.size = 8) : d = #[d[0]!, d[1]!, d[2]!, d[3]!, d[4]!, d[5]!, d[6]!, d[7]!] := by
  apply Array.ext
  · simp [h]
  · intro i h1 h2
    match i, h1, h2 with
    | 0, h1, _ => simp [getElem!_pos d 0 h1]
    | 1, h1, _ => simp [getElem!_pos d 1 h1]
    | 2, h1, _ => simp [getElem!_pos d 2 h1]
    | 3, h1, _ => simp [getElem!_pos d 3 h1]
    | 4, h1, _ => simp [getElem!_pos d 4 h1]
    | 5, h1, _ => simp [getElem!_pos d 5 h1]
    | 6, h1, _ => simp [getElem!_pos d 6 h1]
    | 7, h1, _ => simp [getElem!_pos d 7 h1]
    | i + 8, h1, h2 => omega

/-- The state behind k rounds. -/
def rounds (h : Array (BitVec 32)) (s : ByteArray) : Nat → Array (BitVec 32)
  | 0 => h
  | k + 1 => roundOf (rounds h s k) ((spread s 48)[k]! + keys[k]!)

theorem rounds_size (h : Array (BitVec 32)) (s : ByteArray) (hh : h.size = 8) (k : Nat) : (rounds h s k).size = 8 := by
  cases k with
  | zero => exact hh
  | succ k => rw [rounds]; rfl

/-- h with the first k words of m added. -/
def addUp (h m : Array (BitVec 32)) : Nat → Array (BitVec 32)
  | 0 => h
  | k + 1 => (addUp h m k).setIfInBounds k ((addUp h m k)[k]! + m[k]!)

theorem addUp_size (h m : Array (BitVec 32)) (hh : h.size = 8) (k : Nat) : (addUp h m k).size = 8 := by
  induction k with
  | zero => exact hh
  | succ k ih => simp [addUp, ih]

theorem rounds_zero (h : Array (BitVec 32)) (s : ByteArray) : rounds h s 0 = h := by rw [rounds]
theorem rounds_succ (h : Array (BitVec 32)) (s : ByteArray) (k : Nat) : rounds h s (k + 1) = roundOf (rounds h s k) ((spread s 48)[k]! + keys[k]!) := by rw [rounds]
theorem addUp_zero (h m : Array (BitVec 32)) : addUp h m 0 = h := by rw [addUp]
theorem addUp_succ (h m : Array (BitVec 32)) (k : Nat) : addUp h m (k + 1) = (addUp h m k).setIfInBounds k ((addUp h m k)[k]! + m[k]!) := by rw [addUp]

/-- The state behind a block. -/
def blockOf (h : Array (BitVec 32)) (s : ByteArray) : Array (BitVec 32) := addUp h (rounds h s 64) 8

theorem blockOf_size (h : Array (BitVec 32)) (s : ByteArray) (hh : h.size = 8) : (blockOf h s).size = 8 := addUp_size _ _ hh 8

theorem eight_map (d : Array (BitVec 32)) (h : d.size = 8) : d.map u = #[u d[0]!, u d[1]!, u d[2]!, u d[3]!, u d[4]!, u d[5]!, u d[6]!, u d[7]!] := by
  have h1 := congrArg (Array.map u) (eight d h)
  rw [h1]
  simp only [List.map_toArray, List.map_cons, List.map_nil]

theorem roundOf_map (d : Array (BitVec 32)) (i : BitVec 32) : (roundOf d i).map u =
    #[u (low d[4]! d[5]! d[6]! d[7]! i + high d[0]! d[1]! d[2]!), u d[0]!, u d[1]!, u d[2]!, u (d[3]! + low d[4]! d[5]! d[6]! d[7]! i), u d[4]!, u d[5]!, u d[6]!] := by
  unfold roundOf
  simp only [List.map_toArray, List.map_cons, List.map_nil]

theorem impl_round' (d : Array (BitVec 32)) (hd : d.size = 8) (i : BitVec 32) (w : World) :
    Calls Tryd.prog 57 #[.agg (d.map u), u i] w fun x w' => x = .returned (.agg ((roundOf d i).map u)) ∧ Below w.heap.size w w' := by
  have h := impl_round d[0]! d[1]! d[2]! d[3]! d[4]! d[5]! d[6]! d[7]! i w
  rw [eight_map d hd, roundOf_map]
  exact h

attribute [irreducible] rounds addUp blockOf roundOf

theorem index_agg (t : TypeId) (ht : Tryd.prog.underlying t = some (.array 8 39)) (d : Array (BitVec 32)) (hd : d.size = 8) (n : Nat) (h : n < 8) (w : World) :
    (Instr.index t (.agg (d.map u)) (.int .i64 (n : Int))).run Tryd.prog w = .ok (u d[n]!) w := by
  have hi : n < (d.map u).size := by simp [hd]; exact h
  have hx : (d.map u)[n]? = some (u d[n]!) := by rw [Array.getElem?_map, Array.getElem?_eq_getElem (by omega), getElem!_pos d n (by omega)]; rfl
  simp [Instr.index, run_underlying ht, h, hd, asIntOf, part]

theorem zeros8 : (Array.replicate 8 (0 : BitVec 32)).map u = #[.int .u32 0, .int .u32 0, .int .u32 0, .int .u32 0, .int .u32 0, .int .u32 0, .int .u32 0, .int .u32 0] := by
  rw [Array.map_replicate]
  rfl

theorem size38 : (Tryd.prog.info? 42).map (·.size) = some 64 := by kernel_rfl
theorem size40 : (Tryd.prog.info? 67).map (·.size) = some 8 := by kernel_rfl

/-- A store of a whole array into the block that was made last, as the walk opens it. -/
theorem store_new (w : World) (t ty : TypeId) (d0 d : Array (BitVec 32)) (hs : d.size = d0.size) (_ht : ty = t) (hi : (Tryd.prog.info? t).map (·.size) = some d.size) :
    (storeCells ⟨w.heap.size, 0, none⟩ (List.map u d.toList) 0).run Tryd.prog (w.alloc (.cells (d0.map u) t)) = .ok () (w.alloc (.cells (d.map u) t)) := by
  have h := run_storeCells_new (P := Tryd.prog) w t (d0.map u) (d.map u) (by simpa using hi) (by simp [hs]) (all_one d)
  rwa [Array.toList_map] at h

/-- A load of a whole array, as the walk opens it. -/
theorem load_open {W : World} {g : Nat} {t : TypeId} {d : Array (BitVec 32)} (h : Blk W g t d) (hd : d.size = 8) :
    (loadCellsFrom ⟨g, 0, none⟩ 0 8 #[]).run Tryd.prog W = .ok (d.map u) W := h.loadFrom 8 hd

attribute [-simp] Tryd.isAgg42 Tryd.sizeOf42 Tryd.isAgg67 Tryd.sizeOf67

set_option maxHeartbeats 1000000 in
set_option maxRecDepth 100000 in
theorem impl_block (h : Array (BitVec 32)) (hh : h.size = 8) (s : ByteArray) (hs : s.size = 64) (w : World) (hk : Keys w) :
    Calls Tryd.prog 53 #[.agg (h.map u), .string s] w fun x w' => x = .returned (.agg ((blockOf h s).map u)) ∧ Below w.heap.size w w' := by
  have c36 := fun W => impl_inputs s W hs
  go_enter Tryd.func53, Tryd.ntmps53
  go_wp2_with (go_at_call 56; refine (c36 _).mono ?_; rintro e w1 ⟨rfl, hb1⟩)
  have hst := store_new w1 42 42 (Array.replicate 64 0) (spread s 48) (by rw [spread_size]; simp) rfl (by rw [spread_size]; exact size38)
  rw [zeros64] at hst
  simp only [Tryd.sizeOf42, Result.andThen, ↓reduceIte, spread_size, hst]
  rw [Oper.upon_skip]
  clear hst
  have hB0 : Below w.heap.size w ((w.alloc (.cells (h.map u) 67)).alloc (.cells ((Array.replicate 8 (0 : BitVec 32)).map u) 67)) := ((Below.refl _ _).alloc (Nat.le_refl _) _).alloc (by simp) _
  have hh0 : Blk ((w.alloc (.cells (h.map u) 67)).alloc (.cells ((Array.replicate 8 (0 : BitVec 32)).map u) 67)) w.heap.size 67 h := (Blk.new w 67 h).alloc _
  have hr0 : Blk ((w.alloc (.cells (h.map u) 67)).alloc (.cells ((Array.replicate 8 (0 : BitVec 32)).map u) 67)) (w.heap.size + 1) 67 (Array.replicate 8 0) := by
    have := Blk.new (w.alloc (.cells (h.map u) 67)) 67 (Array.replicate 8 0)
    rwa [World.size_alloc] at this
  rw [zeros8] at hB0 hh0 hr0
  have hg : w.heap.size + 2 ≤ w1.heap.size := by have := hb1.size; simpa using this
  have hB1 := (hB0.trans (hb1.mono (by simp; omega))).alloc (by omega) (.cells ((spread s 48).map u) 42)
  have hh1 := (hh0.below hb1 (by simp; omega)).alloc (.cells ((spread s 48).map u) 42)
  have hr1 := (hr0.below hb1 (by simp)).alloc (.cells ((spread s 48).map u) 42)
  have hi1 := Blk.new w1 42 (spread s 48)
  clear hB0 hh0 hr0 hb1
  generalize hW1 : w1.alloc (.cells ((spread s 48).map u) 42) = W1 at hB1 hh1 hr1 hi1 ⊢
  have hsz1 : w1.heap.size + 1 = W1.heap.size := by rw [← hW1]; simp
  clear hW1
  generalize w1.heap.size = g5 at hg hi1 hsz1 ⊢
  have hld := load_open hh1 hh
  have hst := store_new W1 67 67 (Array.replicate 8 0) h (by rw [hh]; simp) rfl (by rw [hh]; exact size40)
  rw [zeros8] at hst
  go_wp2_with (fail)
  simp only [Tryd.isAgg67, Tryd.sizeOf67, Result.andThen, ↓reduceIte, hld]
  rw [Oper.upon_value]
  go_wp2_with (fail)
  simp only [Tryd.sizeOf67, Result.andThen, ↓reduceIte, hst]
  rw [Oper.upon_skip]
  have hB2 := hB1.alloc (by omega) (.cells (h.map u) 67)
  have hh2 := hh1.alloc (.cells (h.map u) 67)
  have hr2 := hr1.alloc (.cells (h.map u) 67)
  have hi2 := hi1.alloc (.cells (h.map u) 67)
  have hm2 := Blk.new W1 67 h
  clear hld hst hB1 hh1 hr1 hi1
  generalize hW2 : W1.alloc (.cells (h.map u) 67) = W2 at hB2 hh2 hr2 hi2 hm2 ⊢
  have hsz2 : W1.heap.size + 1 = W2.heap.size := by rw [← hW2]; simp
  clear hW2
  generalize W1.heap.size = g6 at hsz1 hsz2 hm2 ⊢
  go_wp2_with (fail)
  go_loopw [13] (fun i wr => ∃ k : Nat, k ≤ 64 ∧ i = .int .i64 k ∧ Blk wr w.heap.size 67 h ∧ Blk wr (w.heap.size + 1) 67 (Array.replicate 8 0) ∧ Blk wr g5 42 (spread s 48) ∧ Blk wr g6 67 (rounds h s k) ∧ Below w.heap.size w wr) (fun i _ => 64 - (intOf i).toNat)
  case atStart => exact ⟨0, by omega, rfl, hh2, hr2, hi2, by rw [rounds_zero]; exact hm2, hB2⟩
  case round =>
    clear hB2 hh2 hr2 hi2 hm2 hsz2
    obtain ⟨k, hk64, rfl, hh3, hr3, hi3, hm3, hB3⟩ := hrel
    by_cases hlt : k < 64
    · have hks := hk.below hB3
      have c1 := hi3.cell k (by rw [spread_size]; omega)
      have c2 := hks k hlt
      have cld := load_open hm3 (rounds_size h s hh k)
      have c37 := fun W => impl_round' (rounds h s k) (rounds_size h s hh k) ((spread s 48)[k]! + keys[k]!) W
      have hnext := rounds_succ h s k
      obtain ⟨x, hx⟩ : ∃ x, (spread s 48)[k]! = x := ⟨_, rfl⟩
      obtain ⟨y, hy⟩ : ∃ y, keys[k]! = y := ⟨_, rfl⟩
      rw [hx] at c1
      rw [hy] at c2
      rw [hx, hy] at c37 hnext
      have a1 := u_addm x y
      generalize x + y = z at a1 c37 hnext
      have q : (0 : Int) ≤ (k : Int) ∧ (k : Int) < 64 := by omega
      go_wp2_with (fail)
      refine wp_region_still_tail 8 (by kernel_rfl) (by kernel_rfl) ?_
      change wpStill _ _ wr.drew (fun a' => wpList _ _ _ _ a' wr.drew) _ _
      have hh4 : Blk wr.drew w.heap.size 67 h := hh3
      have hr4 : Blk wr.drew (w.heap.size + 1) 67 (Array.replicate 8 0) := hr3
      have hi4 : Blk wr.drew g5 42 (spread s 48) := hi3
      have hm4 : Blk wr.drew g6 67 (rounds h s k) := hm3
      have hB4 : Below w.heap.size w wr.drew := hB3.drew
      have c1' : wr.drew.cell? ⟨g5, k, none⟩ = some (u x) := c1
      have c2' : wr.drew.cell? ⟨2, k, none⟩ = some (u y) := c2
      clear hh3 hr3 hi3 hm3 hB3 c1 c2 hks cld
      generalize wr.drew = W at hh4 hr4 hi4 hm4 hB4 c1' c2' ⊢
      have cld := load_open hm4 (rounds_size h s hh k)
      simp only [List.take_succ_cons, List.take_zero, List.drop_succ_cons, List.drop_zero]
      refine wpStill_step (fun K hK => ?_)
      go_simp
      simp only [Tryd.isAgg67, Tryd.sizeOf67, Result.andThen, ↓reduceIte, cld]
      go_simp
      refine hK _ ?_
      clear hK K
      iterate 7 still_step
      refine wpStill_nil ?_
      go_wp2_with (fail)
      simp only [a1]
      go_wp2_with (go_at_call 57; refine (c37 _).mono ?_; rintro e w4 ⟨rfl, hb4⟩)
      have hh5 := hh4.below hb4 hh4.lt
      have hr5 := hr4.below hb4 hr4.lt
      have hi5 := hi4.below hb4 hi4.lt
      have hm5 := hm4.below hb4 hm4.lt
      have hB5 := hB4.trans (hb4.mono hB4.size)
      clear hh4 hr4 hi4 hm4 hB4 c1' c2' cld hb4 c37 a1
      have hst := hm5.storeFrom (P := Tryd.prog) 67 (rounds h s (k + 1)) (by rw [rounds_size h s hh, rounds_size h s hh]) (by rw [rounds_size h s hh]; exact size40)
      have hsz : (rounds h s (k + 1)).size = 8 := rounds_size h s hh _
      have hm6 := hm5.setRow (rounds h s (k + 1))
      have hh6 := hh5.otherRow ((rounds h s (k + 1)).map u) (g' := g6) (by omega)
      have hr6 := hr5.otherRow ((rounds h s (k + 1)).map u) (g' := g6) (by omega)
      have hi6 := hi5.otherRow ((rounds h s (k + 1)).map u) (g' := g6) (by omega)
      have hB6 := below_setRow hB5 g6 (by omega) ((rounds h s (k + 1)).map u)
      rw [hnext] at hst hsz
      simp only [Array.toList_map] at hst
      go_wp2_with (fail)
      simp only [Tryd.sizeOf67, Result.andThen, ↓reduceIte, hsz, hst]
      rw [Oper.upon_skip]
      rw [← hnext]
      clear hst hsz hh5 hr5 hi5 hm5 hB5 hnext
      generalize w4.setRow g6 ((rounds h s (k + 1)).map u) = w6 at hm6 hh6 hr6 hi6 hB6 ⊢
      go_wp2_with (fail)
      go_roundw
      case rel => exact ⟨k + 1, by omega, by go_num, hh6, hr6, hi6, hm6, hB6⟩
      case measure => simp [intOf]; omega
    · obtain rfl : k = 64 := by omega
      rw [show ((64 : Nat) : Int) = (64 : Int) from rfl]
      have hld := load_open hm3 (rounds_size h s hh 64)
      go_wp2_with (fail)
      simp only [Tryd.isAgg67, Tryd.sizeOf67, Result.andThen, ↓reduceIte, hld]
      rw [Oper.upon_value]
      have hms := rounds_size h s hh 64
      have hbo : blockOf h s = addUp h (rounds h s 64) 8 := by unfold blockOf; rfl
      rw [show h = addUp h (rounds h s 64) 0 from (addUp_zero _ _).symm] at hh3
      generalize hm64 : rounds h s 64 = m at hms hbo hh3 ⊢
      clear hld hm3 hi3
      go_wp2_with (fail)
      go_loopw [27] (fun i wr => ∃ k : Nat, k ≤ 8 ∧ i = .int .i64 k ∧ Blk wr w.heap.size 67 (addUp h m k) ∧ Blk wr (w.heap.size + 1) 67 (Array.replicate 8 0) ∧ Below w.heap.size w wr) (fun i _ => 8 - (intOf i).toNat)
      case atStart => exact ⟨0, by omega, rfl, hh3, hr3, hB3⟩
      case round =>
        clear hh3 hr3 hB3
        obtain ⟨k, hk8, rfl, hh3, hr3, hB3⟩ := hrel
        by_cases hlt : k < 8
        · have c1 := hh3.cell k (by rw [addUp_size h m hh]; omega)
          have cf := hh3.frozen k
          have cx := index_agg 67 Tryd.underlying67 m hms k hlt
          have hnext := addUp_succ h m k
          obtain ⟨x, hx⟩ : ∃ x, (addUp h m k)[k]! = x := ⟨_, rfl⟩
          obtain ⟨y, hy⟩ : ∃ y, m[k]! = y := ⟨_, rfl⟩
          rw [hx] at c1
          rw [hy] at cx
          rw [hx, hy] at hnext
          have a1 := u_addm x y
          generalize x + y = z at a1 hnext
          have q : (0 : Int) ≤ (k : Int) ∧ (k : Int) < 8 := by omega
          go_wp2_with (fail)
          go_roundw
          case rel => exact ⟨k + 1, by omega, by go_num, by rw [hnext]; exact hh3.set k z, hr3.other _ _ (by simp), hB3.setCell (Nat.le_refl _) _⟩
          case measure => simp [intOf]; omega
        · obtain rfl : k = 8 := by omega
          rw [← hbo] at hh3
          clear hbo
          rw [show ((8 : Nat) : Int) = (8 : Int) from rfl]
          have hld := load_open hh3 (blockOf_size h s hh)
          go_wp2_with (fail)
          simp only [Tryd.isAgg67, Tryd.sizeOf67, Result.andThen, ↓reduceIte, hld]
          rw [Oper.upon_value]
          have hst := hr3.storeFrom (P := Tryd.prog) 67 (blockOf h s) (by rw [blockOf_size h s hh]; simp) (by simpa using size40)
          have hsz : (blockOf h s).size = 8 := blockOf_size h s hh
          have hrow : (wr.setRow (w.heap.size + 1) ((blockOf h s).map u)).heap[w.heap.size + 1]? = some (.cells ((blockOf h s).map u) 67 (0, 0)) := hr3.setRow _
          have hB4 := below_setRow hB3 (w.heap.size + 1) (by omega) ((blockOf h s).map u)
          simp only [Array.toList_map] at hst
          go_wp2_with (fail)
          simp only [Tryd.sizeOf67, Result.andThen, ↓reduceIte, hst]
          rw [Oper.upon_skip]
          go_wp2_with (fail)
          refine bodyPost_ret (v := .agg ((blockOf h s).map u)) ?_ rfl ⟨rfl, hB4⟩
          exact results_cell_row rfl _ _ (w.heap.size + 1) 67 _ (0, 0) _ rfl hrow Tryd.underlying67 rfl (by rw [Array.size_map, hsz]; exact size40)
end Go.Proofs.YtjnobggefofjcacDoor
