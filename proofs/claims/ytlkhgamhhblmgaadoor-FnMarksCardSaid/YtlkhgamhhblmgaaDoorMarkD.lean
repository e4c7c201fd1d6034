import Derived.Test.YtlkhgamhhblmgaaDoorDrT
import Derived.Test.YtlkhgamhhblmgaaDoorLaneG
import Derived.Deep.RegionHeld3
import Derived.Deep.RegionLawGrows
namespace Go.Proofs.YtlkhgamhhblmgaaDoor
open Go.RowKit

/-- One of a list of texts. -/
theorem pick_str (g : Nat) (v : Value) (n : Nat) (w : World) (hd : Dr w g v n) (b cap : Nat) (zs : List ByteArray) (hc : Cel w b 9 (zs.map Value.string).toArray) (hb : b ≠ g) (h0 : 0 < zs.length) (hl : zs.length ≤ 1000) :
    Calls Tryd.prog 68 #[.pointer (some ⟨g, 0, none⟩), .slice (some ⟨b, 0, none⟩) zs.length cap] w fun e w' => ∃ j : Fin zs.length, e = .returned (.string zs[j]) ∧ Dr w' g v n ∧ Only g w w' := by
  have cb := below_dr g v n zs.length w hd h0 (by omega)
  go_enter Tryd.func68, Tryd.ntmps68
  go_wp2_with (fail)
  with_reducible refine cb.mono ?_
  rintro e w1 ⟨r, hr, rfl, d1, o1⟩
  have hcell : w1.cell? ⟨b, r, none⟩ = some (.string (zs[r]'hr)) := by
    rw [(hc.only o1 hb).cell r]
    simp [hr]
  have q : (r : Int) < (zs.length : Int) := by omega
  have q0 : (0 : Int) ≤ (r : Int) := by omega
  go_wp2_with (fail)
  go_ret
  exact ⟨⟨r, hr⟩, rfl, d1, o1⟩

def keyLens : List Int := [0, 1, 20, 32, 63, 64, 65, 100]

set_option maxHeartbeats 1000000 in
/-- A drawn key. -/
theorem key_draw (g : Nat) (v : Value) (n : Nat) (w : World) (hd : Dr w g v n) :
    Calls Tryd.prog 57 #[.pointer (some ⟨g, 0, none⟩)] w fun e w' => ∃ L i : Nat, (L : Int) ∈ keyLens ∧ i < 256 ∧ e = .returned (.string (keyB L (bv i))) ∧ Dr w' g v n ∧ Grew g w w' := by
  have hgw := hd.blk
  have hnb := below_new w (.cells (keyLens.map (Value.int .i64)).toArray 3)
  have hd0 := hd.kept hnb
  have hc := Cel.new w 3 (keyLens.map (Value.int .i64)).toArray
  have hG : Grew g w (w.alloc (.cells (keyLens.map (Value.int .i64)).toArray 3)) := Grew.of_below hnb (Nat.le_refl _)
  have cp := pick_int g v n _ hd0 w.heap.size 8 keyLens hc (by omega) (by decide) (by decide)
  go_enter Tryd.func57, Tryd.ntmps57
  go_wp2_with (fail)
  refine cp.mono ?_
  rintro e w1 ⟨j, rfl, d1, o1⟩
  have hj : keyLens[j] ∈ keyLens := List.getElem_mem _
  have hb1 : ∀ z ∈ keyLens, 0 ≤ z ∧ z ≤ 100 := by decide
  have hb2 := hb1 _ hj
  generalize keyLens[j] = z at hj hb2 ⊢
  obtain ⟨L, rfl⟩ : ∃ L : Nat, z = (L : Int) := ⟨z.toNat, by omega⟩
  have cb := byte_dr g v n w1 d1
  go_wp2_with (fail)
  with_reducible refine cb.mono ?_
  rintro e w2 ⟨r, hr, rfl, d2, o2⟩
  have hwr : IntKind.u8.wrap (r : Int) = ((bv r).toNat : Int) := by
    rw [IntWalk.u8_in _ ⟨by omega, by omega⟩]
    unfold bv
    rw [UInt8.toNat_ofNat']
    omega
  have cl := fun W => spec_long L (bv r) W (by omega)
  go_wp2_with (fail)
  with_reducible refine (cl _).mono ?_
  rintro e w3 ⟨rfl, hb3⟩
  go_wp2_with (fail)
  go_ret
  exact ⟨L, r, hj, by omega, rfl, d2.kept hb3, ((hG.trans o1.grew).trans o2.grew).trans (Grew.of_below hb3 (Nat.le_refl _))⟩

def preS : List ByteArray := [⟨(pre 0).toArray⟩, ⟨(pre 1).toArray⟩, ⟨(pre 2).toArray⟩, ⟨(pre 3).toArray⟩]

theorem pre_at : ∀ j : Fin preS.length, preS[j] = ⟨(pre j.val).toArray⟩ := by decide
theorem pre_len (p : Nat) : (pre p).length ≤ 28 := by
  unfold pre
  split <;> decide

set_option maxHeartbeats 1000000 in
/-- A drawn text. -/
theorem text_draw (g : Nat) (v : Value) (n : Nat) (w : World) (hd : Dr w g v n) :
    Calls Tryd.prog 58 #[.pointer (some ⟨g, 0, none⟩)] w fun e w' => ∃ p m : Nat, p < 4 ∧ m < 70 ∧ e = .returned (.string ⟨(txt p m).toArray⟩) ∧ Dr w' g v n ∧ Grew g w w' := by
  have hgw := hd.blk
  have hnb := below_new w (.cells (preS.map Value.string).toArray 9)
  have hd0 := hd.kept hnb
  have hc := Cel.new w 9 (preS.map Value.string).toArray
  have hG : Grew g w (w.alloc (.cells (preS.map Value.string).toArray 9)) := Grew.of_below hnb (Nat.le_refl _)
  have cp := pick_str g v n _ hd0 w.heap.size 4 preS hc (by omega) (by decide) (by decide)
  go_enter Tryd.func58, Tryd.ntmps58
  go_wp2_with (fail)
  refine cp.mono ?_
  rintro e w1 ⟨j, rfl, d1, o1⟩
  have cb := below_dr g v n 70 w1 d1 (by omega) (by omega)
  rw [show ((70 : Nat) : Int) = 70 from rfl] at cb
  go_wp2_with (fail)
  with_reducible refine cb.mono ?_
  rintro e w2 ⟨m, hm, rfl, d2, o2⟩
  have cl : ∀ W : World, Calls Tryd.prog 47 #[.int .i64 (m : Int), .int .u8 7] W fun e w' => e = .returned (.string ⟨(List.replicate m (7 : UInt8)).toArray⟩) ∧ Below W.heap.size W w' := fun W => spec_long m 7 W (by omega)
  have hj : preS[j.val] = ⟨(pre j.val).toArray⟩ := pre_at j
  have hjs : (pre j.val).length ≤ 28 := pre_len j.val
  have hsz : preS[j.val].size + (⟨(List.replicate m (7 : UInt8)).toArray⟩ : ByteArray).size ≤ 9223372036854775807 := by
    rw [hj]
    show (pre j.val).toArray.size + (List.replicate m (7 : UInt8)).toArray.size ≤ _
    simp
    omega
  have hcat : preS[j.val] ++ (⟨(List.replicate m (7 : UInt8)).toArray⟩ : ByteArray) = ⟨(txt j.val m).toArray⟩ := by
    rw [hj]
    apply ByteArray.ext
    apply Array.toList_inj.1
    simp [ByteArray.data_append, txt]
  have hj4 : j.val < 4 := j.isLt
  generalize preS[j.val] = x at hj hsz hcat ⊢
  generalize (⟨(List.replicate m (7 : UInt8)).toArray⟩ : ByteArray) = y at cl hsz hcat
  have HC := Lib.hid hcat
  clear hcat hj
  go_wp2_with (fail)
  with_reducible refine (cl _).mono ?_
  rintro e w3 ⟨rfl, hb3⟩
  go_wp2_with (fail)
  go_ret
  refine ⟨j.val, m, hj4, hm, ?_, d2.kept hb3, ((hG.trans o1.grew).trans o2.grew).trans (Grew.of_below hb3 (Nat.le_refl _))⟩
  rw [← HC.out]
  rfl

/-- A drawn key and a drawn text. -/
theorem hmac_draw (v : Value) (n : Nat) (w : World) (hv : RdB w v n) (hn : n ≤ 1048576) :
    Calls Tryd.prog 43 #[v] w fun e w' => ∃ L i p m : Nat, (L : Int) ∈ keyLens ∧ i < 256 ∧ p < 4 ∧ m < 70 ∧ e = .returned (.tuple #[.string (keyB L (bv i)), .string ⟨(txt p m).toArray⟩]) ∧ Below w.heap.size w w' := by
  have cn := new_dr v n w hv hn
  go_enter Tryd.func43, Tryd.ntmps43
  go_wp2_with (fail)
  with_reducible refine cn.mono ?_
  rintro e w1 ⟨rfl, d1, b1⟩
  have ck := key_draw w.heap.size v n w1 d1
  go_wp2_with (fail)
  with_reducible refine ck.mono ?_
  rintro e w2 ⟨L, i, hL, hi, rfl, d2, g2⟩
  have ct := text_draw w.heap.size v n w2 d2
  have hb2 := Grew.chain b1 g2 (Nat.le_refl _) b1.size
  obtain ⟨key, hkey⟩ : ∃ key, keyB L (bv i) = key := ⟨_, rfl⟩
  rw [hkey]
  have HK := Lib.hid hkey
  clear hkey
  go_wp2_with (fail)
  with_reducible refine ct.mono ?_
  rintro e w3 ⟨p, m, hp, hm, rfl, d3, g3⟩
  go_wp2_with (fail)
  go_ret2
  exact ⟨L, i, p, m, hL, hi, hp, hm, by rw [HK.out]; rfl, Grew.chain hb2 g3 (Nat.le_refl _) hb2.size⟩

theorem once_draw (g : Nat) (v : Value) (n k : Nat) (w : World) (hd : Dr w g v n) (h0 : 0 < k) (hk : k ≤ 1000000000) :
    Calls Tryd.prog 59 #[.pointer (some ⟨g, 0, none⟩), .int .i64 (k : Int)] w fun e w' => ∃ b : Bool, e = .returned (.bool b) ∧ Dr w' g v n ∧ Only g w w' := by
  have cb := below_dr g v n k w hd h0 hk
  go_enter Tryd.func59, Tryd.ntmps59
  go_wp2_with (fail)
  with_reducible refine cb.mono ?_
  rintro e w1 ⟨r, hr, rfl, d1, o1⟩
  go_wp2_with (fail)
  go_ret
  exact ⟨_, rfl, d1, o1⟩

theorem slice_upto (t : ByteArray) (x : Nat) (h2 : x ≤ t.size) (W : World) :
    (Instr.slice 9 (.string t) none (some (.int .i64 (x : Int))) none).run Tryd.prog W = .ok (.string (t.extract 0 x)) W := by
  have h1 : (0 : Int) ≤ (x : Int) := by omega
  simp [Instr.slice, run_underlying Tryd.underlying9, Instr.sliceBounds, Instr.sliceBound, asIntOf, h1]
  omega

theorem slice_behind (t : ByteArray) (x : Nat) (h2 : x ≤ t.size) (W : World) :
    (Instr.slice 9 (.string t) (some (.int .i64 (x : Int))) none none).run Tryd.prog W = .ok (.string (t.extract x t.size)) W := by
  have h1 : (0 : Int) ≤ (x : Int) := by omega
  simp [Instr.slice, run_underlying Tryd.underlying9, Instr.sliceBounds, Instr.sliceBound, asIntOf, h1]
  omega

theorem spoil_keep {g b0 k cap n : Nat} {v : Value} {w W : World} {l : List UInt8} (hd : Dr W g v n) (hr : BRow W b0 (.slice (some ⟨b0, 0, none⟩) 32 cap) l) (hl : l.length = 32) (hk : k < 32) (hG : Grew g w W) :
    Dr W.drew g v n ∧ BRow W.drew b0 (.slice (some ⟨b0, 0, none⟩) 32 cap) l ∧ W.drew.cell? ⟨b0, k, none⟩ = some (.int .u8 (l[k]!).toNat) ∧ W.drew.frozen? ⟨b0, k, none⟩ = false ∧ Grew g w W.drew := by
  have hc := hr.cell (by rw [hl]) k (by omega)
  have hf := hr.frozen k (by omega)
  rw [getElem!_pos l k (by omega)]
  exact ⟨hd.kept (Below.refl _ _).drew, hr, hc, hf, ⟨hG.os, hG.tape, hG.output, hG.size, hG.block⟩⟩

theorem spoil_next {g b0 k cap n : Nat} {v : Value} {w W W' : World} {l : List UInt8} (hl : l.length = 32) (hk : k < 32) (hne : b0 ≠ g) (hd : Dr W' g v n) (ho : Only g W W')
    (h : Dr W g v n ∧ BRow W b0 (.slice (some ⟨b0, 0, none⟩) 32 cap) l ∧ W.cell? ⟨b0, k, none⟩ = some (.int .u8 (l[k]!).toNat) ∧ W.frozen? ⟨b0, k, none⟩ = false ∧ Grew g w W) :
    Dr W' g v n ∧ BRow W' b0 (.slice (some ⟨b0, 0, none⟩) 32 cap) l ∧ W'.cell? ⟨b0, k, none⟩ = some (.int .u8 (l[k]!).toNat) ∧ W'.frozen? ⟨b0, k, none⟩ = false ∧ Grew g w W' := by
  obtain ⟨h1, h2, h3, h4, h5⟩ := h
  have hr : BRow W' b0 (.slice (some ⟨b0, 0, none⟩) 32 cap) l := by
    obtain ⟨g', cap', cur, fr, hv, hg, hh, r⟩ := h2
    have e : g' = b0 := by injection hv with e1; injection e1 with e1; injection e1 with e1; exact e1.symm
    exact ⟨g', cap', cur, fr, hv, hg, by rw [e, ho.at_ b0 hne, ← e]; exact hh, r⟩
  have hc := hr.cell (by rw [hl]) k (by omega)
  have hf := hr.frozen k (by omega)
  refine ⟨hd, hr, ?_, hf, h5.trans ho.grew⟩
  rw [getElem!_pos l k (by omega)]
  exact hc

theorem below_255 (g : Nat) (v : Value) (n : Nat) (w : World) (hd : Dr w g v n) :
    Calls Tryd.prog 42 #[.pointer (some ⟨g, 0, none⟩), .int .i64 255] w fun e w' => ∃ r : Nat, r < 255 ∧ e = .returned (.int .i64 (r : Int)) ∧ Dr w' g v n ∧ Only g w w' := below_dr g v n 255 w hd (by omega) (by omega)

theorem Grew.set {g : Nat} {a b : World} (h : Grew g a b) {p : Addr} (hp : a.heap.size ≤ p.block) (u : Value) : Grew g a (b.setCell p u) :=
  ⟨h.os, h.tape, h.output, by have := h.size; simpa [World.setCell] using this, fun i hi hn => by rw [Below.heap_setCell _ _ _ _ (by omega)]; exact h.block i hi hn⟩

theorem spoil_byte (a : UInt8) (r : Nat) (hr : r < 255) : ∃ y : UInt8, bits .xor .u8 (a.toNat : Int) (IntKind.u8.wrap (IntKind.i64.wrap (1 + (r : Int)))) = (y.toNat : Int) := by
  rw [IntWalk.i64_in _ ⟨by omega, by omega⟩, IntWalk.u8_in _ ⟨by omega, by omega⟩]
  refine ⟨a ^^^ UInt8.ofNat (1 + r), ?_⟩
  rw [← bits_xor8, UInt8.toNat_ofNat', Nat.mod_eq_of_lt (by omega)]
  rfl

set_option maxHeartbeats 1000000 in
theorem spoilt_draw (g : Nat) (v : Value) (n : Nat) (s : ByteArray) (hs : s.size = 32) (w : World) (hd : Dr w g v n) :
    Calls Tryd.prog 44 #[.pointer (some ⟨g, 0, none⟩), .string s] w fun e w' => ∃ r : ByteArray, e = .returned (.string r) ∧ Grew g w w' := by
  have cb := below_dr g v n 32 w hd (by omega) (by omega)
  rw [show ((32 : Nat) : Int) = 32 from rfl] at cb
  have q0 : (s.size : Int) = 32 := by omega
  go_enter Tryd.func44, Tryd.ntmps44
  go_wp2_with (fail)
  with_reducible refine cb.mono ?_
  rintro e w1 ⟨k, hk, rfl, d1, o1⟩
  have co := once_draw g v n 4 w1 d1 (by omega) (by omega)
  rw [show ((4 : Nat) : Int) = 4 from rfl] at co
  go_wp2_with (fail)
  with_reducible refine co.mono ?_
  rintro e w2 ⟨b, rfl, d2, o2⟩
  have hG2 : Grew g w w2 := o1.grew.trans o2.grew
  cases b
  · have hcv := fun W : World => run_bytes_of_string W 9 22 5 s Tryd.underlying9 Tryd.underlying22 Tryd.underlying5
    have hrow := BRow.of_string w2 s w2.heap.size (Nat.le_refl _) (by unfold maxLen; omega)
    have hB : Below w2.heap.size w2 (w2.alloc (.cells (bytesRow s (grownCap w2 s.size 0 5)) 5 ((bytesRow s (grownCap w2 s.size 0 5)).size, (bytesRow s (grownCap w2 s.size 0 5)).size + 1))).drew := ((Below.refl _ _).alloc (Nat.le_refl _) _).drew
    have hl : s.data.toList.length = 32 := by simpa using hs
    rw [hs] at hrow hB
    have hgw2 := d2.blk
    have hbw := hG2.size
    go_wp2_with (fail)
    clear hcv
    have hrow : BRow (w2.alloc (.cells (bytesRow s (grownCap w2 32 0 5)) 5 ((bytesRow s (grownCap w2 32 0 5)).size, (bytesRow s (grownCap w2 32 0 5)).size + 1))).drew w2.heap.size (.slice (some ⟨w2.heap.size, 0, none⟩) 32 (grownCap w2 32 0 5)) s.data.toList := hrow
    generalize (w2.alloc (.cells (bytesRow s (grownCap w2 32 0 5)) 5 ((bytesRow s (grownCap w2 32 0 5)).size, (bytesRow s (grownCap w2 32 0 5)).size + 1))).drew = W1 at hrow hB ⊢
    generalize grownCap w2 32 0 5 = cap at hrow ⊢
    obtain ⟨b0, hb0⟩ : ∃ b0, w2.heap.size = b0 := ⟨_, rfl⟩
    have d3 := d2.kept hB
    have hG3 := hG2.trans (Grew.of_below (g := g) hB (Nat.le_refl _))
    rw [hb0] at hrow hgw2 hbw ⊢
    clear hB d2 hG2
    generalize s.data.toList = l at hrow hl
    have S0 := spoil_keep d3 hrow hl hk hG3
    have hne : b0 ≠ g := by omega
    have qk : (0 : Int) ≤ (k : Int) ∧ (k : Int) < 32 := by omega
    obtain ⟨D0, R0, C0, F0, G0⟩ := id S0
    rw [getElem!_pos l k (by omega)] at C0
    have hY := fun r2 (hr2 : r2 < 255) => spoil_byte (l[k]'(by omega)) r2 hr2
    have hV : ∀ W : World, BRow W b0 (.slice (some ⟨b0, 0, none⟩) 32 cap) l → ∀ y : UInt8, (convert 22 9 (.slice (some ⟨b0, 0, none⟩) 32 cap)).run Tryd.prog (W.setCell ⟨b0, k, none⟩ (.int .u8 (y.toNat : Int))) = .ok (.string ⟨(l.set k y).toArray⟩) (W.setCell ⟨b0, k, none⟩ (.int .u8 (y.toNat : Int))) := fun W R y => (R.set k y).conv
    go_region_law (first | (go_simp; go_at_call 42; (with_reducible refine (below_255 g v n _ D0).mono ?_); rintro e w4 ⟨r2, hr2, rfl, d4, o4⟩; have S1 := spoil_next hl hk hne d4 o4 S0; obtain ⟨D1, R1, C1, F1, G1⟩ := id S1; rw [getElem!_pos l k (by omega)] at C1; obtain ⟨y, hy⟩ := hY r2 hr2; have hcv := hV w4 R1 y))
    all_goals
      go_wp2_with (fail)
      go_ret
      exact ⟨_, rfl, G1.set hbw _⟩
  · have e1 : IntKind.i64.wrap ((k : Int) + 1) = ((k + 1 : Nat) : Int) := by rw [IntWalk.i64_in _ (by omega)]; omega
    have s1 := fun W => slice_upto s k (by omega) W
    have s2 := fun W => slice_behind s (k + 1) (by omega) W
    have hb1 : (s.extract 0 k).size ≤ 32 := by rw [ByteArray.size_extract]; omega
    have hb2 : (s.extract (k + 1) s.size).size ≤ 32 := by rw [ByteArray.size_extract]; omega
    generalize s.extract 0 k = x at s1 hb1
    generalize s.extract (k + 1) s.size = y at s2 hb2
    have hsz : x.size + y.size ≤ 9223372036854775807 := by omega
    go_wp2_with (fail)
    go_quiet (fail)
    go_wp2_with (fail)
    go_ret
    exact ⟨_, rfl, ⟨hG2.os, hG2.tape, hG2.output, hG2.size, hG2.block⟩⟩

end Go.Proofs.YtlkhgamhhblmgaaDoor
