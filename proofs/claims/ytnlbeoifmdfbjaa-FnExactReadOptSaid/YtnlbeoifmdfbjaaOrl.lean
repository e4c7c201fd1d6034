import Derived.Test.YtnlbeoifmdfbjaaSro
import Derived.Test.YtnlbeoifmdfbjaaOeq
namespace Go.Proofs.Ytnlbeoifmdfbjaa
open Go.RowKit
attribute [-go_sem] loadCells loadCellsFrom

set_option maxRecDepth 100000 in
theorem mark_opt (o : Ov) (v : Value) (w : World) (B C k : Nat) (hv : IRow w B C v o.ids) (hBw : B ≤ w.heap.size) (hCw : C ≤ w.heap.size) (hn : o.ids.length ≤ 1048576) (hk : k ≤ 1099511627776) :
    Calls Try.prog 26 #[.agg (o.cells v), .int .i64 (k : Int)] w fun e w' => e = .returned (.int .i64 ((k + o.ids.length : Nat) : Int)) ∧ IRow w' B C v (marks k o.ids.length) ∧ Below B w w' ∧ w.heap.size ≤ w'.heap.size ∧ ∀ i, i < w.heap.size → v.ownBlock ≠ some i → w'.heap[i]? = w.heap[i]? := by
  have hb0 := below_new w (.cells (o.cells v) 26)
  have hr := hv.keep hb0 hCw
  have c1 := mark_ints_only v o.ids _ B C k hr hn hk
  obtain ⟨va, vc, rfl⟩ : ∃ x c, v = .slice x o.ids.length c := by obtain ⟨x, c, h, -⟩ := hv.rd; exact ⟨x, c, h⟩
  have a13 := (o.ats (.slice va o.ids.length vc)).2.2.2.2.2.2.2.2.2.2.2.2.2
  go_enter Try.func26, Try.ntmps26
  go_wp2_with (fail)
  with_reducible refine c1.mono ?_
  rintro e w1 ⟨rfl, h1, h2, h3⟩
  go_wp2_with (fail)
  go_ret
  have hsz := h2.size
  rw [World.size_alloc] at hsz
  exact ⟨rfl, h1, (hb0.mono hBw).trans h2, by omega, fun i hi hne => (h3 i hne).trans (hb0.block i hi)⟩

set_option maxRecDepth 100000 in
theorem held_opt (o : Ov) (v : Value) (w : World) (k n : Nat) (hv : Rd w v (marks k n)) (hl : n = o.ids.length) (hn : n ≤ 1048576) (hk : k ≤ 1099511627776) :
    Calls Try.prog 27 #[.agg (o.cells v), .int .i64 (k : Int)] w fun e w' => e = .returned (.int .i64 ((k + n : Nat) : Int)) ∧ Below w.heap.size w w' := by
  have hb0 := below_new w (.cells (o.cells v) 26)
  have c1 := held_ints v k n _ (hv.below hb0) hn hk
  obtain ⟨va, vc, rfl⟩ : ∃ x c, v = .slice x o.ids.length c := by obtain ⟨x, c, h, -⟩ := hv; rw [marks_length, hl] at h; exact ⟨x, c, h⟩
  have a13 := (o.ats (.slice va o.ids.length vc)).2.2.2.2.2.2.2.2.2.2.2.2.2
  have q : ¬ ((k + n : Nat) : Int) < 0 := by omega
  generalize ((k + n : Nat) : Int) = r at *
  clear hv hl
  go_enter Try.func27, Try.ntmps27
  go_wp2_with (fail)
  with_reducible refine c1.mono ?_
  rintro e w1 ⟨rfl, rfl⟩
  go_wp2_with (fail)
  go_ret
  exact ⟨rfl, hb0⟩

theorem readO_ids_le (s : ByteArray) (a : Int) : (readO s a).ids.length ≤ 1048576 := by
  unfold readO
  split
  · have := rdo_ids_le s a; omega
  · exact Nat.zero_le _

/-- What stays while the law goes on: two answers in their blocks. -/
structure Rl (w W : World) (g5 g7 : Nat) (o : Ov) (v0 v1 : Value) (xs : List Int) : Prop where
  c5 : Cel W g5 26 (o.cells v0)
  c7 : Cel W g7 26 (o.cells v1)
  r0 : Rd W v0 o.ids
  r1 : Rd W v1 xs
  b : Below w.heap.size w W
theorem Rl.kept {w W W' : World} {g5 g7 : Nat} {o : Ov} {v0 v1 : Value} {xs : List Int} (h : Rl w W g5 g7 o v0 v1 xs) (hb : Below W.heap.size W W') : Rl w W' g5 g7 o v0 v1 xs :=
  ⟨h.c5.kept hb, h.c7.kept hb, h.r0.below hb, h.r1.below hb, Below.then_ h.b hb⟩

theorem slice_of {W : World} {v : Value} {zs : List Int} (h : Rd W v zs) : ∃ x c, v = .slice x zs.length c := by obtain ⟨x, c, h, -⟩ := h; exact ⟨x, c, h⟩

set_option maxRecDepth 100000 in
set_option maxHeartbeats 4000000 in
theorem readopt_law (s : ByteArray) (a : Int) (w : World) (_hs : s.size ≤ maxLen) (ha0 : -9223372036854775808 ≤ a) (ha : a ≤ 9223372036854775807) :
    Calls Try.prog 5 #[.string s, .int .i64 a] w fun e w' => e = .returned (.bool true) ∧ Below w.heap.size w w' := by
  by_cases hlen : s.size ≤ 1048576
  · have q : ¬ (1048576 : Int) < (s.size : Int) := by omega
    have cS := fun W => spec_readOpt s a W hlen ha0 ha
    have cI := fun W => impl_readOpt s a W hlen ha
    have hle := readO_ids_le s a
    generalize readO s a = o at *
    generalize readP s a = P at *
    have eA := fun x u W h0 h2 => eq_opt o x u W h0 h2 hle
    go_enter Try.func5, Try.ntmps5
    go_wp2_with (fail)
    with_reducible refine (cS _).mono ?_
    rintro e w1 ⟨v0, rfl, hr0, hb1⟩
    obtain ⟨xa, xc, rfl⟩ := slice_of hr0.rd
    have one := o.cells_one xa o.ids.length xc
    have hz := zeroOpt w1
    have hss : (#[.int .i64 0, .int .i64 0, .int .i64 0, .int .i64 0, .int .i64 0, .int .i64 0, .int .i64 0, .int .i64 0, .int .i64 0, .int .i64 0, .bool false, .string ⟨#[]⟩, .string ⟨#[]⟩, .slice none 0 0] : Array Value).size = (o.cells (.slice xa o.ids.length xc)).size := by rw [Ov.cells_size]; rfl
    have hn5 := new_row w1 26 #[.int .i64 0, .int .i64 0, .int .i64 0, .int .i64 0, .int .i64 0, .int .i64 0, .int .i64 0, .int .i64 0, .int .i64 0, .int .i64 0, .bool false, .string ⟨#[]⟩, .string ⟨#[]⟩, .slice none 0 0] (o.cells (.slice xa o.ids.length xc))
    have c5 := hn5.1
    have r0 := hr0.keep hn5.2 (Nat.le_refl _)
    have B2 := Below.then_ hb1 hn5.2
    have hs5 : w1.heap.size < ((w1.alloc (.cells #[.int .i64 0, .int .i64 0, .int .i64 0, .int .i64 0, .int .i64 0, .int .i64 0, .int .i64 0, .int .i64 0, .int .i64 0, .int .i64 0, .bool false, .string ⟨#[]⟩, .string ⟨#[]⟩, .slice none 0 0] 26)).setRow w1.heap.size (o.cells (.slice xa o.ids.length xc))).heap.size := Cel.lt c5
    clear hn5 hb1 hr0 cS
    go_upto_region 4 with (with_reducible refine wpList_store_row rfl 26 _ _ rfl _ rfl _ rfl 26 _ hz (sizeOpt' _ _) hss one ?_)
    clear hz one hss
    generalize (w1.alloc (.cells #[.int .i64 0, .int .i64 0, .int .i64 0, .int .i64 0, .int .i64 0, .int .i64 0, .int .i64 0, .int .i64 0, .int .i64 0, .int .i64 0, .bool false, .string ⟨#[]⟩, .string ⟨#[]⟩, .slice none 0 0] 26)).setRow w1.heap.size (o.cells (.slice xa o.ids.length xc)) = W2 at *
    generalize w1.heap.size = g5 at *
    go_wp2_with (fail)
    with_reducible refine (cI _).mono ?_
    rintro e w3 ⟨v1, rfl, hr1, hb3⟩
    obtain ⟨ya, yc, rfl⟩ := slice_of hr1.rd
    have one := o.cells_one ya o.ids.length yc
    have hz := zeroOpt w3
    have hss : (#[.int .i64 0, .int .i64 0, .int .i64 0, .int .i64 0, .int .i64 0, .int .i64 0, .int .i64 0, .int .i64 0, .int .i64 0, .int .i64 0, .bool false, .string ⟨#[]⟩, .string ⟨#[]⟩, .slice none 0 0] : Array Value).size = (o.cells (.slice ya o.ids.length yc)).size := by rw [Ov.cells_size]; rfl
    have hn7 := new_row w3 26 #[.int .i64 0, .int .i64 0, .int .i64 0, .int .i64 0, .int .i64 0, .int .i64 0, .int .i64 0, .int .i64 0, .int .i64 0, .int .i64 0, .bool false, .string ⟨#[]⟩, .string ⟨#[]⟩, .slice none 0 0] (o.cells (.slice ya o.ids.length yc))
    have c7 := hn7.1
    have r1 := hr1.keep hn7.2 (Nat.le_refl _)
    have r0' := (r0.keep hb3 (Nat.le_of_lt hs5)).keep hn7.2 (by have := hb3.size; omega)
    have c5' := (c5.kept hb3).kept hn7.2
    have B4 := Below.then_ (Below.then_ B2 hb3) hn7.2
    have hW2 : W2.heap.size ≤ w3.heap.size := hb3.size
    have hs7 : w3.heap.size < ((w3.alloc (.cells #[.int .i64 0, .int .i64 0, .int .i64 0, .int .i64 0, .int .i64 0, .int .i64 0, .int .i64 0, .int .i64 0, .int .i64 0, .int .i64 0, .bool false, .string ⟨#[]⟩, .string ⟨#[]⟩, .slice none 0 0] 26)).setRow w3.heap.size (o.cells (.slice ya o.ids.length yc))).heap.size := Cel.lt c7
    clear hn7 hb3 hr1 r0 c5
    go_upto_region 5 with (with_reducible refine wpList_store_row rfl 26 _ _ rfl _ rfl _ rfl 26 _ hz (sizeOpt' _ _) hss one ?_)
    clear hz one hss
    generalize (w3.alloc (.cells #[.int .i64 0, .int .i64 0, .int .i64 0, .int .i64 0, .int .i64 0, .int .i64 0, .int .i64 0, .int .i64 0, .int .i64 0, .int .i64 0, .bool false, .string ⟨#[]⟩, .string ⟨#[]⟩, .slice none 0 0] 26)).setRow w3.heap.size (o.cells (.slice ya o.ids.length yc)) = W4 at *
    generalize w3.heap.size = g7 at *
    have f5 := Cel.loadRow c5' 14 (Ov.cells_size _ _) (P := Try.prog)
    have f7 := Cel.loadRow c7 14 (Ov.cells_size _ _) (P := Try.prog)
    go_wp2_with (fail)
    with_reducible refine (eA _ _ _ r1.rd r0'.rd).mono ?_
    rintro e w5 ⟨rfl, hb5⟩
    have c5 := c5'.kept hb5
    have c7b := c7.kept hb5
    have r1b := r1.keep hb5 (Nat.le_of_lt hs7)
    have r0 := r0'.keep hb5 (by omega)
    have B5 := Below.then_ B4 hb5
    have hs5b := hb5.size
    clear c5' c7 r1 r0' B4 f5 f7 hb5
    have f7 := Cel.loadRow c7b 14 (Ov.cells_size _ _) (P := Try.prog)
    have cm := mark_opt o _ w5 W2.heap.size g7 1 r1b (by omega) (by omega) hle (by omega)
    rw [show (((1 : Nat) : Int)) = (1 : Int) from rfl] at cm
    go_wp2_with (fail)
    with_reducible refine cm.mono ?_
    rintro e w6 ⟨rfl, hm, hbm, hsm, hkm⟩
    have hown : ∀ i, (Value.slice ya o.ids.length yc).ownBlock = some i → W2.heap.size ≤ i ∧ i < g7 := fun i hi => hm.block i hi
    have c5 : Cel w6 g5 26 (o.cells (.slice xa o.ids.length xc)) := by
      show w6.heap[g5]? = _
      rw [hkm g5 (Cel.lt c5) (fun e => by have := hown _ e; omega)]
      exact c5
    have c7 : Cel w6 g7 26 (o.cells (.slice ya o.ids.length yc)) := by
      show w6.heap[g7]? = _
      rw [hkm g7 (Cel.lt c7b) (fun e => by have := hown _ e; omega)]
      exact c7b
    have r0 := r0.keepAt (W' := w6) (fun g hg => by
      have h1 := (r0.block g hg).2
      exact hkm g (by omega) (fun e => by have := hown _ e; omega))
    have L : Rl w w6 g5 g7 o (.slice xa o.ids.length xc) (.slice ya o.ids.length yc) (marks 1 o.ids.length) := ⟨c5, c7, r0.rd, hm.rd, B5.trans (hbm.mono (by have := B2.size; omega))⟩
    clear c7b r1b B5 f7 cm hm hbm hsm hkm hown c5 c7 r0 B2 hs5 hs7 hW2 hs5b
    have hle2 : ¬ ((1 + o.ids.length : Nat) : Int) < 0 := by omega
    have cH := fun W (h : Rl w W g5 g7 o (.slice xa o.ids.length xc) (.slice ya o.ids.length yc) (marks 1 o.ids.length)) => held_opt o (.slice ya o.ids.length yc) W 1 o.ids.length h.r1 rfl hle (by omega)
    simp only [show (((1 : Nat) : Int)) = (1 : Int) from rfl] at cH
    generalize hmm : ((1 + o.ids.length : Nat) : Int) = M at *
    have f7 := Cel.loadRow L.c7 14 (Ov.cells_size _ _) (P := Try.prog)
    go_wp2_with (fail)
    with_reducible refine (cH _ L).mono ?_
    rintro e w7 ⟨rfl, hb7⟩
    have L2 := L.kept hb7
    clear L f7 hb7
    go_wp2_with (fail)
    with_reducible refine (cI _).mono ?_
    rintro e w8 ⟨v2, rfl, hr2, hb8⟩
    obtain ⟨za, zc, rfl⟩ := slice_of hr2.rd
    have L3 := L2.kept hb8
    have one := o.cells_one za o.ids.length zc
    have hz := zeroOpt w8
    have hss : (#[.int .i64 0, .int .i64 0, .int .i64 0, .int .i64 0, .int .i64 0, .int .i64 0, .int .i64 0, .int .i64 0, .int .i64 0, .int .i64 0, .bool false, .string ⟨#[]⟩, .string ⟨#[]⟩, .slice none 0 0] : Array Value).size = (o.cells (.slice za o.ids.length zc)).size := by rw [Ov.cells_size]; rfl
    have hn11 := new_row w8 26 #[.int .i64 0, .int .i64 0, .int .i64 0, .int .i64 0, .int .i64 0, .int .i64 0, .int .i64 0, .int .i64 0, .int .i64 0, .int .i64 0, .bool false, .string ⟨#[]⟩, .string ⟨#[]⟩, .slice none 0 0] (o.cells (.slice za o.ids.length zc))
    have c11 := hn11.1
    have r2 := hr2.rd.below hn11.2
    have L4 := L3.kept hn11.2
    clear hn11 hb8 hr2 L2 L3
    go_upto_region 16 with (with_reducible refine wpList_store_row rfl 26 _ _ rfl _ rfl _ rfl 26 _ hz (sizeOpt' _ _) hss one ?_)
    clear hz one hss
    generalize (w8.alloc (.cells #[.int .i64 0, .int .i64 0, .int .i64 0, .int .i64 0, .int .i64 0, .int .i64 0, .int .i64 0, .int .i64 0, .int .i64 0, .int .i64 0, .bool false, .string ⟨#[]⟩, .string ⟨#[]⟩, .slice none 0 0] 26)).setRow w8.heap.size (o.cells (.slice za o.ids.length zc)) = W9 at *
    generalize w8.heap.size = g11 at *
    have f5 := Cel.loadRow L4.c5 14 (Ov.cells_size _ _) (P := Try.prog)
    have f11 := Cel.loadRow c11 14 (Ov.cells_size _ _) (P := Try.prog)
    go_wp2_with (fail)
    with_reducible refine (eA _ _ _ r2 L4.r0).mono ?_
    rintro e w10 ⟨rfl, hb10⟩
    have L5 := L4.kept hb10
    clear L4 f5 f11 hb10 r2 c11
    have f7 := Cel.loadRow L5.c7 14 (Ov.cells_size _ _) (P := Try.prog)
    go_wp2_with (fail)
    with_reducible refine (cH _ L5).mono ?_
    rintro e w11 ⟨rfl, hb11⟩
    have L6 := L5.kept hb11
    clear L5 f7 hb11
    go_wp2_with (fail)
    go_ret
    exact ⟨rfl, L6.b⟩
  · have q : (1048576 : Int) < (s.size : Int) := by omega
    go_enter Try.func5, Try.ntmps5
    go_wp2_with (fail)
    go_ret
    exact ⟨rfl, Below.refl _ _⟩
end Go.Proofs.Ytnlbeoifmdfbjaa
