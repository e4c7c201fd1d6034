import Derived.Test.YtjnobggefofjcaaDr
import Derived.Test.YtjnobggefofjcaaMap
namespace Go.Proofs.Ytjnobggefofjcaa
open Go.RowKit

theorem own_only2 {g B : Nat} {w w' : World} {v : Value} {e : TypeId} {size n : Nat} {xs : List Value} (h : w.ownsRow B e size v n xs) (ho : Only g w w') (hB : g < B) : w'.ownsRow B e size v n xs := by
  obtain ⟨h1, h2⟩ := h
  refine ⟨h1, ?_⟩
  rcases h2 with h2 | ⟨g', cap, cur, hv, hg, hh, r⟩
  · exact .inl h2
  · refine .inr ⟨g', cap, cur, hv, hg, ?_, r⟩
    rw [ho.at_ g' (by omega)]
    exact hh

theorem Cel.only {g b : Nat} {w w' : World} {t : TypeId} {cs : Array Value} (h : Cel w b t cs) (ho : Only g w w') (hb : b ≠ g) : Cel w' b t cs := by
  show w'.heap[b]? = _
  rw [ho.at_ b hb]; exact h

/-- Only block g, and what is new, has turned. -/
def Grew (g : Nat) (w w' : World) : Prop := w.grownBy w' (some g)

theorem Only.grew {g : Nat} {w w' : World} (h : Only g w w') : Grew g w w' :=
  ⟨h.bl.os, h.bl.tape, h.bl.output, Nat.le_of_eq h.size.symm, fun i _ hn => h.at_ i (fun e => hn (by rw [e]))⟩
theorem Grew.refl (g : Nat) (w : World) : Grew g w w := ⟨rfl, rfl, rfl, Nat.le_refl _, fun _ _ _ => rfl⟩
theorem Grew.trans {g : Nat} {a b c : World} (h : Grew g a b) (k : Grew g b c) : Grew g a c :=
  ⟨k.os.trans h.os, k.tape.trans h.tape, k.output.trans h.output, Nat.le_trans h.size k.size, fun i hi hn => (k.block i (Nat.lt_of_lt_of_le hi h.size) hn).trans (h.block i hi hn)⟩
theorem Grew.of_below {g B : Nat} {a b : World} (h : Below B a b) (hB : a.heap.size ≤ B) : Grew g a b :=
  ⟨h.os, h.tape, h.output, h.size, fun i hi _ => h.block i (by omega)⟩
theorem Grew.below {g B : Nat} {a b : World} (h : Grew g a b) (hB : B ≤ g) (hB2 : B ≤ a.heap.size) : Below B a b :=
  ⟨h.os, h.tape, h.output, h.size, fun i hi => h.block i (by omega) (fun e => by injection e with e; omega)⟩
theorem Cel.grew {g b : Nat} {w w' : World} {t : TypeId} {cs : Array Value} (h : Cel w b t cs) (ho : Grew g w w') (hb : b ≠ g) : Cel w' b t cs := h.grown ho (fun e => hb (by injection e))
theorem Grew.chain {g B : Nat} {a b c : World} (h : Below B a b) (k : Grew g b c) (hB : B ≤ g) (hB2 : B ≤ b.heap.size) : Below B a c := h.trans (k.below hB hB2)

/-- One of a list of numbers. -/
theorem pick_int (g : Nat) (v : Value) (n : Nat) (w : World) (hd : Dr w g v n) (b cap : Nat) (zs : List Int) (hc : Cel w b 3 (zs.map (Value.int .i64)).toArray) (hb : b ≠ g) (h0 : 0 < zs.length) (hl : zs.length ≤ 1000) :
    Calls Try.prog 42 #[.pointer (some ⟨g, 0, none⟩), .slice (some ⟨b, 0, none⟩) zs.length cap] w fun e w' => ∃ j : Fin zs.length, e = .returned (.int .i64 zs[j]) ∧ Dr w' g v n ∧ Only g w w' := by
  have cb := below_dr g v n zs.length w hd h0 (by omega)
  go_enter Try.func42, Try.ntmps42
  go_wp2_with (fail)
  with_reducible refine cb.mono ?_
  rintro e w1 ⟨r, hr, rfl, d1, o1⟩
  have hcell : w1.cell? ⟨b, r, none⟩ = some (.int .i64 (zs[r]'hr)) := by
    rw [(hc.only o1 hb).cell r]
    simp [hr]
  have q : (r : Int) < (zs.length : Int) := by omega
  have q0 : (0 : Int) ≤ (r : Int) := by omega
  go_wp2_with (fail)
  go_ret
  exact ⟨⟨r, hr⟩, rfl, d1, o1⟩


/-- Only the cursor's block, then only what lies above what was there. -/
theorem Grew.then {g : Nat} {w W W' : World} (h : Grew g w W) (k : Below w.heap.size W W') : Grew g w W' :=
  ⟨k.os.trans h.os, k.tape.trans h.tape, k.output.trans h.output, Nat.le_trans h.size k.size, fun i hi hn => (k.block i hi).trans (h.block i hi hn)⟩
theorem Grew.only {g : Nat} {w W W' : World} (h : Grew g w W) (k : Only g W W') : Grew g w W' := h.trans k.grew
theorem Dr.then {W W' : World} {g B : Nat} {v : Value} {n : Nat} (h : Dr W g v n) (hb : Below B W W') (hg : g < B) : Dr W' g v n := h.below hb hg

theorem bel_dr (g : Nat) (v : Value) (n k : Nat) (i : Int) (hi : (k : Int) = i) (w : World) (hd : Dr w g v n) (h0 : 0 < k) (hk : k ≤ 1000000000) :
    Calls Try.prog 41 #[.pointer (some ⟨g, 0, none⟩), .int .i64 i] w fun e w' => ∃ r : Nat, r < k ∧ e = .returned (.int .i64 (r : Int)) ∧ Dr w' g v n ∧ Only g w w' := by
  subst hi
  exact below_dr g v n k w hd h0 hk

theorem pick_any (g : Nat) (v : Value) (n : Nat) (w : World) (hd : Dr w g v n) (b cap k : Nat) (cs : Array Value) (zs : List Int) (hk : zs.length = k) (hcs : (zs.map (Value.int .i64)).toArray = cs) (hc : Cel w b 3 cs) (hb : b ≠ g) (h0 : 0 < k) (hl : k ≤ 1000) :
    Calls Try.prog 42 #[.pointer (some ⟨g, 0, none⟩), .slice (some ⟨b, 0, none⟩) k cap] w fun e w' => ∃ z : Int, e = .returned (.int .i64 z) ∧ Dr w' g v n ∧ Only g w w' := by
  subst hk hcs
  exact (pick_int g v n w hd b cap zs hc hb h0 hl).mono fun _ _ ⟨j, h1, h2, h3⟩ => ⟨_, h1, h2, h3⟩

set_option maxHeartbeats 1000000 in
set_option maxRecDepth 100000 in
theorem once_dr (g : Nat) (v : Value) (n k : Nat) (i : Int) (hi : (k : Int) = i) (w : World) (hd : Dr w g v n) (h0 : 0 < k) (hk : k ≤ 1000000000) :
    Calls Try.prog 40 #[.pointer (some ⟨g, 0, none⟩), .int .i64 i] w fun e w' => ∃ b : Bool, e = .returned (.bool b) ∧ Dr w' g v n ∧ Only g w w' := by
  have cb := bel_dr g v n k i hi w hd h0 hk
  clear hi
  go_enter Try.func40, Try.ntmps40
  go_wp2_with (fail)
  with_reducible refine cb.mono ?_
  rintro e w1 ⟨r, hr, rfl, d1, o1⟩
  go_wp2_with (fail)
  go_ret
  exact ⟨_, rfl, d1, o1⟩

theorem OwnM.only {g B C : Nat} {w w' : World} {v : Value} {ms : List Mp} (h : OwnM w B C v ms) (ho : Only g w w') (hB : g < B) : OwnM w' B C v ms :=
  h.keepAt fun k hk => ho.at_ k (by have := (h.block k hk).1; omega)

set_option maxHeartbeats 1000000 in
set_option maxRecDepth 100000 in
theorem map_dr (g : Nat) (v : Value) (n : Nat) (w : World) (hd : Dr w g v n) :
    Calls Try.prog 30 #[.pointer (some ⟨g, 0, none⟩)] w fun e w' => ∃ m : Mp, e = .returned (.agg m.cells) ∧ Dr w' g v n ∧ Grew g w w' := by
  have hg := hd.blk
  have hb0 := below_new w (.cells #[.int .i64 0, .int .i64 0, .int .i64 0] 26)
  have hd0 := hd.kept hb0
  have hC0 := Cel.new w 26 #[.int .i64 0, .int .i64 0, .int .i64 0]
  have cb := fun W h => bel_dr g v n 60 60 rfl W h (by omega) (by omega)
  have HE := Lib.hid (And.intro hC0 (Grew.then (Grew.refl g w) hb0))
  clear hb0 hC0 hd
  go_enter Try.func30, Try.ntmps30
  go_wp2_with (fail)
  with_reducible refine (cb _ hd0).mono ?_
  rintro e w1 ⟨r1, -, rfl, d1, o1⟩
  have HE1 := Lib.hid (And.intro (HE.out.1.only o1 (by omega)) (HE.out.2.only o1))
  clear HE o1 hd0
  go_wp2_with (fail)
  with_reducible refine (cb _ d1).mono ?_
  rintro e w2 ⟨r2, -, rfl, d2, o2⟩
  have hb3 := below_new w2 (.cells #[.int .i64 1, .int .i64 2, .int .i64 3, .int .i64 1, .int .i64 0, .int .i64 9] 3)
  have hz : w.heap.size ≤ w2.heap.size := (HE1.out.2.only o2).size
  have cp := pick_any g v n _ (d2.kept hb3) w2.heap.size 6 6 _ [1, 2, 3, 1, 0, 9] rfl rfl (Cel.new w2 3 #[.int .i64 1, .int .i64 2, .int .i64 3, .int .i64 1, .int .i64 0, .int .i64 9]) (by omega) (by omega) (by omega)
  have HE3 := Lib.hid (And.intro ((HE1.out.1.only o2 (by omega)).kept hb3) ((HE1.out.2.only o2).then (hb3.mono hz)))
  clear HE1 o2 d1 hb3
  go_wp2_with (fail)
  with_reducible refine cp.mono ?_
  rintro e w4 ⟨z, rfl, d4, o4⟩
  have hC4 := HE3.out.1.only o4 (by omega)
  have hG4 := HE3.out.2.only o4
  obtain ⟨k0, k1, k2⟩ := (⟨hC4.cell 0, hC4.cell 1, hC4.cell 2⟩ : w4.cell? ⟨w.heap.size, 0, none⟩ = some (.int .i64 0) ∧ w4.cell? ⟨w.heap.size, 1, none⟩ = some (.int .i64 0) ∧ w4.cell? ⟨w.heap.size, 2, none⟩ = some (.int .i64 0))
  have f0 := hC4.frozen 0
  have f1 := hC4.frozen 1
  have f2 := hC4.frozen 2
  have HG := Lib.hid (And.intro hG4 d4)
  clear HE3 o4 cp d2 hC4 hG4 d4
  go_wp2_with (fail)
  have hB5 : Below w.heap.size w4 (((w4.setCell ⟨w.heap.size, 0, none⟩ (.int .i64 (r1 : Int))).setCell ⟨w.heap.size, 1, none⟩ (.int .i64 (r2 : Int))).setCell ⟨w.heap.size, 2, none⟩ (.int .i64 z)) := (((Below.refl _ _).setCell (p := ⟨w.heap.size, 0, none⟩) (Nat.le_refl _) _).setCell (p := ⟨w.heap.size, 1, none⟩) (Nat.le_refl _) _).setCell (p := ⟨w.heap.size, 2, none⟩) (Nat.le_refl _) _
  exact bodyPost_ret (v := .agg #[.int .i64 (r1 : Int), .int .i64 (r2 : Int), .int .i64 z]) (by simp [results, Try.results30, go_sem, k0, k1, k2]) rfl ⟨⟨r1, r2, z⟩, rfl, HG.out.2.then hB5 hg, HG.out.1.then hB5⟩
end Go.Proofs.Ytjnobggefofjcaa
