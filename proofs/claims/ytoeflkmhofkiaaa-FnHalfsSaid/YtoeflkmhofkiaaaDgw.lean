import Derived.Test.YtoeflkmhofkiaaaDrT
import Derived.Test.YtoeflkmhofkiaaaEk
namespace Go.Proofs.Ytoeflkmhofkiaaa
open Go.RowKit
set_option maxRecDepth 100000

/-- Only the cursor's block, then only what lies above what was there. -/
theorem Grew.then {g : Nat} {w W W' : World} (h : Grew g w W) (k : Below w.heap.size W W') : Grew g w W' :=
  ⟨k.os.trans h.os, k.tape.trans h.tape, k.output.trans h.output, Nat.le_trans h.size k.size, fun i hi hn => (k.block i hi).trans (h.block i hi hn)⟩
theorem Grew.only {g : Nat} {w W W' : World} (h : Grew g w W) (k : Only g W W') : Grew g w W' := h.trans k.grew
theorem bel_dr (g : Nat) (v : Value) (n k : Nat) (i : Int) (hi : (k : Int) = i) (w : World) (hd : Dr w g v n) (h0 : 0 < k) (hk : k ≤ 1000000000) :
    Calls Try.prog 65 #[.pointer (some ⟨g, 0, none⟩), .int .i64 i] w fun e w' => ∃ r : Nat, r < k ∧ e = .returned (.int .i64 (r : Int)) ∧ Dr w' g v n ∧ Only g w w' := by
  subst hi
  exact below_dr g v n k w hd h0 hk
theorem pick_mem (g : Nat) (v : Value) (n : Nat) (w : World) (hd : Dr w g v n) (b cap k : Nat) (cs : Array Value) (zs : List Int) (hk : zs.length = k) (hcs : (zs.map (Value.int .i64)).toArray = cs) (hc : Cel w b 3 cs) (hb : b ≠ g) (h0 : 0 < k) (hl : k ≤ 1000) :
    Calls Try.prog 64 #[.pointer (some ⟨g, 0, none⟩), .slice (some ⟨b, 0, none⟩) k cap] w fun e w' => ∃ z : Int, z ∈ zs ∧ e = .returned (.int .i64 z) ∧ Dr w' g v n ∧ Only g w w' := by
  subst hk hcs
  exact (pick_int g v n w hd b cap zs hc hb h0 hl).mono fun _ _ ⟨j, h1, h2, h3⟩ => ⟨_, List.getElem_mem _, h1, h2, h3⟩
set_option maxHeartbeats 1000000 in
set_option maxRecDepth 100000 in
theorem once_dr (g : Nat) (v : Value) (n k : Nat) (i : Int) (hi : (k : Int) = i) (w : World) (hd : Dr w g v n) (h0 : 0 < k) (hk : k ≤ 1000000000) :
    Calls Try.prog 63 #[.pointer (some ⟨g, 0, none⟩), .int .i64 i] w fun e w' => ∃ b : Bool, e = .returned (.bool b) ∧ Dr w' g v n ∧ Only g w w' := by
  have cb := bel_dr g v n k i hi w hd h0 hk
  clear hi
  go_enter Try.func63, Try.ntmps63
  go_wp2_with (fail)
  with_reducible refine cb.mono ?_
  rintro e w1 ⟨r, hr, rfl, d1, o1⟩
  go_wp2_with (fail)
  go_ret
  exact ⟨_, rfl, d1, o1⟩
theorem OwnE.only {α : Type} {K : EK α} {g B C : Nat} {w w' : World} {v : Value} {ms : List α} (h : OwnE K w B C v ms) (ho : Only g w w') (hB : g < B) : OwnE K w' B C v ms :=
  h.keepAt fun k hk => ho.at_ k (by have := (h.block k hk).1; omega)
theorem OwnE.grew {α : Type} {K : EK α} {g B : Nat} {w w' : World} {v : Value} {ms : List α} (h : OwnE K w B w.heap.size v ms) (ho : Grew g w w') (hB : g < B) : OwnE K w' B w'.heap.size v ms :=
  (h.grown ho (Nat.le_refl _) (fun k hk e => by injection e with e; have := (h.block k hk).1; omega)).mono (Nat.le_refl _) ho.size
theorem below_ints (W : World) (cs : Array Value) : Below W.heap.size W (W.alloc (.cells cs 3)) := below_new _ _

/-- A draw of a small struct under way: the result's block, the struct's box. -/
structure Gd (t : TypeId) (cs0 cs : Array Value) (w W : World) (g : Nat) (v : Value) (n bx : Nat) : Prop where
  c : Cel W w.heap.size t cs0
  b : Cel W bx t cs
  d : Dr W g v n
  gr : Grew g w W
  lt : w.heap.size < bx
  hg : g < w.heap.size
section
variable {t : TypeId} {cs0 cs : Array Value} {w W W' : World} {g n bx : Nat} {v : Value}
theorem Gd.only (h : Gd t cs0 cs w W g v n bx) (ho : Only g W W') (hd : Dr W' g v n) : Gd t cs0 cs w W' g v n bx :=
  have h1 := h.lt
  have h2 := h.hg
  ⟨h.c.only ho (by omega), h.b.only ho (by omega), hd, h.gr.only ho, h.lt, h.hg⟩
theorem Gd.kept (h : Gd t cs0 cs w W g v n bx) (hb : Below W.heap.size W W') : Gd t cs0 cs w W' g v n bx :=
  ⟨h.c.kept hb, h.b.kept hb, h.d.kept hb, h.gr.then (hb.mono h.gr.size), h.lt, h.hg⟩
theorem Gd.set (h : Gd t cs0 cs w W g v n bx) (i : Nat) (x : Value) : Gd t cs0 (cs.setIfInBounds i x) w (W.setCell ⟨bx, i, none⟩ x) g v n bx := by
  have h1 := h.lt
  have hB : Below bx W (W.setCell ⟨bx, i, none⟩ x) := (Below.refl _ _).setCell (p := ⟨bx, i, none⟩) (Nat.le_refl _) _
  exact ⟨h.c.below hB h1, h.b.set i x, h.d.below hB (by have := h.hg; omega), h.gr.then (hB.mono (by omega)), h.lt, h.hg⟩
end
end Go.Proofs.Ytoeflkmhofkiaaa
