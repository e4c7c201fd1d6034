import Derived.Test.YtoeflkmhofkiaaaDr
import Derived.Test.YtoeflkmhofkiaaaCel
import Derived.Test.YtoeflkmhofkiaaaBytes
namespace Go.Proofs.Ytoeflkmhofkiaaa
open Go.RowKit
set_option maxRecDepth 100000

theorem own_only2 {g B : Nat} {w w' : World} {v : Value} {e : TypeId} {size n : Nat} {xs : List Value} (h : w.ownsRow B e size v n xs) (ho : Only g w w') (hB : g < B) : w'.ownsRow B e size v n xs := by
  obtain ⟨h1, h2⟩ := h
  refine ⟨h1, ?_⟩
  rcases h2 with h2 | ⟨g', cap, cur, hv, hg, hh, r⟩
  · exact .inl h2
  · refine .inr ⟨g', cap, cur, hv, hg, ?_, r⟩
    rw [ho.at_ g' (by omega)]
    exact hh

theorem Cel.only {g b : Nat} {w w' : World} {t : TypeId} {cs : Array Value} (h : Cel w b t cs) (ho : Only g w w') (hb : b ≠ g) : Cel w' b t cs := by
  show w'.heap[b]? = _
  rw [ho.at_ b hb]; exact h

/-- Only block g, and what is new, has turned. -/
def Grew (g : Nat) (w w' : World) : Prop := w.grownBy w' (some g)

theorem Only.grew {g : Nat} {w w' : World} (h : Only g w w') : Grew g w w' :=
  ⟨h.bl.os, h.bl.tape, h.bl.output, Nat.le_of_eq h.size.symm, fun i _ hn => h.at_ i (fun e => hn (by rw [e]))⟩
theorem Grew.refl (g : Nat) (w : World) : Grew g w w := ⟨rfl, rfl, rfl, Nat.le_refl _, fun _ _ _ => rfl⟩
theorem Grew.trans {g : Nat} {a b c : World} (h : Grew g a b) (k : Grew g b c) : Grew g a c :=
  ⟨k.os.trans h.os, k.tape.trans h.tape, k.output.trans h.output, Nat.le_trans h.size k.size, fun i hi hn => (k.block i (Nat.lt_of_lt_of_le hi h.size) hn).trans (h.block i hi hn)⟩
theorem Grew.of_below {g B : Nat} {a b : World} (h : Below B a b) (hB : a.heap.size ≤ B) : Grew g a b :=
  ⟨h.os, h.tape, h.output, h.size, fun i hi _ => h.block i (by omega)⟩
theorem Grew.below {g B : Nat} {a b : World} (h : Grew g a b) (hB : B ≤ g) (hB2 : B ≤ a.heap.size) : Below B a b :=
  ⟨h.os, h.tape, h.output, h.size, fun i hi => h.block i (by omega) (fun e => by injection e with e; omega)⟩
theorem Cel.grew {g b : Nat} {w w' : World} {t : TypeId} {cs : Array Value} (h : Cel w b t cs) (ho : Grew g w w') (hb : b ≠ g) : Cel w' b t cs := h.grown ho (fun e => hb (by injection e))
theorem Grew.chain {g B : Nat} {a b c : World} (h : Below B a b) (k : Grew g b c) (hB : B ≤ g) (hB2 : B ≤ b.heap.size) : Below B a c := h.trans (k.below hB hB2)

/-- A row of bytes of the call's own, empty or not, made a string. -/
theorem conv_row {W : World} {B g n cap : Nat} {l : List UInt8} (h : W.ownsRow B 5 1 (.slice (some ⟨g, 0, none⟩) l.length cap) l.length (l.map cb)) (hl : l.length = n) :
    (convert 22 9 (.slice (some ⟨g, 0, none⟩) n cap)).run Try.prog W = .ok (.string ⟨l.toArray⟩) W := by
  subst hl
  refine run_convert_bytes_back W 22 9 5 ⟨g, 0, none⟩ cap l Try.underlying22 Try.underlying5 Try.underlying9 fun j hj => ?_
  have hc := h.cells (g := g) rfl j (cb l[j]) (by rw [List.getElem?_map, List.getElem?_eq_getElem hj]; rfl)
  exact hc

/-- One of a list of numbers. -/
theorem pick_int (g : Nat) (v : Value) (n : Nat) (w : World) (hd : Dr w g v n) (b cap : Nat) (zs : List Int) (hc : Cel w b 3 (zs.map (Value.int .i64)).toArray) (hb : b ≠ g) (h0 : 0 < zs.length) (hl : zs.length ≤ 1000) :
    Calls Try.prog 64 #[.pointer (some ⟨g, 0, none⟩), .slice (some ⟨b, 0, none⟩) zs.length cap] w fun e w' => ∃ j : Fin zs.length, e = .returned (.int .i64 zs[j]) ∧ Dr w' g v n ∧ Only g w w' := by
  have cb := below_dr g v n zs.length w hd h0 (by omega)
  go_enter Try.func64, Try.ntmps64
  go_wp2_with (fail)
  with_reducible refine cb.mono ?_
  rintro e w1 ⟨r, hr, rfl, d1, o1⟩
  have hcell : w1.cell? ⟨b, r, none⟩ = some (.int .i64 (zs[r]'hr)) := by
    rw [(hc.only o1 hb).cell r]
    simp [hr]
  have q : (r : Int) < (zs.length : Int) := by omega
  have q0 : (0 : Int) ≤ (r : Int) := by omega
  go_wp2_with (fail)
  go_ret
  exact ⟨⟨r, hr⟩, rfl, d1, o1⟩

end Go.Proofs.Ytoeflkmhofkiaaa
