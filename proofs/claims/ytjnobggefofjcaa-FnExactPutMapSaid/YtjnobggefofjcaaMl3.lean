import Derived.Test.YtjnobggefofjcaaMl1
import Derived.Test.YtjnobggefofjcaaMmk
import Derived.Test.YtjnobggefofjcaaMap
namespace Go.Proofs.Ytjnobggefofjcaa
open Go.RowKit

/-- What stays while a law goes on: the model's answer, the program's argument, its answer, each in blocks of its own. -/
structure Quad (w W : World) (b0 b1 b2 b3 : Nat) (u x g : Value) (os xs gs : List Mp) : Prop where
  m : OwnM W b0 b1 u os
  x : OwnM W b1 b2 x xs
  g : OwnM W b2 b3 g gs
  b : Below w.heap.size w W
  l0 : w.heap.size ≤ b0
  l1 : b0 ≤ b1
  l2 : b1 ≤ b2
  l3 : b2 ≤ b3
  l4 : b3 ≤ W.heap.size

theorem own_lt {W : World} {B C g n cap : Nat} {ms : List Mp} (h : OwnM W B C (.slice (some ⟨g, 0, none⟩) n cap) ms) : g < W.heap.size := by
  rcases h.1.2 with ⟨h2, -⟩ | ⟨g', cap', cur, hv, -, hh, -⟩
  · cases h2
  · injection hv with e1
    injection e1 with e1
    injection e1 with e1
    subst e1
    exact (Array.getElem?_eq_some_iff.1 hh).1

theorem Quad.kept {w W W' : World} {b0 b1 b2 b3 : Nat} {u x g : Value} {os xs gs : List Mp} (h : Quad w W b0 b1 b2 b3 u x g os xs gs) (hb : Below W.heap.size W W') : Quad w W' b0 b1 b2 b3 u x g os xs gs :=
  have h1 := h.l1
  have h2 := h.l2
  have h3 := h.l3
  have h4 := h.l4
  ⟨h.m.keep hb (by omega), h.x.keep hb (by omega), h.g.keep hb (by omega), Below.then_ h.b hb, h.l0, h.l1, h.l2, h.l3, Nat.le_trans h.l4 hb.size⟩

/-- The program's argument marked; its answer marked. -/
theorem Quad.markX {w W W' : World} {b0 b1 b2 b3 : Nat} {u x g : Value} {os xs gs ys : List Mp} (h : Quad w W b0 b1 b2 b3 u x g os xs gs) (hx : OwnM W' b1 b2 x ys) (hb : Below b1 W W') (hz : W'.heap.size = W.heap.size) (ho : ∀ i, x.ownBlock ≠ some i → W'.heap[i]? = W.heap[i]?) :
    Quad w W' b0 b1 b2 b3 u x g os ys gs :=
  have h0 := h.l0
  have h1 := h.l1
  ⟨h.m.keep hb (Nat.le_refl _), hx, h.g.keepAt fun k hk => ho k fun e => by have e1 := (h.x.block k e).2; have e2 := (h.g.block k hk).1; omega, h.b.trans (hb.mono (by omega)), h.l0, h.l1, h.l2, h.l3, by rw [hz]; exact h.l4⟩
theorem Quad.markG {w W W' : World} {b0 b1 b2 b3 : Nat} {u x g : Value} {os xs gs ys : List Mp} (h : Quad w W b0 b1 b2 b3 u x g os xs gs) (hg : OwnM W' b2 b3 g ys) (hb : Below b2 W W') (hz : W'.heap.size = W.heap.size) :
    Quad w W' b0 b1 b2 b3 u x g os xs ys :=
  have h0 := h.l0
  have h1 := h.l1
  have h2 := h.l2
  ⟨h.m.keep hb (by omega), h.x.keep hb (Nat.le_refl _), hg, h.b.trans (hb.mono (by omega)), h.l0, h.l1, h.l2, h.l3, by rw [hz]; exact h.l4⟩
end Go.Proofs.Ytjnobggefofjcaa
