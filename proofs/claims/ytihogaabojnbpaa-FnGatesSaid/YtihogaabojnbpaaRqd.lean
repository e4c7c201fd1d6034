import Derived.Test.YtihogaabojnbpaaEk2
namespace Go.Proofs.Ytihogaabojnbpaa
open Go.RowKit

/-- What stays while a law over two lists goes on: the model's answer, the program's arguments, its answer, each in blocks of its own. -/
structure Fr4 {α β γ : Type} (K : EK α) (KA : EK β) (KB : EK γ) (w W : World) (b0 b1 b2 b3 b4 : Nat) (u x y g : Value) (os : List α) (xs : List β) (ys : List γ) (gs : List α) : Prop where
  m : OwnE K W b0 b1 u os
  x : OwnE KA W b1 b2 x xs
  y : OwnE KB W b2 b3 y ys
  g : OwnE K W b3 b4 g gs
  b : Below w.heap.size w W
  l0 : w.heap.size ≤ b0
  l1 : b0 ≤ b1
  l2 : b1 ≤ b2
  l3 : b2 ≤ b3
  l4 : b3 ≤ b4
  l5 : b4 ≤ W.heap.size
section
variable {α β γ : Type} {K : EK α} {KA : EK β} {KB : EK γ} {w W W' : World} {b0 b1 b2 b3 b4 : Nat} {u x y g : Value} {os gs zs : List α} {xs xs' : List β} {ys ys' : List γ}
theorem Fr4.kept (h : Fr4 K KA KB w W b0 b1 b2 b3 b4 u x y g os xs ys gs) (hb : Below W.heap.size W W') : Fr4 K KA KB w W' b0 b1 b2 b3 b4 u x y g os xs ys gs := by
  obtain ⟨m, hx, hy, hg, b, l0, l1, l2, l3, l4, l5⟩ := h
  exact ⟨m.keep hb (by omega), hx.keep hb (by omega), hy.keep hb (by omega), hg.keep hb (by omega), Below.then_ b hb, l0, l1, l2, l3, l4, Nat.le_trans l5 hb.size⟩
/-- The program's first argument marked; its second; its answer. -/
theorem Fr4.markX (h : Fr4 K KA KB w W b0 b1 b2 b3 b4 u x y g os xs ys gs) (hx : OwnE KA W' b1 b2 x xs') (hb : Below b1 W W') (hz : W'.heap.size = W.heap.size) (ho : ∀ i, x.ownBlock ≠ some i → W'.heap[i]? = W.heap[i]?) :
    Fr4 K KA KB w W' b0 b1 b2 b3 b4 u x y g os xs' ys gs := by
  obtain ⟨m, hx0, hy, hg, b, l0, l1, l2, l3, l4, l5⟩ := h
  refine ⟨m.keep hb (Nat.le_refl _), hx, hy.keepAt fun k hk => ho k fun e => ?_, hg.keepAt fun k hk => ho k fun e => ?_, b.trans (hb.mono (by omega)), l0, l1, l2, l3, l4, by rw [hz]; exact l5⟩
  · have e1 := (hx0.block k e).2; have e2 := (hy.block k hk).1; omega
  · have e1 := (hx0.block k e).2; have e2 := (hg.block k hk).1; omega
theorem Fr4.markY (h : Fr4 K KA KB w W b0 b1 b2 b3 b4 u x y g os xs ys gs) (hy : OwnE KB W' b2 b3 y ys') (hb : Below b2 W W') (hz : W'.heap.size = W.heap.size) (ho : ∀ i, y.ownBlock ≠ some i → W'.heap[i]? = W.heap[i]?) :
    Fr4 K KA KB w W' b0 b1 b2 b3 b4 u x y g os xs ys' gs := by
  obtain ⟨m, hx, hy0, hg, b, l0, l1, l2, l3, l4, l5⟩ := h
  refine ⟨m.keep hb (by omega), hx.keep hb (Nat.le_refl _), hy, hg.keepAt fun k hk => ho k fun e => ?_, b.trans (hb.mono (by omega)), l0, l1, l2, l3, l4, by rw [hz]; exact l5⟩
  have e1 := (hy0.block k e).2; have e2 := (hg.block k hk).1; omega
theorem Fr4.markG (h : Fr4 K KA KB w W b0 b1 b2 b3 b4 u x y g os xs ys gs) (hg : OwnE K W' b3 b4 g zs) (hb : Below b3 W W') (hz : W.heap.size ≤ W'.heap.size) :
    Fr4 K KA KB w W' b0 b1 b2 b3 b4 u x y g os xs ys zs := by
  obtain ⟨m, hx, hy, hg0, b, l0, l1, l2, l3, l4, l5⟩ := h
  exact ⟨m.keep hb (by omega), hx.keep hb (by omega), hy.keep hb (Nat.le_refl _), hg, b.trans (hb.mono (by omega)), l0, l1, l2, l3, l4, Nat.le_trans l5 hz⟩
end
end Go.Proofs.Ytihogaabojnbpaa
