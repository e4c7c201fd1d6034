import Derived.Test.YtmfbhejclmelaaaAos
import Derived.Test.YtmfbhejclmelaaaAmk
namespace Go.Proofs.Ytmfbhejclmelaaa
open Go.RowKit

theorem sz_lawA (ms : List Av) (h : ¬ (1048576 : Int) - (ms.length : Int) < 0) : ms.length ≤ 1048576 := by omega

/-- What stays while a law goes on: the model's answer, the program's argument, its answer, each in blocks of its own. -/
structure QdA {α : Type} (K : EK α) (w W : World) (b0 b1 b2 b3 : Nat) (u x g : Value) (os : List α) (xs : List Av) (gs : List α) : Prop where
  m : OwnE K W b0 b1 u os
  x : OwnV W b1 b2 x xs
  g : OwnE K W b2 b3 g gs
  b : Below w.heap.size w W
  l0 : w.heap.size ≤ b0
  l1 : b0 ≤ b1
  l2 : b1 ≤ b2
  l3 : b2 ≤ b3
  l4 : b3 ≤ W.heap.size
section
variable {α : Type} {K : EK α} {w W W' : World} {b0 b1 b2 b3 : Nat} {u x g : Value} {os gs : List α} {xs ys : List Av} {zs : List α}
theorem QdA.kept (h : QdA K w W b0 b1 b2 b3 u x g os xs gs) (hb : Below W.heap.size W W') : QdA K w W' b0 b1 b2 b3 u x g os xs gs :=
  have h1 := h.l1
  have h2 := h.l2
  have h3 := h.l3
  have h4 := h.l4
  ⟨h.m.keep hb (by omega), h.x.keep hb (by omega), h.g.keep hb (by omega), Below.then_ h.b hb, h.l0, h.l1, h.l2, h.l3, Nat.le_trans h.l4 hb.size⟩

/-- The program's argument marked; its answer marked. -/
theorem QdA.markX (h : QdA K w W b0 b1 b2 b3 u x g os xs gs) (hx : OwnV W' b1 b2 x ys) (hb : Below b1 W W') (hz : W'.heap.size = W.heap.size) (ho : ∀ i, x.ownBlock ≠ some i → W'.heap[i]? = W.heap[i]?) :
    QdA K w W' b0 b1 b2 b3 u x g os ys gs :=
  have h0 := h.l0
  have h1 := h.l1
  ⟨h.m.keep hb (Nat.le_refl _), hx, h.g.keepAt fun k hk => ho k fun e => by have e1 := (h.x.block k e).2; have e2 := (h.g.block k hk).1; omega, h.b.trans (hb.mono (by omega)), h.l0, h.l1, h.l2, h.l3, by rw [hz]; exact h.l4⟩
theorem QdA.markG (h : QdA K w W b0 b1 b2 b3 u x g os xs gs) (hg : OwnE K W' b2 b3 g zs) (hb : Below b2 W W') (hz : W.heap.size ≤ W'.heap.size) :
    QdA K w W' b0 b1 b2 b3 u x g os xs zs :=
  have h0 := h.l0
  have h1 := h.l1
  have h2 := h.l2
  ⟨h.m.keep hb (by omega), h.x.keep hb (Nat.le_refl _), hg, h.b.trans (hb.mono (by omega)), h.l0, h.l1, h.l2, h.l3, Nat.le_trans h.l4 hz⟩
end
end Go.Proofs.Ytmfbhejclmelaaa
