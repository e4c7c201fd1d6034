import Derived.Test.YtoeflkmhofkiaaaEk2
import Derived.Test.YtoeflkmhofkiaaaTyn
namespace Go.Proofs.Ytoeflkmhofkiaaa
open Go.RowKit
set_option maxRecDepth 100000

theorem sz_lawG {n : Nat} (h : ¬ (1048576 : Int) - (n : Int) < 0) : n ≤ 1048576 := by omega
/-- A box that came in lies as it lay. -/
theorem cb_keep {wb W W' : World} {h : Nat} {t : TypeId} {cs : Array Value} (hh : Cel W h t cs ∧ Below wb.heap.size wb W) (hb : Below W.heap.size W W') : Cel W' h t cs ∧ Below wb.heap.size wb W' := ⟨hh.1.kept hb, Below.then_ hh.2 hb⟩

/-- What stays while a law goes on: the model's answer, the program's argument, its answer, each in blocks of its own. -/
structure QdG {α β : Type} (K : EK α) (KA : EK β) (w W : World) (b0 b1 b2 b3 : Nat) (u x g : Value) (os : List α) (xs : List β) (gs : List α) : Prop where
  m : OwnE K W b0 b1 u os
  x : OwnE KA W b1 b2 x xs
  g : OwnE K W b2 b3 g gs
  b : Below w.heap.size w W
  l0 : w.heap.size ≤ b0
  l1 : b0 ≤ b1
  l2 : b1 ≤ b2
  l3 : b2 ≤ b3
  l4 : b3 ≤ W.heap.size
section
variable {α β : Type} {K : EK α} {KA : EK β} {w W W' : World} {b0 b1 b2 b3 : Nat} {u x g : Value} {os gs : List α} {xs ys : List β} {zs : List α}
theorem QdG.kept (h : QdG K KA w W b0 b1 b2 b3 u x g os xs gs) (hb : Below W.heap.size W W') : QdG K KA w W' b0 b1 b2 b3 u x g os xs gs :=
  have h1 := h.l1
  have h2 := h.l2
  have h3 := h.l3
  have h4 := h.l4
  ⟨h.m.keep hb (by omega), h.x.keep hb (by omega), h.g.keep hb (by omega), Below.then_ h.b hb, h.l0, h.l1, h.l2, h.l3, Nat.le_trans h.l4 hb.size⟩
theorem QdG.markX (h : QdG K KA w W b0 b1 b2 b3 u x g os xs gs) (hx : OwnE KA W' b1 b2 x ys) (hb : Below b1 W W') (hz : W'.heap.size = W.heap.size) (ho : ∀ i, x.ownBlock ≠ some i → W'.heap[i]? = W.heap[i]?) :
    QdG K KA w W' b0 b1 b2 b3 u x g os ys gs :=
  have h0 := h.l0
  have h1 := h.l1
  ⟨h.m.keep hb (Nat.le_refl _), hx, h.g.keepAt fun k hk => ho k fun e => by have e1 := (h.x.block k e).2; have e2 := (h.g.block k hk).1; omega, h.b.trans (hb.mono (by omega)), h.l0, h.l1, h.l2, h.l3, by rw [hz]; exact h.l4⟩
theorem QdG.markG (h : QdG K KA w W b0 b1 b2 b3 u x g os xs gs) (hg : OwnE K W' b2 b3 g zs) (hb : Below b2 W W') (hz : W.heap.size ≤ W'.heap.size) :
    QdG K KA w W' b0 b1 b2 b3 u x g os xs zs :=
  have h0 := h.l0
  have h1 := h.l1
  have h2 := h.l2
  ⟨h.m.keep hb (by omega), h.x.keep hb (Nat.le_refl _), hg, h.b.trans (hb.mono (by omega)), h.l0, h.l1, h.l2, h.l3, Nat.le_trans h.l4 hz⟩
end
end Go.Proofs.Ytoeflkmhofkiaaa
