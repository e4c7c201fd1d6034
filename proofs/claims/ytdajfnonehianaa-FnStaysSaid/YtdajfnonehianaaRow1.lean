import Derived.Test.YtdajfnonehianaaCel
import Derived.IntWalk
import Derived.Laws.OwnMore
import Derived.Deep.AppendLies
import Derived.Deep.QuietTactic
import Derived.BigQuiet
namespace Go.Proofs.Ytdajfnonehianaa
open Go.RowKit

/-- v is a slice whose elements, one cell each, are xs. -/
def VRd (W : World) (v : Value) (xs : List Value) : Prop :=
  ∃ a c, v = .slice a xs.length c ∧ (0 < xs.length → ∃ b off, a = some ⟨b, off, none⟩ ∧ ∀ j (h : j < xs.length), W.cell? ⟨b, off + j, none⟩ = some xs[j])

/-- .. and owns its cells, in a block from B on and below C. -/
def VRow (W : World) (e : TypeId) (B C : Nat) (v : Value) (xs : List Value) : Prop :=
  W.ownsRow B e 1 v xs.length xs ∧ ∀ g, v.ownBlock = some g → g < C

theorem VRow.keepAt {W W' : World} {e : TypeId} {B C : Nat} {v : Value} {xs : List Value} (h : VRow W e B C v xs) (hb : ∀ g, v.ownBlock = some g → W'.heap[g]? = W.heap[g]?) : VRow W' e B C v xs := by
  obtain ⟨⟨h1, h2⟩, h3⟩ := h
  refine ⟨⟨h1, ?_⟩, h3⟩
  rcases h2 with h2 | ⟨g, cap, cur, hv, hg, hh, r⟩
  · exact .inl h2
  · exact .inr ⟨g, cap, cur, hv, hg, by rw [hb g (by rw [hv]; rfl)]; exact hh, r⟩

theorem VRow.keep {W W' : World} {e : TypeId} {B C D : Nat} {v : Value} {xs : List Value} (h : VRow W e B C v xs) (hb : Below D W W') (hC : C ≤ D) : VRow W' e B C v xs :=
  h.keepAt fun g hg => hb.block g (Nat.lt_of_lt_of_le (h.2 g hg) hC)

theorem VRow.mono {W : World} {e : TypeId} {B B' C C' : Nat} {v : Value} {xs : List Value} (h : VRow W e B C v xs) (hB : B' ≤ B) (hC : C ≤ C') : VRow W e B' C' v xs := by
  obtain ⟨⟨h1, h2⟩, h3⟩ := h
  refine ⟨⟨h1, ?_⟩, fun g hg => Nat.lt_of_lt_of_le (h3 g hg) hC⟩
  rcases h2 with h2 | ⟨g, cap, cur, hv, hg, r⟩
  · exact .inl h2
  · exact .inr ⟨g, cap, cur, hv, Nat.le_trans hB hg, r⟩

theorem VRow.block {W : World} {e : TypeId} {B C : Nat} {v : Value} {xs : List Value} (h : VRow W e B C v xs) (g : Nat) (hg : v.ownBlock = some g) : B ≤ g ∧ g < C := by
  refine ⟨?_, h.2 g hg⟩
  rcases h.1.2 with ⟨rfl, _⟩ | ⟨g', cap, cur, hv, hgB, _⟩
  · simp [Value.ownBlock] at hg
  · rw [hv] at hg
    simp [Value.ownBlock] at hg
    omega

theorem VRow.rd {W : World} {e : TypeId} {B C : Nat} {v : Value} {xs : List Value} (h : VRow W e B C v xs) : VRd W v xs := by
  obtain ⟨⟨h1, h2⟩, h3⟩ := h
  rcases h2 with ⟨rfl, h2⟩ | ⟨g, cap, cur, rfl, hg, hh, r1, r2, r3, r4⟩
  · exact ⟨none, 0, by rw [h2], fun h => by rw [h2] at h; omega⟩
  · refine ⟨some ⟨g, 0, none⟩, cap, rfl, fun _ => ⟨g, 0, rfl, fun j hj => ?_⟩⟩
    rw [Nat.zero_add, cell_of_row _ _ _ _ _ _ hh]
    have h5 := congrArg (fun x => x[j]?) r4
    rw [Nat.mul_one] at h5
    simp only [List.getElem?_take, hj, ↓reduceIte] at h5
    rw [List.getElem?_eq_getElem hj] at h5
    simpa using h5

theorem VRd.below {W W' : World} {v : Value} {xs : List Value} (h : VRd W v xs) (hb : Below W.heap.size W W') : VRd W' v xs := by
  obtain ⟨a, c, rfl, h⟩ := h
  refine ⟨a, c, rfl, fun h0 => ?_⟩
  obtain ⟨b, off, rfl, hc⟩ := h h0
  refine ⟨b, off, rfl, fun j hj => ?_⟩
  have := hc j hj
  have hlt := World.block_lt_of_cell? _ _ this
  rw [hb.cell hlt]
  exact this

theorem VRow.cell {W : World} {e : TypeId} {B C : Nat} {g n cap : Nat} {xs : List Value} (h : VRow W e B C (.slice (some ⟨g, 0, none⟩) n cap) xs) (j : Nat) (hj : j < xs.length) :
    W.cell? ⟨g, j, none⟩ = some xs[j] ∧ W.frozen? ⟨g, j, none⟩ = false := by
  obtain ⟨⟨h1, h2⟩, h3⟩ := h
  rcases h2 with ⟨h2, _⟩ | ⟨g', cap', cur, hv, hg, hh, r1, r2, r3, r4⟩
  · cases h2
  · injection hv with e1 e2 e3
    injection e1 with e1
    injection e1 with e1
    subst e1
    constructor
    · rw [cell_of_row _ _ _ _ _ _ hh]
      have h5 := congrArg (fun x => x[j]?) r4
      rw [Nat.mul_one] at h5
      simp only [List.getElem?_take, hj, ↓reduceIte] at h5
      rw [List.getElem?_eq_getElem hj] at h5
      simpa using h5
    · simp [World.frozen?, hh]

theorem VRow.set {W : World} {e : TypeId} {B C : Nat} {g n cap : Nat} {xs : List Value} (h : VRow W e B C (.slice (some ⟨g, 0, none⟩) n cap) xs) (j : Nat) (x : Value) :
    VRow (W.setCell ⟨g, j, none⟩ x) e B C (.slice (some ⟨g, 0, none⟩) n cap) (xs.set j x) := by
  obtain ⟨⟨h1, h2⟩, h3⟩ := h
  rcases h2 with ⟨h2, _⟩ | ⟨g', cap', cur, hv, hg, hh, r1, r2, r3, r4⟩
  · cases h2
  · injection hv with e1 e2 e3
    injection e1 with e1
    injection e1 with e1
    subst e1 e2 e3
    refine ⟨⟨by simp, .inr ⟨g, cap, cur.setIfInBounds j x, by simp, hg, ?_, by simpa using r1, r2, by simpa using r3, ?_⟩⟩, h3⟩
    · show (W.heap.modify g _)[g]? = _
      rw [Array.getElem?_modify, if_pos rfl, hh]
      simp
    · rw [Array.toList_setIfInBounds, List.length_set, List.take_set, r4]

/-- The slice's own form. -/
theorem VRow.form {W : World} {e : TypeId} {B C : Nat} {v : Value} {xs : List Value} (h : VRow W e B C v xs) : ∃ a c, v = .slice a xs.length c ∧ (0 < xs.length → ∃ g, a = some ⟨g, 0, none⟩ ∧ B ≤ g ∧ g < C) := by
  rcases h.1.2 with ⟨rfl, h0⟩ | ⟨g, cap, cur, rfl, hg, _⟩
  · exact ⟨none, 0, by rw [h0], fun h1 => by rw [h0] at h1; omega⟩
  · exact ⟨some ⟨g, 0, none⟩, cap, rfl, fun _ => ⟨g, rfl, hg, h.2 g rfl⟩⟩

/-- A block that is just these cells is a row of one's own. -/
theorem VRow.of_cel {W : World} {e : TypeId} {g B C : Nat} {xs : List Value} (h : Cel W g e xs.toArray) (hB : B ≤ g) (hC : g < C) (hm : xs.length ≤ maxLen) : VRow W e B C (.slice (some ⟨g, 0, none⟩) xs.length xs.length) xs := by
  refine ⟨⟨by simp, .inr ⟨g, xs.length, xs.toArray, rfl, hB, h, Nat.le_refl _, hm, by simp, by simp⟩⟩, fun g' hg => ?_⟩
  simp [Value.ownBlock] at hg
  omega

theorem VRow.nil {W : World} {e : TypeId} {B C : Nat} : VRow W e B C (.slice none 0 0) [] := ⟨⟨rfl, .inl ⟨rfl, rfl⟩⟩, fun g hg => by simp [Value.ownBlock] at hg⟩

/-- Only one block, and what is new, has turned. -/
theorem VRow.grown {W W' : World} {e : TypeId} {B C : Nat} {v : Value} {xs : List Value} {row : Option Nat} (h : VRow W e B C v xs) (hg : W.grownBy W' row) (hC : C ≤ W.heap.size) (hr : ∀ g, v.ownBlock = some g → some g ≠ row) : VRow W' e B C v xs :=
  h.keepAt fun g hv => hg.block g (Nat.lt_of_lt_of_le (h.2 g hv) hC) (hr g hv)

/-- One element more, behind a row of the call's own. -/
theorem wpList_append_one (w : World) {ops : Array Oper} {rest : List Oper} {o : Oper} {a : Act} {Q : Exit → Act → World → Prop}
    (hgd : o.guard = none) (s x : Operand) (T : TypeId) (hop : o.op = Op.call { callee := Callee.builtin Builtin.append, args := #[s, x], argTypes := #[T, T] })
    (B : Nat) (E : TypeId) (i0 : TypeInfo) (z : Value) (bytes : Nat) (hT : Try.prog.underlying T = some (.slice E)) (hi : Try.prog.info? E = some i0) (hz0 : i0.zero = some z) (hz1 : i0.size = 1) (hz2 : i0.bytes = bytes) (hzs : z.cells.size = 1)
    {gg n cap : Nat} {xs : List Value} (y : Value) (hy : y.oneCell' = true) (hs : a.eval s = .slice (some ⟨gg, 0, none⟩) n cap) (hrow : w.ownsRow B E 1 (.slice (some ⟨gg, 0, none⟩) n cap) n xs) (hB : B ≤ w.heap.size)
    (g' cp : Nat) (hx : a.eval x = .slice (some ⟨g', 0, none⟩) 1 cp) (hc : w.cell? ⟨g', 0, none⟩ = some y) (b1 : n + 1 ≤ maxLen) (b2 : (n + 1) * bytes ≤ 140737488355328)
    (h : ∀ gg' cap' w', w'.ownsRow B E 1 (.slice (some ⟨gg', 0, none⟩) (n + 1) cap') (n + 1) (xs ++ [y]) → w.grownBy w' (some gg) → (gg' = gg ∨ gg' = w.heap.size) → wpList Try.prog ops Q rest (a.put o.dst (.slice (some ⟨gg', 0, none⟩) (n + 1) cap')) w') :
    wpList Try.prog ops Q (o :: rest) a w := by
  refine wpList_append_lies w hgd s x T hop B E i0 z 1 bytes hT hi hz0 hz1 hz2 hzs (by omega) (.slice (some ⟨gg, 0, none⟩) n cap) n xs hs hrow ⟨g', 0, none⟩ 1 cp [y] hx rfl ?_ ?_ (by omega) b1 b2 hB w.heap.size rfl ?_
  · intro j u hj
    match j, hj with
    | 0, hj => simp at hj; subst hj; simpa [Addr.add] using hc
  · intro u hu
    simp at hu
    subst hu
    exact hy
  · intro g2 cap2 w2 hown hgrow hat hlt
    refine h g2 cap2 w2 hown hgrow ?_
    rcases hat with hat | hat
    · left
      simp [Value.ownBlock] at hat
      exact hat.symm
    · exact .inr hat
end Go.Proofs.Ytdajfnonehianaa
