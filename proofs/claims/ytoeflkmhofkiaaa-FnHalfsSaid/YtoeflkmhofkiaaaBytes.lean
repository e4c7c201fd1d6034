import Derived.Test.YtoeflkmhofkiaaaRows
import Derived.WalkKit
import Derived.Below
import Derived.OwnWalk
import Derived.ArgAppend
import Derived.Laws.IdiomStrings
import Derived.Deep.AppendLies
import Derived.Deep.QuietTactic
namespace Go.Proofs.Ytoeflkmhofkiaaa
open Go.RowKit
set_option maxRecDepth 100000

/-- A byte as a cell holds it. -/
def cb (c : UInt8) : Value := .int .u8 (c.toNat : Int)

/-- v is a slice over a block of the call's own (from B on), whose first cells are the bytes l. -/
def BRow (W : World) (B : Nat) (v : Value) (l : List UInt8) : Prop :=
  ∃ g cap cur fr, v = .slice (some ⟨g, 0, none⟩) l.length cap ∧ B ≤ g ∧ W.heap[g]? = some (.cells cur 5 fr) ∧ l.length ≤ cap ∧ cap ≤ maxLen ∧ cur.size = cap ∧ cur.toList.take l.length = l.map cb ∧ (fr = (0, 0) ∨ cap ≤ fr.1)

theorem BRow.below {W W' : World} {B C : Nat} {v : Value} {l : List UInt8} (h : BRow W B v l) (hb : Below C W W') (hC : W.heap.size ≤ C) : BRow W' B v l := by
  obtain ⟨g, cap, cur, fr, hv, hg, hh, h1, h2, h3, h4, h5⟩ := h
  exact ⟨g, cap, cur, fr, hv, hg, by rw [hb.block g (by have := (Array.getElem?_eq_some_iff.1 hh).1; omega)]; exact hh, h1, h2, h3, h4, h5⟩

theorem BRow.alloc {W : World} {B : Nat} {v : Value} {l : List UInt8} (h : BRow W B v l) (o : Obj) : BRow (W.alloc o) B v l := by
  obtain ⟨g, cap, cur, fr, hv, hg, hh, h1, h2, h3, h4, h5⟩ := h
  exact ⟨g, cap, cur, fr, hv, hg, by rw [Below.heap_alloc _ _ _ (Array.getElem?_eq_some_iff.1 hh).1]; exact hh, h1, h2, h3, h4, h5⟩

theorem BRow.drewN {W : World} {B : Nat} {v : Value} {l : List UInt8} (h : BRow W B v l) (n : Nat) : BRow (W.drewN n) B v l := h

theorem BRow.of_own {W : World} {B : Nat} {v : Value} {l : List UInt8} (h : W.ownsRow B 5 1 v l.length (l.map cb)) (hl : 0 < l.length) : BRow W B v l := by
  obtain ⟨_, h⟩ := h
  rcases h with ⟨_, h0⟩ | ⟨g, cap, cur, hv, hg, hh, h1, h2, h3, h4⟩
  · omega
  · exact ⟨g, cap, cur, (0, 0), hv, hg, hh, h1, h2, by omega, by simpa using h4, .inl rfl⟩

/-- What '[]byte(s)' makes. -/
theorem BRow.of_string (W : World) (s : ByteArray) (B : Nat) (hB : B ≤ W.heap.size) (hs : s.size ≤ maxLen) :
    BRow (W.drew.alloc (.cells (bytesRow s (grownCap W s.size 0 5)) 5 ((bytesRow s (grownCap W s.size 0 5)).size, (bytesRow s (grownCap W s.size 0 5)).size + 1))) B (.slice (some ⟨W.heap.size, 0, none⟩) s.size (grownCap W s.size 0 5)) s.data.toList := by
  have hge := grownCap_ge W s.size 0 5
  have hle := grownCap_le_maxLen W s.size 0 5 hs
  have hsz : s.data.size = s.size := rfl
  have hsize : (bytesRow s (grownCap W s.size 0 5)).size = grownCap W s.size 0 5 := by
    simp only [bytesRow, Array.size_append, Array.size_map, Array.size_replicate]; omega
  have hlen : s.data.toList.length = s.size := by simp [hsz]
  rw [show (Value.slice (some ⟨W.heap.size, 0, none⟩) s.size (grownCap W s.size 0 5)) = (Value.slice (some ⟨W.heap.size, 0, none⟩) s.data.toList.length (grownCap W s.size 0 5)) by rw [hlen]]
  refine ⟨W.heap.size, grownCap W s.size 0 5, bytesRow s (grownCap W s.size 0 5), ((bytesRow s (grownCap W s.size 0 5)).size, (bytesRow s (grownCap W s.size 0 5)).size + 1), rfl, hB, ?_, by rw [hlen]; exact hge, hle, hsize, ?_, .inr (by dsimp only; rw [hsize]; exact Nat.le_refl _)⟩
  · show (W.heap.push _)[W.heap.size]? = _
    simp
  · simp only [bytesRow, Array.toList_append, Array.toList_map]
    rw [List.take_append_of_le_length (by simp)]
    rw [List.take_of_length_le (by simp)]
    rfl

theorem BRow.mono {W : World} {B B' : Nat} {v : Value} {l : List UInt8} (h : BRow W B v l) (hB : B' ≤ B) : BRow W B' v l := by
  obtain ⟨g, cap, cur, fr, hv, hg, hh⟩ := h
  exact ⟨g, cap, cur, fr, hv, by omega, hh⟩

theorem BRow.cell {W : World} {B : Nat} {v : Value} {l : List UInt8} (h : BRow W B v l) {g cap : Nat} (hv : v = .slice (some ⟨g, 0, none⟩) l.length cap) (j : Nat) (hj : j < l.length) : W.cell? ⟨g, j, none⟩ = some (cb l[j]) := by
  obtain ⟨g', cap', cur, fr, hv', hg, hh, h1, h2, h3, h4, h5⟩ := h
  rw [hv] at hv'
  injection hv' with e1 e2 e3
  injection e1 with e1
  injection e1 with e1
  subst e1
  rw [Go.cell_of_row _ _ _ _ _ _ hh]
  have := congrArg (fun x => x[j]?) h4
  simp only [List.getElem?_take, hj, ↓reduceIte, List.getElem?_map] at this
  rw [List.getElem?_eq_getElem hj] at this
  simpa using this

theorem info5 : (Try.prog.info? 5).map (fun i => (i.zero, i.size, i.bytes)) = some (some (.int .u8 0), 1, 1) := by kernel_rfl

/-- One byte more. -/
theorem wpList_append_byte (w : World) {ops : Array Oper} {rest : List Oper} {o : Oper} {a : Act} {Q : Exit → Act → World → Prop}
    (hg : o.guard = none) (s x : Operand) (hop : o.op = Op.call { callee := Callee.builtin Builtin.append, args := #[s, x], argTypes := #[22, 22] })
    {B : Nat} {v : Value} {l : List UInt8} (c : UInt8) (hs : a.eval s = v) (hrow : BRow w B v l) (hB : B ≤ w.heap.size)
    (g' cp : Nat) (hx : a.eval x = .slice (some ⟨g', 0, none⟩) 1 cp) (hc : w.cell? ⟨g', 0, none⟩ = some (cb c))
    (b1 : l.length + 1 ≤ maxLen) (b2 : l.length + 1 ≤ 140737488355328)
    (h : ∀ v' w', BRow w' B v' (l ++ [c]) → Below B w w' → wpList Try.prog ops Q rest (a.put o.dst v') w') :
    wpList Try.prog ops Q (o :: rest) a w := by
  obtain ⟨i0, hi, hz0, hz1, hz2⟩ := info_parts info5
  have hrow' := hrow
  obtain ⟨g, cap, cur, fr, rfl, hgB, hh, h1, h2, h3, h4, h5⟩ := hrow'
  have hcell := fun j hj => hrow.cell rfl j hj
  refine wpList_append_arg w hg s x 22 hop 5 i0 (.int .u8 0) 1 1 Try.underlying22 hi hz0 hz1 hz2 rfl (by decide)
    g 0 l.length cap (l.map cb) hs (by simp) ?_ ⟨g', 0, none⟩ 1 cp [cb c] hx rfl ?_ ?_ ?_ b1 (by simpa using b2) ?_ ?_
  · intro j u hj
    rw [List.getElem?_map] at hj
    obtain ⟨z, hz, rfl⟩ := Option.map_eq_some_iff.1 hj
    obtain ⟨hlt, rfl⟩ := List.getElem?_eq_some_iff.1 hz
    rw [Nat.zero_add]; exact hcell j hlt
  · intro j u hj
    match j, hj with
    | 0, hj => simp at hj; subst hj; simpa [Addr.add] using hc
  · intro u hu; simp at hu; subst hu; rfl
  · intro hroom j hj
    simp at hj
    subst hj
    simp only [Nat.zero_add, Nat.mul_one, Nat.add_zero]
    refine ⟨?_, ?_⟩
    · rw [Go.cell_of_row _ _ _ _ _ _ hh, Array.getElem?_eq_getElem (by omega)]; rfl
    · simp only [World.frozen?, hh]
      rcases h5 with rfl | h5
      · simp
      · simp; omega
  · intro hroom
    simp only [Nat.zero_add, Nat.mul_one, World.setCells]
    refine h _ _ ?_ ((Below.refl _ _).setCell hgB _)
    refine ⟨g, cap, cur.setIfInBounds l.length (cb c), fr, by simp, hgB, ?_, by simp; omega, h2, by simp [h3], ?_, h5⟩
    · show (w.heap.modify g _)[g]? = _
      rw [Array.getElem?_modify, if_pos rfl, hh]
      simp
    · simp only [List.length_append, List.length_singleton, Array.toList_setIfInBounds, List.map_append, List.map_cons, List.map_nil, ← h4]
      apply List.ext_getElem?
      intro k
      rw [List.getElem?_take, List.getElem?_set, List.getElem?_append]
      simp only [List.length_take, Array.length_toList]
      have hm : min l.length cur.size = l.length := by omega
      rw [hm]
      by_cases hk : k < l.length
      · have e1 : k < l.length + 1 := by omega
        have e2 : ¬ l.length = k := by omega
        simp [hk, e1, e2]
      · by_cases hk2 : k = l.length
        · subst hk2
          have : l.length < cur.size := by omega
          simp [this]
        · have e1 : ¬ k < l.length + 1 := by omega
          have : k - l.length = (k - l.length - 1) + 1 := by omega
          rw [if_neg e1, if_neg hk, this]
          rfl
  · intro hfull v' w' hown hgrow
    refine h v' w' ?_ ?_
    · have : l.map cb ++ [cb c] = (l ++ [c]).map cb := by simp
      rw [this] at hown
      exact (BRow.of_own (by simpa using hown) (by simp)).mono hB
    · exact (Below.refl B w).grown hgrow hB (by simp)

end Go.Proofs.Ytoeflkmhofkiaaa
