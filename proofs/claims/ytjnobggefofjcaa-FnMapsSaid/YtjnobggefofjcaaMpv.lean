import Derived.Test.YtjnobggefofjcaaCel
import Derived.IntWalk
import Derived.Laws.OwnMore
import Derived.Deep.AppendLies
import Derived.Deep.MidRow
import Derived.Lib.Hide
namespace Go.Proofs.Ytjnobggefofjcaa
open Go.RowKit

/-- A mapping. -/
structure Mp where
  sub : Int
  seq : Int
  len : Int

def Mp.cells (m : Mp) : Array Value := #[.int .i64 m.sub, .int .i64 m.seq, .int .i64 m.len]
def Mp.zero : Mp := ⟨0, 0, 0⟩
theorem Mp.cells_size (m : Mp) : m.cells.size = 3 := rfl
theorem Mp.cells_one (m : Mp) : m.cells.all (·.oneCell') = true := by simp [Mp.cells, Value.oneCell']

/-- The cells of mappings, one behind the other. -/
def flat : List Mp → List Value
  | [] => []
  | m :: r => .int .i64 m.sub :: .int .i64 m.seq :: .int .i64 m.len :: flat r

theorem flat_length (l : List Mp) : (flat l).length = l.length * 3 := by
  induction l with
  | nil => rfl
  | cons m r ih => simp only [flat, List.length_cons, ih]; omega

theorem flat_append (l r : List Mp) : flat (l ++ r) = flat l ++ flat r := by
  induction l with
  | nil => rfl
  | cons m l ih => simp [flat, ih]

theorem flat_one (m : Mp) : flat [m] = m.cells.toList := rfl

theorem flat_oneCell (l : List Mp) : ∀ u ∈ flat l, u.oneCell' = true := by
  induction l with
  | nil => intro u hu; cases hu
  | cons m r ih =>
    intro u hu
    simp only [flat, List.mem_cons] at hu
    rcases hu with rfl | rfl | rfl | hu
    · rfl
    · rfl
    · rfl
    · exact ih u hu

theorem flat_take (l : List Mp) (i : Nat) : (flat l).take (i * 3) = flat (l.take i) := by
  induction l generalizing i with
  | nil => simp [flat]
  | cons m r ih =>
    cases i with
    | zero => simp [flat]
    | succ i =>
      rw [show (i + 1) * 3 = i * 3 + 3 by omega]
      simp only [flat, List.take_succ_cons, ih]

theorem flat_drop (l : List Mp) (i : Nat) : (flat l).drop (i * 3) = flat (l.drop i) := by
  induction l generalizing i with
  | nil => simp [flat]
  | cons m r ih =>
    cases i with
    | zero => simp [flat]
    | succ i =>
      rw [show (i + 1) * 3 = i * 3 + 3 by omega]
      simp only [flat, List.drop_succ_cons, ih]

theorem flat_at (l : List Mp) (i : Nat) (h : i < l.length) : (flat l)[i * 3]? = some (.int .i64 l[i].sub) ∧ (flat l)[i * 3 + 1]? = some (.int .i64 l[i].seq) ∧ (flat l)[i * 3 + 2]? = some (.int .i64 l[i].len) := by
  induction l generalizing i with
  | nil => simp at h
  | cons m r ih =>
    cases i with
    | zero => simp [flat]
    | succ i =>
      have := ih i (by simpa using h)
      rw [show (i + 1) * 3 = i * 3 + 3 by omega]
      simpa [flat] using this

theorem flat_set (l : List Mp) (i : Nat) (m : Mp) (h : i < l.length) : flat (l.set i m) = (flat l).take (i * 3) ++ m.cells.toList ++ (flat l).drop (i * 3 + 3) := by
  rw [List.set_eq_take_append_cons_drop, if_pos h, flat_append, flat_take, show i * 3 + 3 = (i + 1) * 3 by omega, flat_drop]
  simp [flat, Mp.cells]

/-! Rows of mappings. -/
/-- A slice of mappings that can be read. -/
def RdM (W : World) (v : Value) (ms : List Mp) : Prop :=
  ∃ a c, v = .slice a ms.length c ∧ (0 < ms.length → ∃ b off, a = some ⟨b, off, none⟩ ∧ W.rangeAt b off (flat ms))

theorem range_below {W W' : World} {B b off : Nat} {cs : List Value} (h : W.rangeAt b off cs) (hb : Below B W W') (hB : b < B) : W'.rangeAt b off cs := fun j v hv => by
  rw [← h j v hv]
  exact Below.cell hb hB
theorem range_block {W W' : World} {b off : Nat} {cs : List Value} (h : W.rangeAt b off cs) (hb : W'.heap[b]? = W.heap[b]?) : W'.rangeAt b off cs := fun j v hv => by
  rw [← h j v hv]
  exact World.cell?_of_block hb

theorem RdM.range_lt {W : World} {b off : Nat} {ms : List Mp} (h : W.rangeAt b off (flat ms)) (h0 : 0 < ms.length) : b < W.heap.size :=
  World.block_lt_of_cell? _ _ (h 0 _ (flat_at ms 0 h0).1)

theorem RdM.below {W W' : World} {v : Value} {ms : List Mp} (h : RdM W v ms) (hb : Below W.heap.size W W') : RdM W' v ms := by
  obtain ⟨a, c, rfl, h⟩ := h
  refine ⟨a, c, rfl, fun h0 => ?_⟩
  obtain ⟨b, off, ha, h3⟩ := h h0
  exact ⟨b, off, ha, range_below h3 hb (RdM.range_lt h3 h0)⟩

theorem RdM.drew {W : World} {v : Value} {ms : List Mp} (h : RdM W v ms) : RdM W.drew v ms := h

theorem RdM.form {W : World} {v : Value} {ms : List Mp} (h : RdM W v ms) : ∃ a c, v = .slice a ms.length c := by
  obtain ⟨a, c, rfl, -⟩ := h
  exact ⟨a, c, rfl⟩

/-- What the cells of the i-th mapping hold, and the whole of it. -/
theorem RdM.at {W : World} {P : Program} {a : Option Addr} {n c : Nat} {ms : List Mp} (h : RdM W (.slice a n c) ms) (i : Nat) (hi : i < ms.length) :
    ∃ b off, a = some ⟨b, off, none⟩ ∧ b < W.heap.size ∧ W.cell? ⟨b, off + i * 3, none⟩ = some (.int .i64 ms[i].sub) ∧ W.cell? ⟨b, off + i * 3 + 1, none⟩ = some (.int .i64 ms[i].seq) ∧ W.cell? ⟨b, off + i * 3 + 2, none⟩ = some (.int .i64 ms[i].len) ∧
      (loadCells ⟨b, off + i * 3, none⟩ 3).run P W = .ok ms[i].cells W := by
  obtain ⟨a', c', he, h⟩ := h
  injection he with e1 e2 e3
  subst e1 e3
  obtain ⟨b, off, ha, hr⟩ := h (by omega)
  obtain ⟨f0, f1, f2⟩ := flat_at ms i hi
  have h0 := hr _ _ f0
  have h1 := hr _ _ f1
  have h2 := hr _ _ f2
  refine ⟨b, off, ha, RdM.range_lt hr (by omega), h0, by rw [Nat.add_assoc]; exact h1, by rw [Nat.add_assoc]; exact h2, ?_⟩
  have hl := run_loadCells_list (P := P) W ⟨b, off + i * 3, none⟩ ms[i].cells.toList (fun j v hv => by
    rw [Addr.add_mid]
    match j, hv with
    | 0, hv => simp [Mp.cells] at hv; subst hv; exact h0
    | 1, hv => simp [Mp.cells] at hv; subst hv; rw [Nat.add_assoc]; exact h1
    | 2, hv => simp [Mp.cells] at hv; subst hv; rw [Nat.add_assoc]; exact h2)
  rw [Array.length_toList, Mp.cells_size] at hl
  simpa using hl

/-- .. and one that the call has made: in a block from B on and below C, or nil. -/
def OwnM (W : World) (B C : Nat) (v : Value) (ms : List Mp) : Prop :=
  W.ownsRow B 26 3 v ms.length (flat ms) ∧ ∀ g, v.ownBlock = some g → g < C

theorem OwnM.keepAt {W W' : World} {B C : Nat} {v : Value} {ms : List Mp} (h : OwnM W B C v ms) (hb : ∀ g, v.ownBlock = some g → W'.heap[g]? = W.heap[g]?) : OwnM W' B C v ms := by
  obtain ⟨⟨h1, h2⟩, h3⟩ := h
  refine ⟨⟨h1, ?_⟩, h3⟩
  rcases h2 with h2 | ⟨g, cap, cur, hv, hg, hh, r⟩
  · exact .inl h2
  · exact .inr ⟨g, cap, cur, hv, hg, by rw [hb g (by rw [hv]; rfl)]; exact hh, r⟩

theorem OwnM.keep {W W' : World} {B C D : Nat} {v : Value} {ms : List Mp} (h : OwnM W B C v ms) (hb : Below D W W') (hC : C ≤ D) : OwnM W' B C v ms :=
  h.keepAt fun g hg => hb.block g (Nat.lt_of_lt_of_le (h.2 g hg) hC)

theorem OwnM.mono {W : World} {B B' C C' : Nat} {v : Value} {ms : List Mp} (h : OwnM W B C v ms) (hB : B' ≤ B) (hC : C ≤ C') : OwnM W B' C' v ms := by
  obtain ⟨⟨h1, h2⟩, h3⟩ := h
  refine ⟨⟨h1, ?_⟩, fun g hg => Nat.lt_of_lt_of_le (h3 g hg) hC⟩
  rcases h2 with h2 | ⟨g, cap, cur, hv, hg, r⟩
  · exact .inl h2
  · exact .inr ⟨g, cap, cur, hv, Nat.le_trans hB hg, r⟩

theorem OwnM.block {W : World} {B C : Nat} {v : Value} {ms : List Mp} (h : OwnM W B C v ms) (g : Nat) (hg : v.ownBlock = some g) : B ≤ g ∧ g < C := by
  refine ⟨?_, h.2 g hg⟩
  rcases h.1.2 with ⟨rfl, _⟩ | ⟨g', cap, cur, hv, hgB, _⟩
  · simp [Value.ownBlock] at hg
  · rw [hv] at hg
    simp [Value.ownBlock] at hg
    omega

theorem OwnM.nil {W : World} {B C : Nat} : OwnM W B C (.slice none 0 0) [] := ⟨⟨rfl, .inl ⟨rfl, rfl⟩⟩, fun g hg => by simp [Value.ownBlock] at hg⟩

theorem take_range {W : World} {g n : Nat} {cur : Array Value} {e : TypeId} {xs : List Value} (hh : W.heap[g]? = some (.cells cur e (0, 0))) (h : cur.toList.take n = xs) : W.rangeAt g 0 xs := fun j v hv => by
  subst h
  rw [Nat.zero_add, cell_of_row _ _ _ _ _ _ hh]
  rw [List.getElem?_take] at hv
  split at hv
  · simpa using hv
  · cases hv

theorem OwnM.rd {W : World} {B C : Nat} {v : Value} {ms : List Mp} (h : OwnM W B C v ms) : RdM W v ms := by
  obtain ⟨⟨h1, h2⟩, h3⟩ := h
  rcases h2 with ⟨rfl, h2⟩ | ⟨g, cap, cur, rfl, hg, hh, r1, r2, r3, r4⟩
  · exact ⟨none, 0, by rw [h2], fun h => by rw [h2] at h; omega⟩
  · exact ⟨some ⟨g, 0, none⟩, cap, rfl, fun _ => ⟨g, 0, rfl, take_range hh r4⟩⟩

theorem OwnM.form {W : World} {B C : Nat} {v : Value} {ms : List Mp} (h : OwnM W B C v ms) : ∃ a c, v = .slice a ms.length c ∧ (0 < ms.length → ∃ g, a = some ⟨g, 0, none⟩ ∧ B ≤ g ∧ g < C) := by
  rcases h.1.2 with ⟨rfl, h0⟩ | ⟨g, cap, cur, rfl, hg, _⟩
  · exact ⟨none, 0, by rw [h0], fun h1 => by rw [h0] at h1; omega⟩
  · exact ⟨some ⟨g, 0, none⟩, cap, rfl, fun _ => ⟨g, rfl, hg, h.2 g rfl⟩⟩

/-- What the cells of the i-th mapping of one's own hold; none is frozen. -/
theorem OwnM.at {W : World} {B C : Nat} {g n cap : Nat} {ms : List Mp} (h : OwnM W B C (.slice (some ⟨g, 0, none⟩) n cap) ms) (i : Nat) (hi : i < ms.length) :
    W.cell? ⟨g, i * 3, none⟩ = some (.int .i64 ms[i].sub) ∧ W.cell? ⟨g, i * 3 + 1, none⟩ = some (.int .i64 ms[i].seq) ∧ W.cell? ⟨g, i * 3 + 2, none⟩ = some (.int .i64 ms[i].len) ∧ (∀ j, W.frozen? ⟨g, j, none⟩ = false) ∧ g < W.heap.size ∧ W.there g (i * 3) 3 := by
  obtain ⟨b, off, he, hb, c0, c1, c2, -⟩ := (h.rd).at (P := Try.prog) i hi
  injection he with he
  injection he with e1 e2
  subst e1 e2
  rw [Nat.zero_add] at c0 c1 c2
  obtain ⟨⟨h1, h2⟩, h3⟩ := h
  rcases h2 with ⟨h2, _⟩ | ⟨g', cap', cur, hv, hg, hh, r1, r2, r3, r4⟩
  · cases h2
  · injection hv with e1 e2 e3
    injection e1 with e1
    injection e1 with e1
    subst e1
    have hf : ∀ j, W.frozen? ⟨g, j, none⟩ = false := fun j => by simp [World.frozen?, hh]
    refine ⟨c0, c1, c2, hf, hb, fun j hj => ⟨?_, hf _⟩⟩
    match j, hj with
    | 0, _ => rw [Nat.add_zero, c0]; rfl
    | 1, _ => rw [c1]; rfl
    | 2, _ => rw [c2]; rfl

theorem heap_setCells_same (g : Nat) (t : TypeId) : ∀ (vs : List Value) (o : Nat) (W : World) (cur : Array Value), W.heap[g]? = some (.cells cur t (0, 0)) → o + vs.length ≤ cur.size →
    ∃ cur', (W.setCells g o vs).heap[g]? = some (.cells cur' t (0, 0)) ∧ cur'.size = cur.size ∧ cur'.toList = cur.toList.take o ++ vs ++ cur.toList.drop (o + vs.length)
  | [], o, W, cur, h, _ => ⟨cur, h, rfl, by simp⟩
  | v :: vs, o, W, cur, h, hl => by
    simp only [List.length_cons] at hl
    have h1 : (W.setCell ⟨g, o, none⟩ v).heap[g]? = some (.cells (cur.setIfInBounds o v) t (0, 0)) := (Cel.set (show Cel W g t cur from h) o v)
    obtain ⟨cur', h2, h3, h4⟩ := heap_setCells_same g t vs (o + 1) _ _ h1 (by simp; omega)
    refine ⟨cur', h2, by simpa using h3, ?_⟩
    rw [h4, Array.toList_setIfInBounds]
    apply List.ext_getElem?
    intro i
    simp only [List.getElem?_append, List.getElem?_take, List.getElem?_drop, List.getElem?_set, List.length_append, List.length_take, List.length_set, List.length_cons, Array.length_toList, List.getElem?_cons]
    by_cases i1 : i < o
    · simp [i1, show i < min (o + 1) cur.size by omega, show i < min (o + 1) cur.size + vs.length by omega, show i < min o cur.size by omega, show i < min o cur.size + (vs.length + 1) by omega, show i < o + 1 by omega, show ¬ o = i by omega]
    · by_cases i2 : i = o
      · subst i2
        simp [show i < min (i + 1) cur.size by omega, show i < min (i + 1) cur.size + vs.length by omega, show ¬ i < min i cur.size by omega, show i < min i cur.size + (vs.length + 1) by omega, show i < cur.size by omega, show i - min i cur.size = 0 by omega]
      · have e1 : min (o + 1) cur.size = o + 1 := by omega
        have e2 : min o cur.size = o := by omega
        rw [e1, e2]
        by_cases i3 : i < o + 1 + vs.length
        · simp [i3, show ¬ i < o + 1 by omega, show ¬ i < o by omega, show i < o + (vs.length + 1) by omega, show ¬ i - o = 0 by omega, show i - (o + 1) = i - o - 1 by omega]
        · simp [i3, show ¬ i < o + (vs.length + 1) by omega]
          rw [if_neg (by omega)]
          congr 1
          omega

/-- One mapping stored in a row of one's own. -/
theorem OwnM.put {W : World} {B C : Nat} {g n cap : Nat} {ms : List Mp} (h : OwnM W B C (.slice (some ⟨g, 0, none⟩) n cap) ms) (i : Nat) (hi : i < ms.length) (m : Mp) :
    OwnM (W.setCells g (i * 3) m.cells.toList) B C (.slice (some ⟨g, 0, none⟩) n cap) (ms.set i m) := by
  obtain ⟨⟨h1, h2⟩, h3⟩ := h
  rcases h2 with ⟨h2, _⟩ | ⟨g', cap', cur, hv, hg, hh, r1, r2, r3, r4⟩
  · cases h2
  · injection hv with e1 e2 e3
    injection e1 with e1
    injection e1 with e1
    subst e1 e2 e3
    obtain ⟨cur', k1, k2, k3⟩ := heap_setCells_same g 26 m.cells.toList (i * 3) W cur hh (by rw [Array.length_toList, Mp.cells_size]; omega)
    refine ⟨⟨by rw [flat_length], .inr ⟨g, cap, cur', by simp, hg, k1, by simpa using r1, r2, by omega, ?_⟩⟩, h3⟩
    have hml : m.cells.toList.length = 3 := rfl
    rw [k3, flat_set _ _ _ hi, ← r4, hml, List.length_set]
    apply List.ext_getElem?
    intro j
    simp only [List.getElem?_append, List.getElem?_take, List.getElem?_drop, List.length_append, List.length_take, Array.length_toList, Mp.cells_size]
    have e1 : min (i * 3) cur.size = i * 3 := by omega
    have e2 : min (ms.length * 3) cur.size = ms.length * 3 := by omega
    have e3 : min (i * 3) (ms.length * 3) = i * 3 := by omega
    rw [e1, e2, e3]
    by_cases i1 : j < i * 3
    · simp [i1, show j < ms.length * 3 by omega, show j < i * 3 + 3 by omega]
    · by_cases i2 : j < i * 3 + 3
      · simp [i1, i2, show j < ms.length * 3 by omega]
      · simp [i2]
        by_cases i3 : j < ms.length * 3
        · simp [i3, show i * 3 + 3 + (j - (i * 3 + 3)) = j by omega]
        · simp [i3, show ¬ i * 3 + 3 + (j - (i * 3 + 3)) < ms.length * 3 by omega]

theorem set3_cells (W : World) (g o : Nat) (m : Mp) : W.setCells g o m.cells.toList = ((W.setCell ⟨g, o, none⟩ (.int .i64 m.sub)).setCell ⟨g, o + 1, none⟩ (.int .i64 m.seq)).setCell ⟨g, o + 2, none⟩ (.int .i64 m.len) := rfl

/-- A block that is just these cells is a row of one's own. -/
theorem OwnM.of_cel {W : World} {g B C : Nat} {ms : List Mp} (h : Cel W g 26 (flat ms).toArray) (hB : B ≤ g) (hC : g < C) (hm : ms.length ≤ maxLen) : OwnM W B C (.slice (some ⟨g, 0, none⟩) ms.length ms.length) ms := by
  refine ⟨⟨by rw [flat_length], .inr ⟨g, ms.length, (flat ms).toArray, rfl, hB, h, Nat.le_refl _, hm, by rw [List.size_toArray, flat_length], by rw [← flat_length]; simp⟩⟩, fun g' hg => ?_⟩
  simp [Value.ownBlock] at hg
  omega

theorem OwnM.grown {W W' : World} {B C : Nat} {v : Value} {ms : List Mp} {row : Option Nat} (h : OwnM W B C v ms) (hg : W.grownBy W' row) (hC : C ≤ W.heap.size) (hr : ∀ g, v.ownBlock = some g → some g ≠ row) : OwnM W' B C v ms :=
  h.keepAt fun g hv => hg.block g (Nat.lt_of_lt_of_le (h.2 g hv) hC) (hr g hv)

theorem sizeMap (m : Mp) : (Try.prog.info? 26).map (·.size) = some m.cells.size := by rw [Mp.cells_size]; kernel_rfl
theorem sizeMapL (m : Mp) : (Try.prog.info? 41).map (·.size) = some m.cells.size := by rw [Mp.cells_size]; kernel_rfl
theorem infoM : (Try.prog.info? 26).map (fun i => (i.zero, i.size, i.bytes)) = some (some (.agg #[.int .i64 0, .int .i64 0, .int .i64 0]), 3, 24) := by kernel_rfl

theorem flat_zeros (n : Nat) : (flat (List.replicate n Mp.zero)).toArray = madeCells (Value.agg #[.int .i64 0, .int .i64 0, .int .i64 0]).cells (n * 3) := by
  have hz : ∀ (n : Nat) (i : Nat) (v : Value), (flat (List.replicate n Mp.zero))[i]? = some v → v = .int .i64 0 := fun n => by
    induction n with
    | zero => intro i v h; simp [flat] at h
    | succ n ih =>
      intro i v h
      rw [List.replicate_succ] at h
      match i, h with
      | 0, h => simpa [flat, Mp.zero, eq_comm] using h
      | 1, h => simpa [flat, Mp.zero, eq_comm] using h
      | 2, h => simpa [flat, Mp.zero, eq_comm] using h
      | i + 3, h => exact ih i v (by simpa [flat] using h)
  apply Array.ext
  · simp [madeCells, flat_length]
  · intro i h1 h2
    have e1 : (flat (List.replicate n Mp.zero)).toArray[i] = .int .i64 0 := hz n i _ (by rw [List.getElem?_eq_getElem (by simpa using h1)]; simp)
    rw [e1]
    simp only [madeCells, Array.getElem_map, Array.getElem_range, Value.cells]
    have h3 : i % 3 < 3 := Nat.mod_lt _ (by omega)
    show _ = #[Value.int .i64 0, .int .i64 0, .int .i64 0][i % 3]!
    match i % 3, h3 with
    | 0, _ => rfl
    | 1, _ => rfl
    | 2, _ => rfl

theorem make_maps (n : Nat) (hn : n ≤ 1048576) (W : World) :
    (Instr.makeSlice 24 (.int .i64 (n : Int)) (.int .i64 (n : Int))).run Try.prog W = .ok (.slice (some ⟨W.heap.size, 0, none⟩) n n) (W.alloc (.cells (flat (List.replicate n Mp.zero)).toArray 26)) := by
  obtain ⟨i0, hi, hz0, hz1, hz2⟩ := info_parts infoM
  have h := run_makeSlice (P := Try.prog) W 24 26 i0 _ Try.underlying24 hi hz0 .i64 .i64 (n : Int) (n : Int) (by omega) (by omega) (by rw [hz1]; omega) (by rw [hz2]; omega) (by omega)
  rw [h, hz1, flat_zeros]
  simp

theorem setCells3_other (g o : Nat) (vs : List Value) (W : World) (k : Nat) (h : k ≠ g) : (W.setCells g o vs).heap[k]? = W.heap[k]? := by
  induction vs generalizing o W with
  | nil => rfl
  | cons v vs ih =>
    show ((W.setCell ⟨g, o, none⟩ v).setCells g (o + 1) vs).heap[k]? = _
    rw [ih]
    exact Below.heap_setCell _ _ _ _ h
theorem setCells3_size (g o : Nat) (vs : List Value) (W : World) : (W.setCells g o vs).heap.size = W.heap.size := by
  induction vs generalizing o W with
  | nil => rfl
  | cons v vs ih =>
    show ((W.setCell ⟨g, o, none⟩ v).setCells g (o + 1) vs).heap.size = _
    rw [ih]
    simp
theorem setCells3_below (g B : Nat) (hB : B ≤ g) (o : Nat) (vs : List Value) (W : World) : Below B W (W.setCells g o vs) := by
  induction vs generalizing o W with
  | nil => exact Below.refl _ _
  | cons v vs ih => exact ((Below.refl B W).setCell (p := ⟨g, o, none⟩) hB v).trans (ih (o + 1) _)
end Go.Proofs.Ytjnobggefofjcaa
