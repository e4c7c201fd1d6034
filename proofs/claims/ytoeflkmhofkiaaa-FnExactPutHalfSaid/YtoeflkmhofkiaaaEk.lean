import Derived.Test.YtoeflkmhofkiaaaCel
import Derived.IntWalk
import Derived.Laws.OwnMore
import Derived.Laws.CopyRow
import Derived.Lib.SliceRun
import Derived.Deep.AppendLies
import Derived.Deep.MidRow
import Derived.Maps.AppendAt
import Derived.Lib.Hide
namespace Go.Proofs.Ytoeflkmhofkiaaa
open Go.RowKit
set_option maxRecDepth 100000

/-- A kind of elements that a row can have: so many cells each, all plain. -/
structure EK (α : Type) where
  t : TypeId
  n : Nat
  cs : α → List Value
  len : ∀ a, (cs a).length = n
  pos : 0 < n
  one : ∀ a, ∀ u ∈ cs a, u.oneCell' = true
  zero : α
  zv : Value
  zcs : zv.cells = (cs zero).toArray
  bytes : Nat
  bnd : bytes ≤ 256
  wid : n ≤ 64
  info : (Try.prog.info? t).map (fun i => (i.zero, i.size, i.bytes)) = some (some zv, n, bytes)

section
variable {α : Type} {K : EK α}

/-- The cells of elements, one behind the other. -/
def EK.flat (K : EK α) : List α → List Value
  | [] => []
  | x :: r => K.cs x ++ K.flat r

theorem eflat_length (K : EK α) (l : List α) : (K.flat l).length = l.length * K.n := by
  induction l with
  | nil => simp [EK.flat]
  | cons x r ih => simp only [EK.flat, List.length_append, K.len, ih, List.length_cons, Nat.add_mul, Nat.one_mul]; omega

theorem eflat_append (K : EK α) (l r : List α) : K.flat (l ++ r) = K.flat l ++ K.flat r := by
  induction l with
  | nil => rfl
  | cons x l ih => simp [EK.flat, ih]

theorem eflat_one (K : EK α) (x : α) : K.flat [x] = K.cs x := by simp [EK.flat]

theorem eflat_oneCell (K : EK α) (l : List α) : ∀ u ∈ K.flat l, u.oneCell' = true := by
  induction l with
  | nil => intro u hu; cases hu
  | cons x r ih =>
    intro u hu
    simp only [EK.flat, List.mem_append] at hu
    rcases hu with hu | hu
    · exact K.one x u hu
    · exact ih u hu

theorem eflat_take (K : EK α) (l : List α) (i : Nat) : (K.flat l).take (i * K.n) = K.flat (l.take i) := by
  induction l generalizing i with
  | nil => simp [EK.flat]
  | cons x r ih =>
    cases i with
    | zero => simp [EK.flat]
    | succ i =>
      have e : (i + 1) * K.n = (K.cs x).length + i * K.n := by rw [K.len, Nat.add_mul, Nat.one_mul]; omega
      rw [e]
      simp only [EK.flat, List.take_succ_cons, List.take_length_add_append, ih]

theorem eflat_drop (K : EK α) (l : List α) (i : Nat) : (K.flat l).drop (i * K.n) = K.flat (l.drop i) := by
  induction l generalizing i with
  | nil => simp [EK.flat]
  | cons x r ih =>
    cases i with
    | zero => simp [EK.flat]
    | succ i =>
      have e : (i + 1) * K.n = (K.cs x).length + i * K.n := by rw [K.len, Nat.add_mul, Nat.one_mul]; omega
      rw [e]
      simp only [EK.flat, List.drop_succ_cons, List.drop_length_add_append, ih]

theorem eflat_at (K : EK α) (l : List α) (i : Nat) (h : i < l.length) (j : Nat) (hj : j < K.n) : (K.flat l)[i * K.n + j]? = (K.cs l[i])[j]? := by
  have h1 : (K.flat l).drop (i * K.n) = K.flat (l.drop i) := eflat_drop K l i
  rw [List.drop_eq_getElem_cons h, EK.flat] at h1
  have h2 := congrArg (fun x => x[j]?) h1
  simp only [List.getElem?_drop] at h2
  rw [h2, List.getElem?_append_left (by rw [K.len]; exact hj)]

theorem eflat_set (K : EK α) (l : List α) (i : Nat) (x : α) (h : i < l.length) : K.flat (l.set i x) = (K.flat l).take (i * K.n) ++ K.cs x ++ (K.flat l).drop (i * K.n + K.n) := by
  have e : i * K.n + K.n = (i + 1) * K.n := by rw [Nat.add_mul, Nat.one_mul]
  rw [List.set_eq_take_append_cons_drop, if_pos h, eflat_append, eflat_take, e, eflat_drop]
  simp [EK.flat]

/-- A slice of such elements that can be read. -/
def RdE (K : EK α) (W : World) (v : Value) (xs : List α) : Prop :=
  ∃ a c, v = .slice a xs.length c ∧ (0 < xs.length → ∃ b off, a = some ⟨b, off, none⟩ ∧ W.rangeAt b off (K.flat xs))

theorem erange_below {W W' : World} {B b off : Nat} {cs : List Value} (h : W.rangeAt b off cs) (hb : Below B W W') (hB : b < B) : W'.rangeAt b off cs := fun j v hv => by
  rw [← h j v hv]
  exact Below.cell hb hB
theorem erange_block {W W' : World} {b off : Nat} {cs : List Value} (h : W.rangeAt b off cs) (hb : W'.heap[b]? = W.heap[b]?) : W'.rangeAt b off cs := fun j v hv => by
  rw [← h j v hv]
  exact World.cell?_of_block hb

theorem erange_lt {W : World} {b off : Nat} {xs : List α} (h : W.rangeAt b off (K.flat xs)) (h0 : 0 < xs.length) : b < W.heap.size := by
  have hp := K.pos
  have hl : 0 < (K.flat xs).length := by rw [eflat_length]; exact Nat.mul_pos h0 hp
  exact World.block_lt_of_cell? _ _ (h 0 _ (List.getElem?_eq_getElem hl))

theorem RdE.below {W W' : World} {v : Value} {xs : List α} (h : RdE K W v xs) (hb : Below W.heap.size W W') : RdE K W' v xs := by
  obtain ⟨a, c, rfl, h⟩ := h
  refine ⟨a, c, rfl, fun h0 => ?_⟩
  obtain ⟨b, off, ha, h3⟩ := h h0
  exact ⟨b, off, ha, erange_below h3 hb (erange_lt h3 h0)⟩

theorem RdE.drew {W : World} {v : Value} {xs : List α} (h : RdE K W v xs) : RdE K W.drew v xs := h
theorem RdE.drewN {W : World} {n : Nat} {v : Value} {xs : List α} (h : RdE K W v xs) : RdE K (W.drewN n) v xs := h
theorem below_drewE {B n : Nat} {w W : World} (h : Below B w W) : Below B w (W.drewN n) := ⟨h.os, h.tape, h.output, h.size, h.block⟩

theorem RdE.form {W : World} {v : Value} {xs : List α} (h : RdE K W v xs) : ∃ a c, v = .slice a xs.length c := by
  obtain ⟨a, c, rfl, -⟩ := h
  exact ⟨a, c, rfl⟩

theorem RdE.nil (W : World) (a : Option Addr) (c : Nat) : RdE K W (.slice a 0 c) [] := ⟨a, c, rfl, fun h => absurd h (by simp)⟩

/-- The cells of the i-th element, and the whole of it. -/
theorem RdE.at {W : World} {P : Program} {a : Option Addr} {n c : Nat} {xs : List α} (h : RdE K W (.slice a n c) xs) (i : Nat) (hi : i < xs.length) :
    ∃ b off, a = some ⟨b, off, none⟩ ∧ b < W.heap.size ∧ (∀ j, j < K.n → W.cell? ⟨b, off + i * K.n + j, none⟩ = (K.cs xs[i])[j]?) ∧
      (loadCells ⟨b, off + i * K.n, none⟩ K.n).run P W = .ok (K.cs xs[i]).toArray W := by
  obtain ⟨a', c', he, h⟩ := h
  injection he with e1 e2 e3
  subst e1 e3
  obtain ⟨b, off, ha, hr⟩ := h (by omega)
  have hc : ∀ j, j < K.n → W.cell? ⟨b, off + i * K.n + j, none⟩ = (K.cs xs[i])[j]? := fun j hj => by
    have hf := eflat_at K xs i hi j hj
    have hjl : j < (K.cs xs[i]).length := by rw [K.len]; exact hj
    rw [List.getElem?_eq_getElem hjl] at hf ⊢
    rw [Nat.add_assoc]
    exact hr _ _ hf
  refine ⟨b, off, ha, erange_lt hr (by omega), hc, ?_⟩
  have hl := run_loadCells_list (P := P) W ⟨b, off + i * K.n, none⟩ (K.cs xs[i]) (fun j v hv => by
    rw [Addr.add_mid]
    have hj : j < K.n := by
      have := (List.getElem?_eq_some_iff.1 hv).1
      rwa [K.len] at this
    rw [hc j hj]
    exact hv)
  rw [K.len] at hl
  exact hl

/-- A part of a row that can be read. -/
theorem RdE.part {W : World} {b off n c c' : Nat} {xs : List α} (h : RdE K W (.slice (some ⟨b, off, none⟩) n c) xs) (i m : Nat) (hm : i + m ≤ xs.length) : RdE K W (.slice (some ⟨b, off + i * K.n, none⟩) m c') ((xs.drop i).take m) := by
  have hl : ((xs.drop i).take m).length = m := by rw [List.length_take, List.length_drop]; omega
  refine ⟨_, c', by rw [hl], fun h0 => ⟨b, off + i * K.n, rfl, fun j v hv => ?_⟩⟩
  obtain ⟨a, c2, he, h⟩ := h
  injection he with e1 e2 e3
  subst e1
  obtain ⟨b', off', ha, hr⟩ := h (by omega)
  injection ha with ha
  injection ha with ha1 ha2
  subst ha1 ha2
  rw [← eflat_take, ← eflat_drop, List.getElem?_take] at hv
  split at hv
  · rw [List.getElem?_drop] at hv
    rw [Nat.add_assoc]
    exact hr _ v hv
  · cases hv

/-- .. and one that the call has made: in a block from B on and below C, or nil. -/
def OwnE (K : EK α) (W : World) (B C : Nat) (v : Value) (xs : List α) : Prop :=
  W.ownsRow B K.t K.n v xs.length (K.flat xs) ∧ ∀ g, v.ownBlock = some g → g < C

theorem OwnE.keepAt {W W' : World} {B C : Nat} {v : Value} {xs : List α} (h : OwnE K W B C v xs) (hb : ∀ g, v.ownBlock = some g → W'.heap[g]? = W.heap[g]?) : OwnE K W' B C v xs := by
  obtain ⟨⟨h1, h2⟩, h3⟩ := h
  refine ⟨⟨h1, ?_⟩, h3⟩
  rcases h2 with h2 | ⟨g, cap, cur, hv, hg, hh, r⟩
  · exact .inl h2
  · exact .inr ⟨g, cap, cur, hv, hg, by rw [hb g (by rw [hv]; rfl)]; exact hh, r⟩

theorem OwnE.keep {W W' : World} {B C D : Nat} {v : Value} {xs : List α} (h : OwnE K W B C v xs) (hb : Below D W W') (hC : C ≤ D) : OwnE K W' B C v xs :=
  h.keepAt fun g hg => hb.block g (Nat.lt_of_lt_of_le (h.2 g hg) hC)

theorem OwnE.mono {W : World} {B B' C C' : Nat} {v : Value} {xs : List α} (h : OwnE K W B C v xs) (hB : B' ≤ B) (hC : C ≤ C') : OwnE K W B' C' v xs := by
  obtain ⟨⟨h1, h2⟩, h3⟩ := h
  refine ⟨⟨h1, ?_⟩, fun g hg => Nat.lt_of_lt_of_le (h3 g hg) hC⟩
  rcases h2 with h2 | ⟨g, cap, cur, hv, hg, r⟩
  · exact .inl h2
  · exact .inr ⟨g, cap, cur, hv, Nat.le_trans hB hg, r⟩

theorem OwnE.block {W : World} {B C : Nat} {v : Value} {xs : List α} (h : OwnE K W B C v xs) (g : Nat) (hg : v.ownBlock = some g) : B ≤ g ∧ g < C := by
  refine ⟨?_, h.2 g hg⟩
  rcases h.1.2 with ⟨rfl, _⟩ | ⟨g', cap, cur, hv, hgB, _⟩
  · simp [Value.ownBlock] at hg
  · rw [hv] at hg
    simp [Value.ownBlock] at hg
    omega

theorem OwnE.nil {W : World} {B C : Nat} : OwnE K W B C (.slice none 0 0) [] := ⟨⟨by simp [EK.flat], .inl ⟨rfl, rfl⟩⟩, fun g hg => by simp [Value.ownBlock] at hg⟩

theorem etake_range {W : World} {g n : Nat} {cur : Array Value} {e : TypeId} {xs : List Value} (hh : W.heap[g]? = some (.cells cur e (0, 0))) (h : cur.toList.take n = xs) : W.rangeAt g 0 xs := fun j v hv => by
  subst h
  rw [Nat.zero_add, cell_of_row _ _ _ _ _ _ hh]
  rw [List.getElem?_take] at hv
  split at hv
  · simpa using hv
  · cases hv

theorem OwnE.rd {W : World} {B C : Nat} {v : Value} {xs : List α} (h : OwnE K W B C v xs) : RdE K W v xs := by
  obtain ⟨⟨h1, h2⟩, h3⟩ := h
  rcases h2 with ⟨rfl, h2⟩ | ⟨g, cap, cur, rfl, hg, hh, r1, r2, r3, r4⟩
  · exact ⟨none, 0, by rw [h2], fun h => by rw [h2] at h; omega⟩
  · exact ⟨some ⟨g, 0, none⟩, cap, rfl, fun _ => ⟨g, 0, rfl, etake_range hh r4⟩⟩

theorem OwnE.form {W : World} {B C : Nat} {v : Value} {xs : List α} (h : OwnE K W B C v xs) : ∃ a c, v = .slice a xs.length c ∧ (0 < xs.length → ∃ g, a = some ⟨g, 0, none⟩ ∧ B ≤ g ∧ g < C) := by
  rcases h.1.2 with ⟨rfl, h0⟩ | ⟨g, cap, cur, rfl, hg, _⟩
  · exact ⟨none, 0, by rw [h0], fun h1 => by rw [h0] at h1; omega⟩
  · exact ⟨some ⟨g, 0, none⟩, cap, rfl, fun _ => ⟨g, rfl, hg, h.2 g rfl⟩⟩

/-- The cells of the i-th element of one's own; none is frozen. -/
theorem OwnE.at {W : World} {B C : Nat} {g n cap : Nat} {xs : List α} (h : OwnE K W B C (.slice (some ⟨g, 0, none⟩) n cap) xs) (i : Nat) (hi : i < xs.length) :
    (∀ j, j < K.n → W.cell? ⟨g, i * K.n + j, none⟩ = (K.cs xs[i])[j]?) ∧ (∀ j, W.frozen? ⟨g, j, none⟩ = false) ∧ g < W.heap.size ∧ W.there g (i * K.n) K.n := by
  obtain ⟨b, off, he, hb, hc, -⟩ := (h.rd).at (P := Try.prog) i hi
  injection he with he
  injection he with e1 e2
  subst e1 e2
  have hc' : ∀ j, j < K.n → W.cell? ⟨g, i * K.n + j, none⟩ = (K.cs xs[i])[j]? := fun j hj => by have := hc j hj; rwa [Nat.zero_add] at this
  obtain ⟨⟨h1, h2⟩, h3⟩ := h
  rcases h2 with ⟨h2, _⟩ | ⟨g', cap', cur, hv, hg, hh, r1, r2, r3, r4⟩
  · cases h2
  · injection hv with e1 e2 e3
    injection e1 with e1
    injection e1 with e1
    subst e1
    have hf : ∀ j, W.frozen? ⟨g, j, none⟩ = false := fun j => by simp [World.frozen?, hh]
    refine ⟨hc', hf, hb, fun j hj => ⟨?_, hf _⟩⟩
    rw [hc' j hj, List.getElem?_eq_getElem (by rw [K.len]; exact hj)]
    rfl

theorem eset_same (g : Nat) (t : TypeId) : ∀ (vs : List Value) (o : Nat) (W : World) (cur : Array Value), W.heap[g]? = some (.cells cur t (0, 0)) → o + vs.length ≤ cur.size →
    ∃ cur', (W.setCells g o vs).heap[g]? = some (.cells cur' t (0, 0)) ∧ cur'.size = cur.size ∧ cur'.toList = cur.toList.take o ++ vs ++ cur.toList.drop (o + vs.length)
  | [], o, W, cur, h, _ => ⟨cur, h, rfl, by simp⟩
  | v :: vs, o, W, cur, h, hl => by
    simp only [List.length_cons] at hl
    have h1 : (W.setCell ⟨g, o, none⟩ v).heap[g]? = some (.cells (cur.setIfInBounds o v) t (0, 0)) := (Cel.set (show Cel W g t cur from h) o v)
    obtain ⟨cur', h2, h3, h4⟩ := eset_same g t vs (o + 1) _ _ h1 (by simp; omega)
    refine ⟨cur', h2, by simpa using h3, ?_⟩
    rw [h4, Array.toList_setIfInBounds]
    apply List.ext_getElem?
    intro i
    simp only [List.getElem?_append, List.getElem?_take, List.getElem?_drop, List.getElem?_set, List.length_append, List.length_take, List.length_set, List.length_cons, Array.length_toList, List.getElem?_cons]
    by_cases i1 : i < o
    · simp [i1, show i < min (o + 1) cur.size by omega, show i < min (o + 1) cur.size + vs.length by omega, show i < min o cur.size by omega, show i < min o cur.size + (vs.length + 1) by omega, show i < o + 1 by omega, show ¬ o = i by omega]
    · by_cases i2 : i = o
      · subst i2
        simp [show i < min (i + 1) cur.size by omega, show i < min (i + 1) cur.size + vs.length by omega, show ¬ i < min i cur.size by omega, show i < min i cur.size + (vs.length + 1) by omega, show i < cur.size by omega, show i - min i cur.size = 0 by omega]
      · have e1 : min (o + 1) cur.size = o + 1 := by omega
        have e2 : min o cur.size = o := by omega
        rw [e1, e2]
        by_cases i3 : i < o + 1 + vs.length
        · simp [i3, show ¬ i < o + 1 by omega, show ¬ i < o by omega, show i < o + (vs.length + 1) by omega, show ¬ i - o = 0 by omega, show i - (o + 1) = i - o - 1 by omega]
        · simp [i3, show ¬ i < o + (vs.length + 1) by omega]
          rw [if_neg (by omega)]
          congr 1
          omega

theorem esplice {β : Type} (cur ys xs : List β) (i n k : Nat) (hx : cur.take n = xs) (hn : n ≤ cur.length) (hi : i ≤ n) (hk : k = i + ys.length) :
    (cur.take i ++ ys ++ cur.drop k).take (max n k) = xs.take i ++ ys ++ xs.drop k := by
  subst hx hk
  apply List.ext_getElem?
  intro j
  simp only [List.getElem?_append, List.getElem?_take, List.getElem?_drop, List.length_append, List.length_take]
  have e1 : min i cur.length = i := by omega
  have e2 : min i (min n cur.length) = i := by omega
  rw [e1, e2]
  by_cases h1 : j < i
  · simp [h1, show j < max n (i + ys.length) by omega, show j < i + ys.length by omega, show j < n by omega]
  · by_cases h2 : j < i + ys.length
    · simp [h1, h2, show j < max n (i + ys.length) by omega]
    · by_cases h3 : j < n
      · simp [h2, show j < max n (i + ys.length) by omega, show i + ys.length + (j - (i + ys.length)) = j by omega, h3]
      · simp [h2, show ¬ j < max n (i + ys.length) by omega, show ¬ i + ys.length + (j - (i + ys.length)) < n by omega]

/-- One element stored in a row of one's own. -/
theorem OwnE.put {W : World} {B C : Nat} {g n cap : Nat} {xs : List α} (h : OwnE K W B C (.slice (some ⟨g, 0, none⟩) n cap) xs) (i : Nat) (hi : i < xs.length) (x : α) :
    OwnE K (W.setCells g (i * K.n) (K.cs x)) B C (.slice (some ⟨g, 0, none⟩) n cap) (xs.set i x) := by
  obtain ⟨⟨h1, h2⟩, h3⟩ := h
  rcases h2 with ⟨h2, _⟩ | ⟨g', cap', cur, hv, hg, hh, r1, r2, r3, r4⟩
  · cases h2
  · injection hv with e1 e2 e3
    injection e1 with e1
    injection e1 with e1
    subst e1 e2 e3
    have hp := K.pos
    have hin : (i + 1) * K.n ≤ xs.length * K.n := Nat.mul_le_mul_right _ hi
    have hcs : xs.length * K.n ≤ cap * K.n := Nat.mul_le_mul_right _ r1
    rw [Nat.add_mul, Nat.one_mul] at hin
    obtain ⟨cur', k1, k2, k3⟩ := eset_same g K.t (K.cs x) (i * K.n) W cur hh (by rw [K.len]; omega)
    refine ⟨⟨by rw [eflat_length], .inr ⟨g, cap, cur', by simp, hg, k1, by simpa using r1, r2, by omega, ?_⟩⟩, h3⟩
    have hcl : cur.toList.length = cur.size := Array.length_toList
    have hs := esplice cur.toList (K.cs x) (K.flat xs) (i * K.n) (xs.length * K.n) (i * K.n + K.n) r4 (by omega) (by omega) (by rw [K.len])
    rw [show max (xs.length * K.n) (i * K.n + K.n) = xs.length * K.n by omega] at hs
    rw [k3, K.len, List.length_set, eflat_set _ _ _ _ hi]
    exact hs

theorem eflat_set1 (K : EK α) (l : List α) (i : Nat) (x : α) (j : Nat) (u : Value) (h : i < l.length) (hj : j < K.n) (hx : K.cs x = (K.cs l[i]).set j u) : K.flat (l.set i x) = (K.flat l).set (i * K.n + j) u := by
  induction l generalizing i with
  | nil => simp at h
  | cons y r ih =>
    cases i with
    | zero =>
      simp only [List.getElem_cons_zero] at hx
      rw [List.set_cons_zero, EK.flat, EK.flat, hx, Nat.zero_mul, Nat.zero_add, List.set_append_left _ _ (by rw [K.len]; exact hj)]
    | succ i =>
      simp only [List.getElem_cons_succ] at hx
      have e : (i + 1) * K.n = K.n + i * K.n := by rw [Nat.add_mul, Nat.one_mul]; omega
      rw [List.set_cons_succ, EK.flat, EK.flat, ih i (by simpa using h) hx, List.set_append_right _ _ (by rw [K.len]; omega), K.len]
      congr 2
      omega

/-- One cell of an element stored in a row of one's own. -/
theorem OwnE.put1 {W : World} {B C : Nat} {g n cap : Nat} {xs : List α} (h : OwnE K W B C (.slice (some ⟨g, 0, none⟩) n cap) xs) (i : Nat) (hi : i < xs.length) (j : Nat) (hj : j < K.n) (x : α) (u : Value) (hx : K.cs x = (K.cs xs[i]).set j u) :
    OwnE K (W.setCell ⟨g, i * K.n + j, none⟩ u) B C (.slice (some ⟨g, 0, none⟩) n cap) (xs.set i x) := by
  obtain ⟨⟨h1, h2⟩, h3⟩ := h
  rcases h2 with ⟨h2, _⟩ | ⟨g', cap', cur, hv, hg, hh, r1, r2, r3, r4⟩
  · cases h2
  · injection hv with e1 e2 e3
    injection e1 with e1
    injection e1 with e1
    subst e1 e2 e3
    have k1 : (W.setCell ⟨g, i * K.n + j, none⟩ u).heap[g]? = some (.cells (cur.setIfInBounds (i * K.n + j) u) K.t (0, 0)) := Cel.set (show Cel W g K.t cur from hh) _ u
    refine ⟨⟨by rw [eflat_length], .inr ⟨g, cap, _, by simp, hg, k1, by simpa using r1, r2, by rw [Array.size_setIfInBounds]; exact r3, ?_⟩⟩, h3⟩
    rw [List.length_set, eflat_set1 K xs i x j u hi hj hx, Array.toList_setIfInBounds, List.take_set, r4]

/-- A block that is just these cells is a row of one's own. -/
theorem OwnE.of_cel {W : World} {g B C : Nat} {xs : List α} (h : Cel W g K.t (K.flat xs).toArray) (hB : B ≤ g) (hC : g < C) (hm : xs.length ≤ maxLen) : OwnE K W B C (.slice (some ⟨g, 0, none⟩) xs.length xs.length) xs := by
  refine ⟨⟨by rw [eflat_length], .inr ⟨g, xs.length, (K.flat xs).toArray, rfl, hB, h, Nat.le_refl _, hm, by rw [List.size_toArray, eflat_length], by rw [← eflat_length]; simp⟩⟩, fun g' hg => ?_⟩
  simp [Value.ownBlock] at hg
  omega

theorem OwnE.grown {W W' : World} {B C : Nat} {v : Value} {xs : List α} {row : Option Nat} (h : OwnE K W B C v xs) (hg : W.grownBy W' row) (hC : C ≤ W.heap.size) (hr : ∀ g, v.ownBlock = some g → some g ≠ row) : OwnE K W' B C v xs :=
  h.keepAt fun g hv => hg.block g (Nat.lt_of_lt_of_le (h.2 g hv) hC) (hr g hv)

theorem einfo (K : EK α) : ∃ i, Try.prog.info? K.t = some i ∧ i.zero = some K.zv ∧ i.size = K.n ∧ i.bytes = K.bytes := info_parts K.info
theorem esize (K : EK α) (x : α) : (Try.prog.info? K.t).map (·.size) = some (K.cs x).toArray.size := by
  obtain ⟨i, h, -, h2, -⟩ := einfo K
  rw [h, List.size_toArray, K.len]
  simp [h2]

theorem ezeros (K : EK α) (n : Nat) : (K.flat (List.replicate n K.zero)).toArray = madeCells K.zv.cells (n * K.n) := by
  have hz : ∀ (n : Nat) (i : Nat), i < n * K.n → (K.flat (List.replicate n K.zero))[i]? = (K.cs K.zero)[i % K.n]? := fun n => by
    have hp := K.pos
    induction n with
    | zero => intro i h; omega
    | succ n ih =>
      intro i h
      rw [List.replicate_succ, EK.flat]
      by_cases h1 : i < K.n
      · rw [List.getElem?_append_left (by rw [K.len]; exact h1), Nat.mod_eq_of_lt h1]
      · rw [List.getElem?_append_right (by rw [K.len]; omega), K.len, ih (i - K.n) (by rw [Nat.add_mul, Nat.one_mul] at h; omega)]
        rw [show i % K.n = (i - K.n) % K.n from Nat.mod_eq_sub_mod (by omega)]
  apply Array.ext
  · simp [madeCells, eflat_length]
  · intro i h1 h2
    have hi : i < n * K.n := by simpa [eflat_length] using h1
    have hp := K.pos
    have hm : i % K.n < (K.cs K.zero).length := by rw [K.len]; exact Nat.mod_lt _ hp
    have e1 := hz n i hi
    rw [List.getElem?_eq_getElem (by simpa using h1), List.getElem?_eq_getElem hm] at e1
    injection e1 with e1
    simp only [madeCells, Array.getElem_map, Array.getElem_range, K.zcs, List.size_toArray, K.len]
    rw [List.getElem_toArray, e1]
    rw [getElem!_pos _ _ (by simpa using hm)]
    simp

theorem emake (K : EK α) (t : TypeId) (ht : Try.prog.underlying t = some (.slice K.t)) (n : Nat) (hn : n ≤ 1048576) (W : World) :
    (Instr.makeSlice t (.int .i64 (n : Int)) (.int .i64 (n : Int))).run Try.prog W = .ok (.slice (some ⟨W.heap.size, 0, none⟩) n n) (W.alloc (.cells (K.flat (List.replicate n K.zero)).toArray K.t)) := by
  obtain ⟨i0, hi, hz0, hz1, hz2⟩ := einfo K
  have hb := K.bnd
  have hm : n * K.bytes ≤ 1048576 * 256 := Nat.mul_le_mul hn hb
  have hc : ((K.bytes : Nat) : Int) * (n : Int) = ((n * K.bytes : Nat) : Int) := by rw [Int.natCast_mul, Int.mul_comm]
  have h := run_make (P := Try.prog) W t K.t i0 _ ht hi hz0 .i64 .i64 (n : Int) (n : Int) (by omega) (by omega) (by rw [hz2, hc]; omega) (by omega)
  rw [h, hz1, ezeros]
  simp

theorem esetC_other (g o : Nat) (vs : List Value) (W : World) (k : Nat) (h : k ≠ g) : (W.setCells g o vs).heap[k]? = W.heap[k]? := by
  induction vs generalizing o W with
  | nil => rfl
  | cons v vs ih =>
    show ((W.setCell ⟨g, o, none⟩ v).setCells g (o + 1) vs).heap[k]? = _
    rw [ih]
    exact Below.heap_setCell _ _ _ _ h
theorem esetC_size (g o : Nat) (vs : List Value) (W : World) : (W.setCells g o vs).heap.size = W.heap.size := by
  induction vs generalizing o W with
  | nil => rfl
  | cons v vs ih =>
    show ((W.setCell ⟨g, o, none⟩ v).setCells g (o + 1) vs).heap.size = _
    rw [ih]
    simp
theorem esetC_below (g B : Nat) (hB : B ≤ g) (o : Nat) (vs : List Value) (W : World) : Below B W (W.setCells g o vs) := by
  induction vs generalizing o W with
  | nil => exact Below.refl _ _
  | cons v vs ih => exact ((Below.refl B W).setCell (p := ⟨g, o, none⟩) hB v).trans (ih (o + 1) _)

/-! Appending. -/
/-- append looks at its first type alone, where both are slices. -/
theorem eapp_types (t tx ty e e' : TypeId) (base : Option Addr) (n cap : Nat) (x : Value) (ht : Try.prog.underlying t = some (.slice e)) (hx : Try.prog.underlying tx = some (.slice e')) (W : World) :
    (Builtin.append_ #[t, tx] ty #[.slice base n cap, x]).run Try.prog W = (Builtin.append_ #[t, t] ty #[.slice base n cap, x]).run Try.prog W := by
  unfold Builtin.append_
  simp [run_underlying ht, run_underlying hx]

theorem eapp_none (K : EK α) (t tx ty : TypeId) (ht : Try.prog.underlying t = some (.slice K.t)) (hx : Try.prog.underlying tx = some (.slice K.t)) (W : World) (base a : Option Addr) (n cap c : Nat) (hn : n ≤ cap) :
    (Builtin.append_ #[t, tx] ty #[.slice base n cap, .slice a 0 c]).run Try.prog W = .ok (.slice base n cap) W := by
  rw [eapp_types t tx ty _ _ _ _ _ _ ht hx]
  obtain ⟨i0, hi, -, -, -⟩ := einfo K
  cases base <;> cases a <;> simp [Builtin.append_, run_underlying ht, sizeOf, typeInfo, hi, Builtin.lenOf, Builtin.firstCells, loadCells, loadCellsFrom, storeCells, hn]

/-- Elements behind a row of one's own. -/
theorem eapp_run (K : EK α) (t tx ty : TypeId) (ht : Try.prog.underlying t = some (.slice K.t)) (htx : Try.prog.underlying tx = some (.slice K.t)) (W : World) (B : Nat) (v x : Value) (xs ys : List α)
    (hv : OwnE K W B W.heap.size v xs) (hB : B ≤ W.heap.size) (hx : RdE K W x ys) (hl : xs.length + ys.length ≤ 549755813888) :
    ∃ v' W', (Builtin.append_ #[t, tx] ty #[v, x]).run Try.prog W = .ok v' W' ∧ OwnE K W' B W'.heap.size v' (xs ++ ys) ∧ W.grownBy W' v.ownBlock ∧ (v'.ownBlock = v.ownBlock ∨ v'.ownBlock = some W.heap.size) := by
  obtain ⟨a, c, rfl, hr⟩ := hx
  by_cases h0 : 0 < ys.length
  · obtain ⟨b, off, rfl, hrr⟩ := hr h0
    obtain ⟨va, vc, hva, -⟩ := hv.form
    have hat : ∀ y, (Builtin.append_ #[t, tx] ty #[v, y]).run Try.prog W = (Builtin.append_ #[t, t] ty #[v, y]).run Try.prog W := fun y => by rw [hva]; exact eapp_types t tx ty _ _ _ _ _ _ ht htx W
    rw [hat]
    obtain ⟨i0, hi, hz0, hz1, hz2⟩ := einfo K
    have hb := K.bnd
    have hm : (xs.length + ys.length) * K.bytes ≤ 549755813888 * 256 := Nat.mul_le_mul hl hb
    have hzs : K.zv.cells.size = K.n := by rw [K.zcs, List.size_toArray, K.len]
    obtain ⟨v', w', h1, h2, h3, h4, h5⟩ := run_append_own_at (P := Try.prog) W B t ty K.t i0 _ K.n K.bytes ht hi hz0 hz1 hz2 hzs K.pos v xs.length (K.flat xs) hv.1 ⟨b, off, none⟩ ys.length c (K.flat ys) (eflat_length K ys)
      (fun j u hj => by rw [Addr.add_mid]; exact hrr j u hj) (eflat_oneCell K ys) (by unfold maxLen; omega) (by omega) hB
    refine ⟨v', w', h1, ⟨?_, fun g hg => ?_⟩, h3, h5⟩
    · rw [eflat_append, List.length_append]
      exact h2
    · rcases h2.2 with ⟨rfl, -⟩ | ⟨g', cap', cur, rfl, -, hh, -⟩
      · cases hg
      · simp [Value.ownBlock] at hg
        subst hg
        exact (Array.getElem?_eq_some_iff.1 hh).1
  · have hy : ys = [] := List.eq_nil_of_length_eq_zero (by omega)
    subst hy
    rw [List.append_nil]
    rcases hv.1.2 with ⟨rfl, -⟩ | ⟨g', cap', cur, rfl, -, hh, hcap, -⟩
    · exact ⟨_, W, eapp_none K t tx ty ht htx W none a 0 0 c (Nat.le_refl _), hv, World.grownBy.refl _ _, .inl rfl⟩
    · exact ⟨_, W, eapp_none K t tx ty ht htx W _ a xs.length cap' c hcap, hv, World.grownBy.refl _ _, .inl rfl⟩

theorem wpList_append_els (K : EK α) {ops : Array Oper} {rest : List Oper} {o : Oper} {a : Act} {W : World} {Q : Exit → Act → World → Prop} (hgd : o.guard = none) (s y : Operand) (t tx : TypeId)
    (ho : o.op = .call { callee := .builtin .append, args := #[s, y], argTypes := #[t, tx] }) (ht : Try.prog.underlying t = some (.slice K.t)) (htx : Try.prog.underlying tx = some (.slice K.t))
    (B : Nat) (v x : Value) (xs ys : List α) (hs : a.eval s = v) (hy : a.eval y = x) (hv : OwnE K W B W.heap.size v xs) (hB : B ≤ W.heap.size) (hx : RdE K W x ys) (hl : xs.length + ys.length ≤ 549755813888)
    (h : ∀ v' W', OwnE K W' B W'.heap.size v' (xs ++ ys) → W.grownBy W' v.ownBlock → (v'.ownBlock = v.ownBlock ∨ v'.ownBlock = some W.heap.size) → wpList Try.prog ops Q rest (a.put o.dst v') W') : wpList Try.prog ops Q (o :: rest) a W := by
  refine wpList_plain hgd fun K' hK => ?_
  obtain ⟨v', w', hr, h2, h3, h5⟩ := eapp_run K t tx o.type ht htx W B v x xs ys hv hB hx hl
  unfold Oper.wp execOp
  simp only [ho, resolve, invoke, builtin, Sem.run_bind, Sem.run_pure, Result.andThen_ok, List.map_toArray, List.map_cons, List.map_nil, hs, hy, hr]
  exact hK _ _ (h v' w' h2 h3 h5)

/-- The same, at a step of a region that draws its order. -/
theorem step_append_els (K : EK α) {ops : Array Oper} {o : Oper} {a : Act} {W : World} {K' : Act → World → Prop} {Q : Exit → Act → World → Prop} {E : Prop} (hgd : o.guard = none) (s y : Operand) (t tx : TypeId)
    (ho : o.op = .call { callee := .builtin .append, args := #[s, y], argTypes := #[t, tx] }) (ht : Try.prog.underlying t = some (.slice K.t)) (htx : Try.prog.underlying tx = some (.slice K.t))
    (B : Nat) (v x : Value) (xs ys : List α) (hs : a.eval s = v) (hy : a.eval y = x) (hv : OwnE K W B W.heap.size v xs) (hB : B ≤ W.heap.size) (hx : RdE K W x ys) (hl : xs.length + ys.length ≤ 549755813888)
    (h : ∀ v' W', OwnE K W' B W'.heap.size v' (xs ++ ys) → W.grownBy W' v.ownBlock → (v'.ownBlock = v.ownBlock ∨ v'.ownBlock = some W.heap.size) → K' (a.put o.dst v') W') :
    if Region.wanted o (yielded ops a.tmps) = true then Oper.wp Try.prog o a W K' Q else E := by
  have hw : Region.wanted o (yielded ops a.tmps) = true := by simp [Region.wanted, hgd]
  rw [if_pos hw]
  obtain ⟨v', w', hr, h2, h3, h5⟩ := eapp_run K t tx o.type ht htx W B v x xs ys hv hB hx hl
  unfold Oper.wp execOp
  simp only [ho, resolve, invoke, builtin, Sem.run_bind, Sem.run_pure, Result.andThen_ok, List.map_toArray, List.map_cons, List.map_nil, hs, hy, hr]
  exact h v' w' h2 h3 h5

/-- What lies below the row's block and was there stays. -/
theorem ebelow_grown {B : Nat} {w W W' : World} {row : Option Nat} (hb : Below B w W) (hBW : B ≤ W.heap.size) (hg : W.grownBy W' row) (hr : ∀ g, row = some g → B ≤ g) : Below B w W' :=
  hb.grown hg hBW hr

theorem eown_alloc {W : World} {B : Nat} {v : Value} {xs : List α} (h : OwnE K W B W.heap.size v xs) (o : Obj) : OwnE K (W.alloc o) B (W.alloc o).heap.size v xs :=
  (h.keep (below_new W o) (Nat.le_refl _)).mono (Nat.le_refl _) (by simp)
theorem eown_drewN {W : World} {B C n : Nat} {v : Value} {xs : List α} (h : OwnE K W B C v xs) : OwnE K (W.drewN n) B C v xs := h
theorem eown_empty (K : EK α) (W : World) : OwnE K (W.alloc (.cells #[] K.t)) W.heap.size (W.alloc (.cells #[] K.t)).heap.size (.slice (some ⟨W.heap.size, 0, none⟩) 0 0) [] :=
  OwnE.of_cel (xs := []) (Cel.new W K.t #[]) (Nat.le_refl _) (by simp) (by simp)
theorem OwnE.lt {W : World} {B C g n c : Nat} {xs : List α} (h : OwnE K W B C (.slice (some ⟨g, 0, none⟩) n c) xs) : g < W.heap.size := by
  rcases h.1.2 with ⟨h2, _⟩ | ⟨g', cap', cur, hv, hg, hh, -⟩
  · cases h2
  · injection hv with e1 e2 e3
    injection e1 with e1
    injection e1 with e1
    subst e1
    exact (Array.getElem?_eq_some_iff.1 hh).1
theorem OwnE.full {W W' : World} {B : Nat} {v : Value} {xs : List α} (h : OwnE K W B W.heap.size v xs) (hb : Below W.heap.size W W') : OwnE K W' B W'.heap.size v xs :=
  (h.keep hb (Nat.le_refl _)).mono (Nat.le_refl _) hb.size
end
end Go.Proofs.Ytoeflkmhofkiaaa
