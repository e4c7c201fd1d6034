import Derived.Test.YtoeflkmhofkiaaaEk
import Derived.Laws.BytesArg
import Derived.Lib.SliceRun
namespace Go.Proofs.Ytoeflkmhofkiaaa
open Go.RowKit
set_option maxRecDepth 100000

section
variable {α : Type} {K : EK α}

/-- A row that can be read, in a block from B on and below C, or empty; its capacity is no less than its length, and the cells of its room are there. -/
def LieE (K : EK α) (W : World) (B C : Nat) (v : Value) (xs : List α) : Prop :=
  ∃ a c, v = .slice a xs.length c ∧ xs.length ≤ c ∧ (a = none → c = 0) ∧ (0 < c → ∃ b off, a = some ⟨b, off, none⟩ ∧ (B ≤ b ∧ b < C) ∧ (∃ cur, W.heap[b]? = some (.cells cur K.t (0, 0)) ∧ off + c * K.n ≤ cur.size) ∧ W.rangeAt b off (K.flat xs))
theorem LieE.rd {W : World} {B C : Nat} {v : Value} {xs : List α} (h : LieE K W B C v xs) : RdE K W v xs := by
  obtain ⟨a, c, rfl, hc, -, h⟩ := h
  exact ⟨a, c, rfl, fun h0 => by obtain ⟨b, off, h1, -, -, h2⟩ := h (by omega); exact ⟨b, off, h1, h2⟩⟩
theorem LieE.form {W : World} {B C : Nat} {v : Value} {xs : List α} (h : LieE K W B C v xs) : ∃ a c, v = .slice a xs.length c ∧ xs.length ≤ c := by
  obtain ⟨a, c, rfl, h, -⟩ := h
  exact ⟨a, c, rfl, h⟩
theorem LieE.nil {W : World} {B C : Nat} : LieE K W B C (.slice none 0 0) [] := ⟨none, 0, rfl, Nat.le_refl _, fun _ => rfl, fun h => absurd h (Nat.lt_irrefl _)⟩
theorem LieE.keepAt {W W' : World} {B C : Nat} {v : Value} {xs : List α} (h : LieE K W B C v xs) (hb : ∀ b, B ≤ b → b < C → W'.heap[b]? = W.heap[b]?) : LieE K W' B C v xs := by
  obtain ⟨a, c, rfl, hc, hn, h⟩ := h
  refine ⟨a, c, rfl, hc, hn, fun h0 => ?_⟩
  obtain ⟨b, off, h1, h2, ⟨cur, h4, h5⟩, h3⟩ := h h0
  exact ⟨b, off, h1, h2, ⟨cur, by rw [hb b h2.1 h2.2]; exact h4, h5⟩, erange_block h3 (hb b h2.1 h2.2)⟩
theorem LieE.keep {W W' : World} {B C D : Nat} {v : Value} {xs : List α} (h : LieE K W B C v xs) (hb : Below D W W') (hC : C ≤ D) : LieE K W' B C v xs :=
  h.keepAt fun b _ h2 => hb.block b (by omega)
theorem LieE.mono {W : World} {B B' C C' : Nat} {v : Value} {xs : List α} (h : LieE K W B C v xs) (hB : B' ≤ B) (hC : C ≤ C') : LieE K W B' C' v xs := by
  obtain ⟨a, c, rfl, hc, hn, h⟩ := h
  refine ⟨a, c, rfl, hc, hn, fun h0 => ?_⟩
  obtain ⟨b, off, h1, h2, h4, h3⟩ := h h0
  exact ⟨b, off, h1, by omega, h4, h3⟩
theorem OwnE.lie {W : World} {B C : Nat} {v : Value} {xs : List α} (h : OwnE K W B C v xs) : LieE K W B C v xs := by
  obtain ⟨⟨h1, h2⟩, h3⟩ := h
  rcases h2 with ⟨rfl, h2⟩ | ⟨g, cap, cur, rfl, hg, hh, r1, r2, r3, r4⟩
  · exact ⟨none, 0, by rw [h2], by omega, fun _ => rfl, fun h => by omega⟩
  · exact ⟨some ⟨g, 0, none⟩, cap, rfl, r1, (fun h => by cases h), fun _ => ⟨g, 0, rfl, ⟨hg, h3 g rfl⟩, ⟨cur, hh, by omega⟩, etake_range hh r4⟩⟩
/-- A row that lies anywhere below: what a call finds. -/
theorem LieE.lt {W : World} {B C : Nat} {v : Value} {xs : List α} (h : LieE K W B C v xs) : LieE K W B (min C W.heap.size) v xs := by
  obtain ⟨a, c, rfl, hc, hn, h⟩ := h
  refine ⟨a, c, rfl, hc, hn, fun h0 => ?_⟩
  obtain ⟨b, off, h1, h2, ⟨cur, h4, h5⟩, h3⟩ := h h0
  have := (Array.getElem?_eq_some_iff.1 h4).1
  exact ⟨b, off, h1, by omega, ⟨cur, h4, h5⟩, h3⟩
theorem LieE.below {W W' : World} {B C : Nat} {v : Value} {xs : List α} (h : LieE K W B C v xs) (hb : Below W.heap.size W W') : LieE K W' B C v xs :=
  (h.lt.keep hb (by omega)).mono (Nat.le_refl _) (by omega)

theorem LieE.cut {W : World} {B C n c : Nat} {a : Option Addr} {xs : List α} (h : LieE K W B C (.slice a n c) xs) (l hh m : Nat) (hl : l ≤ hh) (hn : hh ≤ n) (hm : hh ≤ m) (hmc : m ≤ c) :
    LieE K W B C (.slice (if m = l then a else a.map (·.add (l * K.n))) (hh - l) (m - l)) ((xs.drop l).take (hh - l)) := by
  obtain ⟨a', c', he, hc, hz, h2⟩ := h
  injection he with e1 e2 e3
  subst e1 e2 e3
  have hlen : ((xs.drop l).take (hh - l)).length = hh - l := by rw [List.length_take, List.length_drop]; omega
  refine ⟨_, _, by rw [hlen], by omega, fun h => ?_, fun h0 => ?_⟩
  · split at h
    · have := hz h
      omega
    · have := hz (by simpa using h)
      omega
  · obtain ⟨b, off, h1, h3, ⟨cur, h5, h6⟩, h4⟩ := h2 (by omega)
    subst h1
    rw [if_neg (by omega)]
    have hadd : (⟨b, off, none⟩ : Addr).add (l * K.n) = ⟨b, off + l * K.n, none⟩ := Addr.add_mid _ _ _
    have hmul : l * K.n + (m - l) * K.n ≤ c * K.n := by
      rw [← Nat.add_mul]
      exact Nat.mul_le_mul_right _ (by omega)
    refine ⟨b, off + l * K.n, by rw [Option.map_some, hadd], h3, ⟨cur, h5, by omega⟩, fun j v hv => ?_⟩
    rw [← eflat_take, ← eflat_drop, List.getElem?_take] at hv
    split at hv
    · rw [List.getElem?_drop] at hv
      rw [Nat.add_assoc]
      exact h4 _ v hv
    · cases hv

/-- s[l:] -/
theorem LieE.cut_from {tS : TypeId} (hS : Try.prog.underlying tS = some (.slice K.t)) {W : World} {B C c : Nat} {a : Option Addr} {xs : List α} (h : LieE K W B C (.slice a xs.length c) xs) (l : Nat) (hl : l ≤ xs.length) :
    ∃ a' c', (∀ W', (Instr.slice tS (.slice a xs.length c) (some (.int .i64 (l : Int))) none none).run Try.prog W' = .ok (.slice a' (xs.drop l).length c') W') ∧ (xs.drop l).length ≤ c' ∧ ∀ W', LieE K W' B C (.slice a xs.length c) xs → LieE K W' B C (.slice a' (xs.drop l).length c') (xs.drop l) := by
  obtain ⟨i0, hq, -, hz1, -⟩ := einfo K
  have hc : xs.length ≤ c := by
    obtain ⟨a', c', he, hc, -⟩ := h
    injection he with e1 e2 e3
    omega
  refine ⟨if c = l then a else a.map (·.add (l * K.n)), c - l, fun W' => ?_, by rw [List.length_drop]; omega, fun W' h' => ?_⟩
  · have h1 : (0 : Int) ≤ (l : Int) ∧ (l : Int) ≤ (xs.length : Int) := by omega
    simp [Instr.slice, run_underlying hS, Instr.sliceBounds, Instr.sliceBound, asIntOf, h1, hl, sizeOf, typeInfo, hq, hz1]
  · have := LieE.cut h' l xs.length c hl (Nat.le_refl _) hc (Nat.le_refl _)
    rw [List.take_of_length_le (by rw [List.length_drop]; omega)] at this
    rw [List.length_drop]
    exact this

/-- s[l:h:m] -/
theorem LieE.cut3 {tS : TypeId} (hS : Try.prog.underlying tS = some (.slice K.t)) {W : World} {B C c : Nat} {a : Option Addr} {xs : List α} (_h : LieE K W B C (.slice a xs.length c) xs) (l hh : Nat) (hl : l ≤ hh) (hn : hh ≤ xs.length) (hc : xs.length ≤ c) :
    ∃ a', (∀ W', (Instr.slice tS (.slice a xs.length c) (some (.int .i64 (l : Int))) (some (.int .i64 (hh : Int))) (some (.int .i64 (hh : Int)))).run Try.prog W' = .ok (.slice a' (hh - l) (hh - l)) W') ∧ ∀ W', LieE K W' B C (.slice a xs.length c) xs → LieE K W' B C (.slice a' (hh - l) (hh - l)) ((xs.drop l).take (hh - l)) := by
  obtain ⟨i0, hq, -, hz1, -⟩ := einfo K
  refine ⟨if hh = l then a else a.map (·.add (l * K.n)), fun W' => ?_, fun W' h' => LieE.cut h' l hh hh hl hn (Nat.le_refl _) (by omega)⟩
  have h1 : (0 : Int) ≤ (l : Int) ∧ (l : Int) ≤ (hh : Int) := by omega
  have h2 : (0 : Int) ≤ (hh : Int) ∧ (hh : Int) ≤ (c : Int) := by omega
  have h3 : hh ≤ c := by omega
  simp [Instr.slice, run_underlying hS, Instr.sliceBounds, Instr.sliceBound, asIntOf, h1, h2, h3, hl, sizeOf, typeInfo, hq, hz1]

/-- s[:h:h] -/
theorem LieE.cut2 {tS : TypeId} (hS : Try.prog.underlying tS = some (.slice K.t)) {W : World} {B C c : Nat} {a : Option Addr} {xs : List α} (_h : LieE K W B C (.slice a xs.length c) xs) (hh : Nat) (hn : hh ≤ xs.length) (hc : xs.length ≤ c) :
    ∃ a', (∀ W', (Instr.slice tS (.slice a xs.length c) none (some (.int .i64 (hh : Int))) (some (.int .i64 (hh : Int)))).run Try.prog W' = .ok (.slice a' hh hh) W') ∧ ∀ W', LieE K W' B C (.slice a xs.length c) xs → LieE K W' B C (.slice a' hh hh) (xs.take hh) := by
  obtain ⟨i0, hq, -, hz1, -⟩ := einfo K
  refine ⟨if hh = 0 then a else a.map (·.add (0 * K.n)), fun W' => ?_, fun W' h' => ?_⟩
  · have h2 : (0 : Int) ≤ (hh : Int) ∧ (hh : Int) ≤ (c : Int) := by omega
    have h3 : hh ≤ c := by omega
    simp [Instr.slice, run_underlying hS, Instr.sliceBounds, Instr.sliceBound, asIntOf, h2, h3, sizeOf, typeInfo, hq]
  · have := LieE.cut h' 0 hh hh (Nat.zero_le _) hn (Nat.le_refl _) (by omega)
    simpa using this

/-- Elements stored into a row of one's own, from place i on, as far as its room goes. -/
theorem estore {W : World} {B C g n cap : Nat} {xs : List α} (h : OwnE K W B C (.slice (some ⟨g, 0, none⟩) n cap) xs) (i : Nat) (ys : List α) (hi : i ≤ xs.length) (hc : i + ys.length ≤ cap) :
    ∃ W', (storeCells ⟨g, i * K.n, none⟩ (K.flat ys) 0).run Try.prog W = .ok () W' ∧ OwnE K W' B C (.slice (some ⟨g, 0, none⟩) (max n (i + ys.length)) cap) (xs.take i ++ ys ++ xs.drop (i + ys.length)) ∧ W.grownBy W' (some g) ∧ W'.heap.size = W.heap.size := by
  obtain ⟨⟨h1, h2⟩, h3⟩ := h
  rcases h2 with ⟨h2, _⟩ | ⟨g', cap', cur, hv, hg, hh, r1, r2, r3, r4⟩
  · cases h2
  · injection hv with e1 e2 e3
    injection e1 with e1
    injection e1 with e1
    subst e1 e2 e3
    have m1 : i * K.n + ys.length * K.n ≤ cap * K.n := by rw [← Nat.add_mul]; exact Nat.mul_le_mul_right _ hc
    have m2 : xs.length * K.n ≤ cap * K.n := Nat.mul_le_mul_right _ r1
    have m3 : i * K.n ≤ xs.length * K.n := Nat.mul_le_mul_right _ hi
    have hcl : cur.toList.length = cur.size := Array.length_toList
    have hst := run_storeCells_at Try.prog g (i * K.n) K.t (K.flat ys) 0 cur W hh (by rw [eflat_length]; omega) (eflat_oneCell K ys)
    rw [Nat.add_zero, eflat_length] at hst
    refine ⟨_, hst, ⟨⟨by rw [eflat_length], .inr ⟨g, cap, _, ?_, hg, setRow_heap _ _ _ _ _ _ hh, ?_, r2, ?_, ?_⟩⟩, fun g' hg' => ?_⟩, ⟨rfl, rfl, rfl, by simp, fun k hk hne => setRow_other W g k _ (fun e => hne (by rw [e]))⟩, by simp⟩
    · simp only [List.length_append, List.length_take, List.length_drop]
      congr 1
      omega
    · simp only [List.length_append, List.length_take, List.length_drop]
      omega
    · simp only [List.size_toArray, List.length_append, List.length_take, List.length_drop, eflat_length]
      omega
    · have e : (xs.take i ++ ys ++ xs.drop (i + ys.length)).length * K.n = max (xs.length * K.n) (i * K.n + ys.length * K.n) := by
        simp only [List.length_append, List.length_take, List.length_drop]
        rw [show min i xs.length + ys.length + (xs.length - (i + ys.length)) = max xs.length (i + ys.length) by omega, ← Nat.add_mul]
        rcases Nat.le_total xs.length (i + ys.length) with h9 | h9
        · rw [Nat.max_eq_right h9, Nat.max_eq_right (Nat.mul_le_mul_right _ h9)]
        · rw [Nat.max_eq_left h9, Nat.max_eq_left (Nat.mul_le_mul_right _ h9)]
      rw [e]
      have hl := esplice cur.toList (K.flat ys) (K.flat xs) (i * K.n) (xs.length * K.n) (i * K.n + ys.length * K.n) r4 (by omega) m3 (by rw [eflat_length])
      rw [hl, eflat_append, eflat_append, eflat_take, ← eflat_drop, Nat.add_mul]
    · simp [Value.ownBlock] at hg'
      subst hg'
      exact h3 g rfl

/-- append onto a slice that came in and has no room to spare: a row of one's own. -/
theorem eapp_fresh (K : EK α) (t ty : TypeId) (ht : Try.prog.underlying t = some (.slice K.t)) (W : World) (ao : Option Addr) (x : Value) (xs ys : List α)
    (hv : RdE K W (.slice ao xs.length xs.length) xs) (hx : RdE K W x ys) (hy : 0 < ys.length) (hl : xs.length + ys.length ≤ 549755813888) :
    ∃ v' W', (Builtin.append_ #[t, t] ty #[.slice ao xs.length xs.length, x]).run Try.prog W = .ok v' W' ∧ OwnE K W' W.heap.size W'.heap.size v' (xs ++ ys) ∧ W.grownBy W' none := by
  obtain ⟨a, c, rfl, hr⟩ := hx
  obtain ⟨b, off, rfl, hrr⟩ := hr hy
  obtain ⟨i0, hi, hz0, hz1, hz2⟩ := einfo K
  have hb := K.bnd
  have hm : (xs.length + ys.length) * K.bytes ≤ 549755813888 * 256 := Nat.mul_le_mul hl hb
  have hzs : K.zv.cells.size = K.n := by rw [K.zcs, List.size_toArray, K.len]
  have fin : ∀ v' W', W'.ownsRow W.heap.size K.t K.n v' (xs.length + ys.length) (K.flat xs ++ K.flat ys) → OwnE K W' W.heap.size W'.heap.size v' (xs ++ ys) := fun v' W' h2 => by
    refine ⟨?_, fun g hg => ?_⟩
    · rw [eflat_append, List.length_append]
      exact h2
    · rcases h2.2 with ⟨rfl, -⟩ | ⟨g', cap', cur, rfl, -, hh, -⟩
      · cases hg
      · simp [Value.ownBlock] at hg
        subst hg
        exact (Array.getElem?_eq_some_iff.1 hh).1
  by_cases h0 : 0 < xs.length
  · obtain ⟨a', c', he, h⟩ := hv
    injection he with e1 e2 e3
    subst e1
    obtain ⟨b', off', rfl, hh⟩ := h h0
    obtain ⟨v', W', hrun, r1, r2⟩ := run_append_arg_grows (P := Try.prog) W t ty K.t i0 _ K.n K.bytes ht hi hz0 hz1 hz2 hzs K.pos ⟨b', off', none⟩ xs.length xs.length (K.flat xs) (eflat_length K xs) (fun j u hj => by rw [Addr.add_mid]; exact hh j u hj) ⟨b, off, none⟩ ys.length c (K.flat ys) (eflat_length K ys)
      (fun j u hj => by rw [Addr.add_mid]; exact hrr j u hj) (by omega) (by unfold maxLen; omega) (by omega)
    exact ⟨v', W', hrun, fin v' W' r1, r2⟩
  · have hx0 : xs = [] := List.eq_nil_of_length_eq_zero (by omega)
    subst hx0
    cases ao with
    | some a0 =>
      obtain ⟨v', W', hrun, r1, r2⟩ := run_append_arg_grows (P := Try.prog) W t ty K.t i0 _ K.n K.bytes ht hi hz0 hz1 hz2 hzs K.pos a0 0 0 [] (by simp) (fun j u hj => by simp at hj) ⟨b, off, none⟩ ys.length c (K.flat ys) (eflat_length K ys)
        (fun j u hj => by rw [Addr.add_mid]; exact hrr j u hj) (by omega) (by unfold maxLen; simp at hl; omega) (by rw [Nat.zero_add]; simp at hm; omega)
      exact ⟨v', W', hrun, fin v' W' (by simpa [EK.flat] using r1), r2⟩
    | none =>
      obtain ⟨v', W', hrun, r1, r2, _⟩ := run_append_own (P := Try.prog) W W.heap.size t ty K.t i0 _ K.n K.bytes ht hi hz0 hz1 hz2 hzs K.pos (.slice none 0 0) 0 [] (World.ownsRow_nil W _ K.t K.n) ⟨b, off, none⟩ ys.length c (K.flat ys) (eflat_length K ys)
        (fun j u hj => by rw [Addr.add_mid]; exact hrr j u hj) (eflat_oneCell K ys) (by unfold maxLen; simp at hl; omega) (by rw [Nat.zero_add]; simp at hm; omega) (Nat.le_refl _)
      exact ⟨v', W', hrun, fin v' W' (by simpa [EK.flat] using r1), r2⟩

/-- append onto a row that lies in blocks from B on and below C: in place (its own block turns) or anew. -/
theorem lie_app (K : EK α) (t ty : TypeId) (ht : Try.prog.underlying t = some (.slice K.t)) (W : World) {B C : Nat} (v x : Value) (xs ys : List α)
    (hv : LieE K W B C v xs) (hB : B ≤ W.heap.size) (hx : RdE K W x ys) (hy : 0 < ys.length) (hl : xs.length + ys.length ≤ 549755813888) :
    ∃ v' W', (Builtin.append_ #[t, t] ty #[v, x]).run Try.prog W = .ok v' W' ∧ LieE K W' B W'.heap.size v' (xs ++ ys) ∧ Below B W W' ∧ (∀ k, C ≤ k → k < W.heap.size → W'.heap[k]? = W.heap[k]?) := by
  obtain ⟨a, c, rfl, hc, hz, h⟩ := hv
  obtain ⟨ax, cx, rfl, hr⟩ := hx
  obtain ⟨b', off', rfl, hrr⟩ := hr hy
  obtain ⟨i0, hi, hz0, hz1, hz2⟩ := einfo K
  have hb := K.bnd
  have hm : (xs.length + ys.length) * K.bytes ≤ 549755813888 * 256 := Nat.mul_le_mul hl hb
  have hzs : K.zv.cells.size = K.n := by rw [K.zcs, List.size_toArray, K.len]
  have fin : ∀ v' W', W'.ownsRow W.heap.size K.t K.n v' (xs.length + ys.length) (K.flat xs ++ K.flat ys) → W.grownBy W' none → LieE K W' B W'.heap.size v' (xs ++ ys) ∧ Below B W W' ∧ (∀ k, C ≤ k → k < W.heap.size → W'.heap[k]? = W.heap[k]?) := fun v' W' h2 h3 => by
    refine ⟨?_, (Below.refl B W).grown h3 hB (fun i hi => by cases hi), fun k _ hk => h3.block k hk (by simp)⟩
    have hown : OwnE K W' W.heap.size W'.heap.size v' (xs ++ ys) := by
      refine ⟨by rw [eflat_append, List.length_append]; exact h2, fun g hg => ?_⟩
      rcases h2.2 with ⟨rfl, -⟩ | ⟨g', cap', cur, rfl, -, hh, -⟩
      · cases hg
      · simp [Value.ownBlock] at hg
        subst hg
        exact (Array.getElem?_eq_some_iff.1 hh).1
    exact hown.lie.mono hB (Nat.le_refl _)
  cases a with
  | none =>
    obtain rfl := hz rfl
    have hx0 : xs = [] := List.eq_nil_of_length_eq_zero (by omega)
    subst hx0
    obtain ⟨v', W', hrun, r1, r2, _⟩ := run_append_own (P := Try.prog) W W.heap.size t ty K.t i0 _ K.n K.bytes ht hi hz0 hz1 hz2 hzs K.pos (.slice none 0 0) 0 [] (World.ownsRow_nil W _ K.t K.n) ⟨b', off', none⟩ ys.length cx (K.flat ys) (eflat_length K ys)
      (fun j u hj => by rw [Addr.add_mid]; exact hrr j u hj) (eflat_oneCell K ys) (by unfold maxLen; simp at hl; omega) (by rw [Nat.zero_add]; simp at hm; omega) (Nat.le_refl _)
    obtain ⟨f1, f2, f3⟩ := fin v' W' (by simpa [EK.flat] using r1) r2
    exact ⟨v', W', hrun, f1, f2, f3⟩
  | some a0 =>
    by_cases hcz : 0 < c
    · obtain ⟨b, off, he, ⟨hb1, hb2⟩, ⟨cur, hh, hsz⟩, hrg⟩ := h hcz
      obtain rfl := Option.some.inj he
      by_cases hroom : xs.length + ys.length ≤ c
      · have hxl : (K.flat xs).length = xs.length * K.n := eflat_length K xs
        have hyl : (K.flat ys).length = ys.length * K.n := eflat_length K ys
        have hmul : xs.length * K.n + ys.length * K.n ≤ c * K.n := by
          rw [← Nat.add_mul]
          exact Nat.mul_le_mul_right _ hroom
        have hrun := run_append_room_cells (P := Try.prog) W t ty K.t i0 ht hi b off xs.length c ⟨b', off', none⟩ ys.length cx (K.flat ys) (by rw [hz1]; exact hyl) (fun j u hj => by rw [Addr.add_mid]; exact hrr j u hj) (eflat_oneCell K ys) hroom
          (fun j hj => by
            rw [hz1, Go.cell_of_row _ _ _ _ _ _ hh, Array.getElem?_eq_getElem (by omega)]
            rfl)
          (fun j hj => by simp [World.frozen?, hh])
        rw [hz1] at hrun
        have hB2 := esetC_below b B hb1 (off + xs.length * K.n) (K.flat ys) W
        have hoth := fun k (hk : k ≠ b) => esetC_other b (off + xs.length * K.n) (K.flat ys) W k hk
        have hsize := esetC_size b (off + xs.length * K.n) (K.flat ys) W
        obtain ⟨cur', hnew, hsz', hlist⟩ := eset_same b K.t (K.flat ys) (off + xs.length * K.n) W cur hh (by rw [hyl]; omega)
        rw [hyl] at hlist
        have hcl : cur.toList.length = cur.size := Array.length_toList
        have hn1 : xs.length * K.n ≤ c * K.n := Nat.mul_le_mul_right _ hc
        refine ⟨_, _, hrun, ⟨some ⟨b, off, none⟩, c, by rw [List.length_append], by rw [List.length_append]; exact hroom, (fun h => by cases h), fun _ => ⟨b, off, rfl, ⟨hb1, by rw [hsize]; exact (Array.getElem?_eq_some_iff.1 hh).1⟩, ⟨cur', hnew, by rw [hsz']; exact hsz⟩, fun j u hj => ?_⟩⟩, hB2, fun k hk _ => hoth k (by omega)⟩
        · rw [Go.cell_of_row _ _ _ _ _ _ hnew]
          rw [eflat_append] at hj
          rw [← Array.getElem?_toList, hlist, List.append_assoc]
          by_cases hjx : j < xs.length * K.n
          · rw [List.getElem?_append_left (by rw [hxl]; exact hjx)] at hj
            rw [List.getElem?_append_left (by rw [List.length_take]; omega), List.getElem?_take_of_lt (by omega)]
            have := hrg j u hj
            rw [Go.cell_of_row _ _ _ _ _ _ hh] at this
            rw [Array.getElem?_toList]
            exact this
          · rw [List.getElem?_append_right (by rw [hxl]; omega), hxl] at hj
            have hjy : j - xs.length * K.n < ys.length * K.n := by
              have := (List.getElem?_eq_some_iff.1 hj).1
              rw [hyl] at this
              exact this
            rw [List.getElem?_append_right (by rw [List.length_take]; omega), List.length_take, Nat.min_eq_left (by omega)]
            rw [List.getElem?_append_left (by rw [hyl]; omega)]
            rw [show off + j - (off + xs.length * K.n) = j - xs.length * K.n by omega]
            exact hj
      · obtain ⟨v', W', hrun, r1, r2⟩ := run_append_arg_grows (P := Try.prog) W t ty K.t i0 _ K.n K.bytes ht hi hz0 hz1 hz2 hzs K.pos ⟨b, off, none⟩ xs.length c (K.flat xs) (eflat_length K xs) (fun j u hj => by rw [Addr.add_mid]; exact hrg j u hj) ⟨b', off', none⟩ ys.length cx (K.flat ys) (eflat_length K ys)
          (fun j u hj => by rw [Addr.add_mid]; exact hrr j u hj) (by omega) (by unfold maxLen; omega) (by omega)
        obtain ⟨f1, f2, f3⟩ := fin v' W' r1 r2
        exact ⟨v', W', hrun, f1, f2, f3⟩
    · obtain rfl : c = 0 := by omega
      have hx0 : xs = [] := List.eq_nil_of_length_eq_zero (by omega)
      subst hx0
      obtain ⟨v', W', hrun, r1, r2⟩ := run_append_arg_grows (P := Try.prog) W t ty K.t i0 _ K.n K.bytes ht hi hz0 hz1 hz2 hzs K.pos a0 0 0 [] (by simp) (fun j u hj => by simp at hj) ⟨b', off', none⟩ ys.length cx (K.flat ys) (eflat_length K ys)
        (fun j u hj => by rw [Addr.add_mid]; exact hrr j u hj) (by omega) (by unfold maxLen; simp at hl; omega) (by rw [Nat.zero_add]; simp at hm; omega)
      obtain ⟨f1, f2, f3⟩ := fin v' W' (by simpa [EK.flat] using r1) r2
      exact ⟨v', W', hrun, f1, f2, f3⟩

theorem wpList_append_lie (K : EK α) {ops : Array Oper} {rest : List Oper} {o : Oper} {a : Act} {W : World} {Q : Exit → Act → World → Prop} (hgd : o.guard = none) (s y : Operand) (t : TypeId)
    (ho : o.op = .call { callee := .builtin .append, args := #[s, y], argTypes := #[t, t] }) (ht : Try.prog.underlying t = some (.slice K.t)) {B C : Nat}
    (v x : Value) (xs ys : List α) (hs : a.eval s = v) (hy : a.eval y = x) (hv : LieE K W B C v xs) (hB : B ≤ W.heap.size) (hx : RdE K W x ys) (h0 : 0 < ys.length) (hl : xs.length + ys.length ≤ 549755813888)
    (h : ∀ v' W', LieE K W' B W'.heap.size v' (xs ++ ys) → Below B W W' → (∀ k, C ≤ k → k < W.heap.size → W'.heap[k]? = W.heap[k]?) → wpList Try.prog ops Q rest (a.put o.dst v') W') : wpList Try.prog ops Q (o :: rest) a W := by
  refine wpList_plain hgd fun K' hK => ?_
  obtain ⟨v', w', hr, h2, h3, h5⟩ := lie_app K t o.type ht W v x xs ys hv hB hx h0 hl
  unfold Oper.wp execOp
  simp only [ho, resolve, invoke, builtin, Sem.run_bind, Sem.run_pure, Result.andThen_ok, List.map_toArray, List.map_cons, List.map_nil, hs, hy, hr]
  exact hK _ _ (h v' w' h2 h3 h5)
/-- The same, at a step of a region that draws its order. -/
theorem step_append_lie (K : EK α) {ops : Array Oper} {o : Oper} {a : Act} {W : World} {K' : Act → World → Prop} {Q : Exit → Act → World → Prop} {E : Prop} (hgd : o.guard = none) (s y : Operand) (t : TypeId)
    (ho : o.op = .call { callee := .builtin .append, args := #[s, y], argTypes := #[t, t] }) (ht : Try.prog.underlying t = some (.slice K.t)) {B C : Nat}
    (v x : Value) (xs ys : List α) (hs : a.eval s = v) (hy : a.eval y = x) (hv : LieE K W B C v xs) (hB : B ≤ W.heap.size) (hx : RdE K W x ys) (h0 : 0 < ys.length) (hl : xs.length + ys.length ≤ 549755813888)
    (h : ∀ v' W', LieE K W' B W'.heap.size v' (xs ++ ys) → Below B W W' → (∀ k, C ≤ k → k < W.heap.size → W'.heap[k]? = W.heap[k]?) → K' (a.put o.dst v') W') :
    if Region.wanted o (yielded ops a.tmps) = true then Oper.wp Try.prog o a W K' Q else E := by
  have hw : Region.wanted o (yielded ops a.tmps) = true := by simp [Region.wanted, hgd]
  rw [if_pos hw]
  obtain ⟨v', w', hr, h2, h3, h5⟩ := lie_app K t o.type ht W v x xs ys hv hB hx h0 hl
  unfold Oper.wp execOp
  simp only [ho, resolve, invoke, builtin, Sem.run_bind, Sem.run_pure, Result.andThen_ok, List.map_toArray, List.map_cons, List.map_nil, hs, hy, hr]
  exact h v' w' h2 h3 h5
end

/-! Rows of bytes. -/
def byteK : EK UInt8 where
  t := 5
  n := 1
  cs := fun b => [.int .u8 (b.toNat : Int)]
  len := fun _ => rfl
  pos := by decide
  one := fun b u hu => by
    simp only [List.mem_cons, List.not_mem_nil, or_false] at hu
    subst hu
    rfl
  zero := 0
  zv := .int .u8 0
  zcs := rfl
  bytes := 1
  bnd := by decide
  wid := by decide
  info := by kernel_rfl
theorem byte_flat (l : List UInt8) : byteK.flat l = l.map fun b => Value.int .u8 (b.toNat : Int) := by
  induction l with
  | nil => rfl
  | cons b r ih => simp only [EK.flat, ih, List.map_cons]; rfl

/-- A row of bytes of the call's own, made a string. -/
theorem byte_conv {W : World} {B C g n cap : Nat} {bs : List UInt8} (h : OwnE byteK W B C (.slice (some ⟨g, 0, none⟩) n cap) bs) (src dst : TypeId) (hs : Try.prog.underlying src = some (.slice 5)) (hd : Try.prog.underlying dst = some .string) :
    (convert src dst (.slice (some ⟨g, 0, none⟩) n cap)).run Try.prog W = .ok (.string ⟨bs.toArray⟩) W := by
  have hn : n = bs.length := by
    obtain ⟨a, c, he, -⟩ := h.form
    injection he
  have h1 := run_convert_bytes_arg (P := Try.prog) W src 5 hs Try.underlying5 g 0 n cap (bs.map fun b => (b.toNat : Int)) (by simp [hn]) (fun i hi => by
    have := (OwnE.at h i (by omega)).1 0 (by decide)
    rw [show i * byteK.n + 0 = 0 + i by show i * 1 + 0 = 0 + i; omega] at this
    rw [this]
    simp [byteK, List.getD, List.getElem?_map, List.getElem?_eq_getElem (show i < bs.length by omega)]) dst hd
  rw [h1]
  have e : strOfNums (bs.map fun b => (b.toNat : Int)) = ⟨bs.toArray⟩ := by
    unfold strOfNums
    congr 1
    congr 1
    rw [List.map_map]
    conv => rhs; rw [← List.map_id bs]
    refine List.map_congr_left fun b _ => ?_
    simp
  rw [e]

/-- A string copied into a part of a row of bytes of one's own. -/
theorem byte_copy {W : World} {B C g n cap : Nat} {bs : List UInt8} (h : OwnE byteK W B C (.slice (some ⟨g, 0, none⟩) n cap) bs) (dT sT ty : TypeId) (hd : Try.prog.underlying dT = some (.slice 5)) (i dc : Nat) (s : ByteArray) (hi : i + s.size ≤ bs.length) :
    ∃ W', (Builtin.copy_ #[dT, sT] ty #[.slice (some ⟨g, i, none⟩) s.size dc, .string s]).run Try.prog W = .ok (goInt s.size) W' ∧
      OwnE byteK W' B C (.slice (some ⟨g, 0, none⟩) n cap) (bs.take i ++ s.data.toList ++ bs.drop (i + s.data.toList.length)) ∧ W.grownBy W' (some g) ∧ W'.heap.size = W.heap.size := by
  have hsl : s.data.toList.length = s.size := by rw [Array.length_toList]; rfl
  have hcap : bs.length ≤ cap ∧ n = bs.length := by
    rcases h.1.2 with ⟨h2, _⟩ | ⟨g', cap', cur, hv, hg, hh, r1, -⟩
    · cases h2
    · injection hv with e1 e2 e3
      omega
  obtain ⟨W', h1, h2, h3, h4⟩ := estore h i s.data.toList (by omega) (by omega)
  rw [show max n (i + s.data.toList.length) = n by omega] at h2
  refine ⟨W', ?_, h2, h3, h4⟩
  obtain ⟨i0, hq, -, -, -⟩ := einfo byteK
  have hq' : Try.prog.info? 5 = some i0 := hq
  have hx : List.take s.size (List.map (fun b => Value.int .u8 (b.toNat : Int)) s.data.toList) = byteK.flat s.data.toList := by
    rw [byte_flat, List.take_of_length_le (by rw [List.length_map, hsl]; omega)]
  have e : i * byteK.n = i := Nat.mul_one i
  rw [e, ← hx] at h1
  simp [Builtin.copy_, run_underlying hd, Builtin.lenOf, Builtin.firstCells, sizeOf, typeInfo, hq', h1]
end Go.Proofs.Ytoeflkmhofkiaaa
