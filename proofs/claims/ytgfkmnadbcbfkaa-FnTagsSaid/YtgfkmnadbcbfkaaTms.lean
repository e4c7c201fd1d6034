import Derived.Test.YtgfkmnadbcbfkaaTcv
import Derived.Test.YtgfkmnadbcbfkaaEar
import Derived.Maps.Own
import Derived.Maps.OwnOps
import Derived.Maps.OwnSet
import Derived.Maps.Views
import Derived.DeepKeys5
namespace Go.Proofs.Ytgfkmnadbcbfkaa
open Go.RowKit Go.Maps

/-! Sets: maps of Booleans, by the kind of their keys. -/
structure SK (κ : Type) where
  t : TypeId
  kt : TypeId
  val : κ → Value
  lit : κ → Lit
  ok : κ → Prop
  keyed : Keyed Try.prog kt
  key : ∀ k, ok k → keyOf Try.prog kt (val k) = some (lit k)
  inj : ∀ a b, val a = val b → a = b
  und : Try.prog.underlying t = some (.map kt 4)
section
variable {κ : Type} [DecidableEq κ] (K : SK κ)
omit [DecidableEq κ] in
theorem SK.ne {a b : κ} (ha : K.ok a) (hb : K.ok b) (h : a ≠ b) : K.lit a ≠ K.lit b := fun e => h (K.inj a b (K.keyed.inj (K.key a ha) (e ▸ K.key b hb)))
theorem zeroB (w : World) : (zeroValue 4).run Try.prog w = .ok (.bool false) w := by kernel_rfl
theorem plainElem_bool_inv {v : Value} {z : DataW Unit × List MemPlace} (h : plainElem Try.prog 4 v = some z) : ∃ a, v = .bool a ∧ z = (.lit (.bool a), []) := by
  unfold plainElem at h
  rw [Try.underlying4] at h
  split at h
  · cases h
    exact ⟨_, rfl, rfl⟩
  · next _ he => cases he
  · next _ he => cases he
  · cases h
/-- Block b is a set of at most n puts that holds just what F says. -/
def SetAt (w : World) (b n : Nat) (F : κ → Bool) : Prop :=
  ∃ D, w.ownsMap Try.prog K.kt (plainElem (H := Unit) Try.prog 4) b n D ∧ ∀ k, K.ok k → D.atKey (K.lit k) (.lit (.bool false)) = .lit (.bool (F k))
variable {K}
omit [DecidableEq κ] in
theorem SetAt.made (w : World) : SetAt K (w.alloc (.map #[] 0)) w.heap.size 0 (fun _ => false) :=
  ⟨_, World.ownsMap_made _ _ _ _, fun _ _ => rfl⟩
omit [DecidableEq κ] in
theorem SetAt.keepAt {w w' : World} {b n : Nat} {F : κ → Bool} (h : SetAt K w b n F) (hb : w'.heap[b]? = w.heap[b]?) : SetAt K w' b n F := by
  obtain ⟨D, ⟨es, clock, h1, h2⟩, h3⟩ := h
  exact ⟨D, ⟨es, clock, hb.trans h1, h2⟩, h3⟩
omit [DecidableEq κ] in
theorem SetAt.lt {w : World} {b n : Nat} {F : κ → Bool} (h : SetAt K w b n F) : b < w.heap.size := by
  obtain ⟨D, h1, -⟩ := h
  exact h1.lt
omit [DecidableEq κ] in
theorem SetAt.keep {w w' : World} {b n B : Nat} {F : κ → Bool} (h : SetAt K w b n F) (hb : Below B w w') (hB : b < B) : SetAt K w' b n F := h.keepAt (hb.block b hB)
omit [DecidableEq κ] in
theorem SetAt.kept {w w' : World} {b n : Nat} {F : κ → Bool} (h : SetAt K w b n F) (hb : Below w.heap.size w w') : SetAt K w' b n F := h.keep hb h.lt
omit [DecidableEq κ] in
theorem SetAt.ne {w : World} {b n g : Nat} {F : κ → Bool} {c : Array Value} {t : TypeId} {z : Nat × Nat} (h : SetAt K w b n F) (hg : w.heap[g]? = some (.cells c t z)) : g ≠ b := by
  rintro rfl
  obtain ⟨D, ⟨es, clock, h1, -⟩, -⟩ := h
  rw [hg] at h1
  cases h1
omit [DecidableEq κ] in
/-- 'm[k]' -/
theorem SetAt.look {w : World} {b n : Nat} {F : κ → Bool} (h : SetAt K w b n F) (k : κ) (hk : K.ok k) :
    (Instr.lookup K.t (.map (some b)) (K.val k) false).run Try.prog w = .ok (.bool (F k)) w := by
  obtain ⟨D, h1, h2⟩ := h
  obtain ⟨v, ps, hr, hv⟩ := h1.lookup K.keyed K.und (zeroB w) (plainElem_bool Try.underlying4 false) (K.key k hk)
  obtain ⟨c, rfl, e⟩ := plainElem_bool_inv hv
  rw [h2 k hk] at e
  injection e with e
  injection e with e
  injection e with e
  rw [hr, e]
/-- 'm[k] = true' -/
theorem SetAt.put {w : World} {b n : Nat} {F : κ → Bool} (h : SetAt K w b n F) (k : κ) (hk : K.ok k) (hn : n < maxLen) :
    ∃ w', (Instr.mapUpdate K.t (.map (some b)) (K.val k) (.bool true)).run Try.prog w = .ok () w' ∧ SetAt K w' b (n + 1) (fun z => decide (z = k) || F z) ∧ w.grownBy w' (some b) ∧ w'.heap.size = w.heap.size := by
  obtain ⟨D, h1, h2⟩ := h
  obtain ⟨w', hr, r1, r2⟩ := h1.store K.keyed K.und hn (K.key k hk) (plainElem_bool Try.underlying4 true)
  refine ⟨w', hr, ⟨_, r1, fun z hz => ?_⟩, r2.grown, ?_⟩
  · by_cases e : z = k
    · subst e
      rw [atKey_put_same h1.isMap (K.keyed.key (K.key z hz))]
      simp
    · rw [atKey_put_other (K.ne hz hk e), h2 z hz]
      simp [e]
  · obtain ⟨es, clock, es', clock', hb, rfl⟩ := r2
    simp [ChangeMaps.setBlock]
omit [DecidableEq κ] in
theorem SetAt.of_eq {w : World} {b n : Nat} {F G : κ → Bool} (h : SetAt K w b n F) (e : ∀ k, K.ok k → F k = G k) : SetAt K w b n G := by
  obtain ⟨D, h1, h2⟩ := h
  exact ⟨D, h1, fun k hk => by rw [h2 k hk, e k hk]⟩
end

/-- 'm[k] = true', where the order is written. -/
theorem wpList_setPut {κ : Type} [DecidableEq κ] {K : SK κ} {ops : Array Oper} {rest : List Oper} {o : Oper} {a : Act} {W : World} {Q : Exit → Act → World → Prop} (hgd : o.guard = none) (m x v : Operand)
    (ho : o.op = .mapUpdate K.t m x v) {b n : Nat} {F : κ → Bool} (k : κ)
    (hm : a.eval m = .map (some b)) (hx : a.eval x = K.val k) (hv : a.eval v = .bool true) (hM : SetAt K W b n F) (hk : K.ok k) (hn : n < maxLen)
    (h : ∀ W', SetAt K W' b (n + 1) (fun z => decide (z = k) || F z) → W.grownBy W' (some b) → W'.heap.size = W.heap.size → wpList Try.prog ops Q rest (a.put o.dst undef) W') : wpList Try.prog ops Q (o :: rest) a W := by
  refine wpList_plain hgd fun K' hK => ?_
  obtain ⟨w', hr, h1, h2, h3⟩ := hM.put k hk hn
  unfold Oper.wp execOp
  simp only [ho, hm, hx, hv, hr, Sem.run_bind, Sem.run_pure, Result.andThen_ok]
  exact hK _ _ (h w' h1 h2 h3)

/-! The two kinds. -/
def tvVal (t : Tv) : Value := .agg #[.int .i64 t.kind, .int .i64 t.one, .int .i64 t.two, .int .i64 t.a, .int .i64 t.b]
def tvLit (t : Tv) : Lit := .string (keyBytes [.int .i64 t.kind, .int .i64 t.one, .int .i64 t.two, .int .i64 t.a, .int .i64 t.b])
theorem tvKeyed : Keyed Try.prog 29 := Keyed.of_law (deep_law_gate Try.laidOut (of_decide_eq_true (by kernel_rfl)) (of_decide_eq_true (by kernel_rfl)) (by kernel_rfl) (by kernel_rfl))
theorem intKeyedS : Keyed Try.prog 3 := int_keyed Try.underlying3
theorem typesSuccS : ∃ m, Try.prog.types.size = m + 1 := ⟨Try.prog.types.size - 1, by have : 0 < Try.prog.types.size := of_decide_eq_true (by kernel_rfl); omega⟩
theorem tvKeyType : Try.prog.keyType 29 = true := by kernel_rfl
theorem tvStruct : Try.prog.underlying 29 = some (.struct (Try.prog.fieldsOf 29)) := by kernel_rfl
theorem tvCells : Try.prog.cellsOf 29 = 5 := by kernel_rfl
theorem intOne : Try.prog.cellsOf 3 = 1 := by kernel_rfl
theorem keyOf_tv (k : Tv) (h : TvW k) : keyOf Try.prog 29 (tvVal k) = some (tvLit k) := by
  obtain ⟨m, hm⟩ := typesSuccS
  obtain ⟨h1, h2, h3, h4, h5⟩ := h
  unfold IntW at h1 h2 h3 h4 h5
  unfold keyOf
  simp only [tvStruct]
  rw [if_pos (by simp [tvKeyType, Value.formed, tvCells, tvVal]), hm]
  unfold Program.keyLits
  simp only [Try.underlying29, Value.cells, tvVal]
  rw [if_pos (by rw [tvCells]; exact ⟨rfl, by kernel_rfl⟩)]
  simp [intOne, Program.keyLits, Try.underlying3, h1, h2, h3, h4, h5, tvLit]
theorem tvVal_inj (a b : Tv) (h : tvVal a = tvVal b) : a = b := by
  unfold tvVal at h
  injection h with h
  have h := congrArg Array.toList h
  simp only [List.cons.injEq, and_true] at h
  obtain ⟨h1, h2, h3, h4, h5⟩ := h
  injection h1 with _ h1
  injection h2 with _ h2
  injection h3 with _ h3
  injection h4 with _ h4
  injection h5 with _ h5
  cases a
  cases b
  simp only at h1 h2 h3 h4 h5
  subst h1 h2 h3 h4 h5
  rfl
def tagS : SK Tv where
  t := 58
  kt := 29
  val := tvVal
  lit := tvLit
  ok := TvW
  keyed := tvKeyed
  key := keyOf_tv
  inj := tvVal_inj
  und := by kernel_rfl
def intS : SK Int where
  t := 55
  kt := 3
  val := fun n => .int .i64 n
  lit := fun n => .int .i64 n
  ok := IntW
  keyed := intKeyedS
  key := fun k h => keyOf_int_mk Try.underlying3 h
  inj := fun a b h => by injection h
  und := by kernel_rfl
theorem tvW_zero : TvW Tv.zero := by
  refine ⟨?_, ?_, ?_, ?_, ?_⟩ <;> (show (Lit.int .i64 0).wf = true; decide)
end Go.Proofs.Ytgfkmnadbcbfkaa
