import Derived.Test.YtmfbhejclmelaaaAcv
import Derived.Test.YtmfbhejclmelaaaLaw
import Derived.Maps.Own
import Derived.Maps.OwnOps
import Derived.Maps.OwnSet
import Derived.Maps.Views
import Derived.DeepKeys5
namespace Go.Proofs.Ytmfbhejclmelaaa
open Go.RowKit Go.Maps

/-! The book's keys and elements, as the maps' laws read them. -/
theorem kvKeyed : Keyed Try.prog 71 := Keyed.of_law (deep_law_gate Try.laidOut (of_decide_eq_true (by kernel_rfl)) (of_decide_eq_true (by kernel_rfl)) (by kernel_rfl) (by kernel_rfl))
theorem intKeyed : Keyed Try.prog 3 := int_keyed Try.underlying3
def kvVal (k : Kk) : Value := .agg #[.int .i64 k.1, .int .i64 (k.2 : Int)]
def avVal (a : Av) : Value := .agg #[.int .i64 a.id, .int .i64 a.addr, .bool a.spare, .bool a.told]
/-- A key that Go can make. -/
def OkK (k : Kk) : Prop := (Lit.int .i64 k.1).wf = true ∧ (Lit.int .i64 (k.2 : Int)).wf = true
def kvLit (k : Kk) : Lit := .string (keyBytes [.int .i64 k.1, .int .i64 (k.2 : Int)])
theorem typesSucc : ∃ m, Try.prog.types.size = m + 1 := ⟨Try.prog.types.size - 1, by have : 0 < Try.prog.types.size := of_decide_eq_true (by kernel_rfl); omega⟩
theorem kvType : Try.prog.keyType 71 = true := by kernel_rfl
theorem kvStruct : Try.prog.underlying 71 = some (.struct (Try.prog.fieldsOf 71)) := by kernel_rfl
theorem kvCells : Try.prog.cellsOf 71 = 2 := by kernel_rfl
theorem kvOne : Try.prog.cellsOf 3 = 1 := by kernel_rfl
theorem keyOf_kv (k : Kk) (h : OkK k) : keyOf Try.prog 71 (kvVal k) = some (kvLit k) := by
  obtain ⟨m, hm⟩ := typesSucc
  obtain ⟨h1, h2⟩ := h
  unfold keyOf
  simp only [kvStruct]
  rw [if_pos (by simp [kvType, Value.formed, kvCells, kvVal]), hm]
  unfold Program.keyLits
  simp only [Try.underlying71, Value.cells, kvVal]
  rw [if_pos (by rw [kvCells]; exact ⟨rfl, by kernel_rfl⟩)]
  simp [kvOne, Program.keyLits, Try.underlying3, h1, h2, kvLit]
theorem kvVal_inj {a b : Kk} (h : kvVal a = kvVal b) : a = b := by
  unfold kvVal at h
  injection h with h
  have h := congrArg Array.toList h
  simp only [List.cons.injEq, and_true] at h
  obtain ⟨h1, h2⟩ := h
  injection h1 with _ h1
  injection h2 with _ h2
  exact Prod.ext h1 (by omega)
theorem kvLit_ne {a b : Kk} (ha : OkK a) (hb : OkK b) (h : a ≠ b) : kvLit a ≠ kvLit b := fun e =>
  h (kvVal_inj (kvKeyed.inj (keyOf_kv a ha) (e ▸ keyOf_kv b hb)))

def avD (a : Av) : DataW Unit := .agg [.lit (.int .i64 a.id), .lit (.int .i64 a.addr), .lit (.bool a.spare), .lit (.bool a.told)]
theorem avVal_inj {a b : Av} (h : avVal a = avVal b) : a = b := by
  unfold avVal at h
  injection h with h
  have h := congrArg Array.toList h
  simp only [List.cons.injEq, and_true] at h
  obtain ⟨h1, h2, h3, h4⟩ := h
  injection h1 with _ h1
  injection h2 with _ h2
  injection h3 with h3
  injection h4 with h4
  cases a
  cases b
  simp only at h1 h2 h3 h4
  subst h1 h2 h3 h4
  rfl
open Classical in
noncomputable def avR (v : Value) : Option (DataW Unit × List MemPlace) := if h : ∃ a, v = avVal a then some (avD h.choose, []) else none
theorem avR_mk (a : Av) : avR (avVal a) = some (avD a, []) := by
  have h : ∃ b, avVal a = avVal b := ⟨a, rfl⟩
  unfold avR
  rw [dif_pos h, ← avVal_inj h.choose_spec]
theorem avD_inj {a b : Av} (h : avD a = avD b) : a = b := by
  unfold avD at h
  injection h with h
  simp only [List.cons.injEq, and_true] at h
  obtain ⟨h1, h2, h3, h4⟩ := h
  injection h1 with h1
  injection h1 with _ h1
  injection h2 with h2
  injection h2 with _ h2
  injection h3 with h3
  injection h3 with h3
  injection h4 with h4
  injection h4 with h4
  cases a
  cases b
  simp only at h1 h2 h3 h4
  subst h1 h2 h3 h4
  rfl
theorem avR_inv {v : Value} {z : DataW Unit × List MemPlace} (h : avR v = some z) : ∃ a, v = avVal a ∧ z = (avD a, []) := by
  unfold avR at h
  split at h
  · next hx => exact ⟨hx.choose, hx.choose_spec, by injection h with h; exact h.symm⟩
  · cases h
theorem uMap : Try.prog.underlying 54 = some (.map 71 26) := Try.underlying54
theorem uMapI : Try.prog.underlying 69 = some (.map 3 3) := Try.underlying69
theorem zeroAv (w : World) : (zeroValue 26).run Try.prog w = .ok (avVal Av.zero) w := by kernel_rfl
theorem zeroI (w : World) : (zeroValue 3).run Try.prog w = .ok (.int .i64 0) w := by kernel_rfl

/-- Block b is a map of at most n addresses that holds just what F says. -/
def MapAt (w : World) (b n : Nat) (F : Kk → Option Av) : Prop :=
  ∃ D, w.ownsMap Try.prog 71 avR b n D ∧ ∀ k, OkK k → Maps.has D (kvLit k) = (F k).isSome ∧ ∀ z, D.atKey (kvLit k) z = match F k with | some a => avD a | none => z
theorem MapAt.made (w : World) : MapAt (w.alloc (.map #[] 0)) w.heap.size 0 (fun _ => none) :=
  ⟨_, World.ownsMap_made _ _ _ _, fun _ _ => ⟨rfl, fun _ => rfl⟩⟩
theorem MapAt.keepAt {w w' : World} {b n : Nat} {F : Kk → Option Av} (h : MapAt w b n F) (hb : w'.heap[b]? = w.heap[b]?) : MapAt w' b n F := by
  obtain ⟨D, ⟨es, clock, h1, h2⟩, h3⟩ := h
  exact ⟨D, ⟨es, clock, hb.trans h1, h2⟩, h3⟩
theorem MapAt.lt {w : World} {b n : Nat} {F : Kk → Option Av} (h : MapAt w b n F) : b < w.heap.size := by
  obtain ⟨D, h1, -⟩ := h
  exact h1.lt
theorem MapAt.keep {w w' : World} {b n B : Nat} {F : Kk → Option Av} (h : MapAt w b n F) (hb : Below B w w') (hB : b < B) : MapAt w' b n F := h.keepAt (hb.block b hB)
theorem MapAt.kept {w w' : World} {b n : Nat} {F : Kk → Option Av} (h : MapAt w b n F) (hb : Below w.heap.size w w') : MapAt w' b n F := h.keep hb h.lt
theorem MapAt.ne {w : World} {b n g : Nat} {F : Kk → Option Av} {c : Array Value} {t : TypeId} {z : Nat × Nat} (h : MapAt w b n F) (hg : w.heap[g]? = some (.cells c t z)) : g ≠ b := by
  rintro rfl
  obtain ⟨D, ⟨es, clock, h1, -⟩, -⟩ := h
  rw [hg] at h1
  cases h1
theorem MapAt.mono {w : World} {b n n' : Nat} {F : Kk → Option Av} (h : MapAt w b n F) (hn : n ≤ n') : MapAt w b n' F := by
  obtain ⟨D, h1, h2⟩ := h
  exact ⟨D, h1.mono hn, h2⟩

/-- 'v, ok := m[k]' -/
theorem MapAt.look {w : World} {b n : Nat} {F : Kk → Option Av} (h : MapAt w b n F) (k : Kk) (hk : OkK k) :
    (Instr.lookup 54 (.map (some b)) (kvVal k) true).run Try.prog w = .ok (.tuple #[avVal ((F k).getD Av.zero), .bool (F k).isSome]) w := by
  obtain ⟨D, h1, h2⟩ := h
  obtain ⟨hh, ha⟩ := h2 k hk
  obtain ⟨v, ps, hr, hv⟩ := h1.look_ok kvKeyed uMap (zeroAv w) (avR_mk Av.zero) (keyOf_kv k hk)
  rw [hr, hh]
  obtain ⟨a, rfl, e⟩ := avR_inv hv
  rw [ha] at e
  injection e with e
  cases hF : F k with
  | none =>
    rw [hF] at e
    rw [avD_inj e]
    rfl
  | some y =>
    rw [hF] at e
    rw [avD_inj e]
    rfl

theorem sameKv {a b : Kk} (ha : OkK a) (hb : OkK b) : WideAt.IsKeyLit (kvLit a) ∧ (a ≠ b → kvLit b ≠ kvLit a) := ⟨kvKeyed.key (keyOf_kv a ha), fun h e => kvLit_ne ha hb h e.symm⟩
/-- 'm[k] = v' -/
theorem MapAt.put {w : World} {b n : Nat} {F : Kk → Option Av} (h : MapAt w b n F) (k : Kk) (hk : OkK k) (a : Av) (hn : n < maxLen) :
    ∃ w', (Instr.mapUpdate 54 (.map (some b)) (kvVal k) (avVal a)).run Try.prog w = .ok () w' ∧ MapAt w' b (n + 1) (upd F k (some a)) ∧ w.grownBy w' (some b) ∧ w'.heap.size = w.heap.size := by
  obtain ⟨D, h1, h2⟩ := h
  obtain ⟨w', hr, r1, r2⟩ := h1.store kvKeyed uMap hn (keyOf_kv k hk) (avR_mk a)
  refine ⟨w', hr, ⟨_, r1, fun k' hk' => ?_⟩, r2.grown, ?_⟩
  · by_cases e : k' = k
    · subst e
      have hu : upd F k' (some a) k' = some a := by unfold upd; rw [if_pos rfl]
      rw [hu]
      exact ⟨has_put_same h1.isMap (kvKeyed.key (keyOf_kv k' hk')) _, fun z => atKey_put_same h1.isMap (kvKeyed.key (keyOf_kv k' hk')) _ z⟩
    · have hu : upd F k (some a) k' = F k' := by unfold upd; rw [if_neg e]
      rw [hu]
      have hne := kvLit_ne hk' hk e
      rw [has_put_other hne]
      refine ⟨(h2 k' hk').1, fun z => ?_⟩
      rw [atKey_put_other hne]
      exact (h2 k' hk').2 z
  · obtain ⟨es, clock, es', clock', hb, rfl⟩ := r2
    simp [ChangeMaps.setBlock]
/-- 'delete(m, k)' -/
theorem MapAt.del {w : World} {b n : Nat} {F : Kk → Option Av} (h : MapAt w b n F) (k : Kk) (hk : OkK k) (ty : TypeId) :
    ∃ w', (Builtin.delete_ #[54, 71] ty #[.map (some b), kvVal k]).run Try.prog w = .ok (.tuple #[]) w' ∧ MapAt w' b n (upd F k none) ∧ w.grownBy w' (some b) ∧ w'.heap.size = w.heap.size := by
  obtain ⟨D, h1, h2⟩ := h
  obtain ⟨w', hr, r1, r2⟩ := h1.drop kvKeyed uMap (keyOf_kv k hk) ty
  refine ⟨w', hr, ⟨_, r1, fun k' hk' => ?_⟩, r2.grown, ?_⟩
  · by_cases e : k' = k
    · subst e
      have hu : upd F k' none k' = none := by unfold upd; rw [if_pos rfl]
      rw [hu]
      exact ⟨has_del_same, fun z => atKey_del_same z⟩
    · have hu : upd F k none k' = F k' := by unfold upd; rw [if_neg e]
      rw [hu]
      have hne := kvLit_ne hk' hk e
      rw [has_del_other hne]
      refine ⟨(h2 k' hk').1, fun z => ?_⟩
      rw [atKey_del_other hne]
      exact (h2 k' hk').2 z
  · obtain ⟨es, clock, es', clock', hb, rfl⟩ := r2
    simp [ChangeMaps.setBlock]

/-! How many have an Id so far. -/
def TurnAt (w : World) (b n : Nat) (f : Int → Nat) : Prop :=
  ∃ D, w.ownsMap Try.prog 3 (plainElem (H := Unit) Try.prog 3) b n D ∧ ∀ x, (Lit.int .i64 x).wf = true → D.atKey (.int .i64 x) (.lit (.int .i64 0)) = .lit (.int .i64 (f x : Int))
theorem TurnAt.made (w : World) : TurnAt (w.alloc (.map #[] 0)) w.heap.size 0 (fun _ => 0) :=
  ⟨_, World.ownsMap_made _ _ _ _, fun _ _ => rfl⟩
theorem TurnAt.keepAt {w w' : World} {b n : Nat} {f : Int → Nat} (h : TurnAt w b n f) (hb : w'.heap[b]? = w.heap[b]?) : TurnAt w' b n f := by
  obtain ⟨D, ⟨es, clock, h1, h2⟩, h3⟩ := h
  exact ⟨D, ⟨es, clock, hb.trans h1, h2⟩, h3⟩
theorem TurnAt.lt {w : World} {b n : Nat} {f : Int → Nat} (h : TurnAt w b n f) : b < w.heap.size := by
  obtain ⟨D, h1, -⟩ := h
  exact h1.lt
theorem TurnAt.kept {w w' : World} {b n : Nat} {f : Int → Nat} (h : TurnAt w b n f) (hb : Below w.heap.size w w') : TurnAt w' b n f := h.keepAt (hb.block b h.lt)
theorem TurnAt.look {w : World} {b n : Nat} {f : Int → Nat} (h : TurnAt w b n f) (x : Int) (hx : (Lit.int .i64 x).wf = true) :
    (Instr.lookup 69 (.map (some b)) (.int .i64 x) false).run Try.prog w = .ok (.int .i64 (f x : Int)) w := by
  obtain ⟨D, h1, h2⟩ := h
  obtain ⟨c, hr, ha, -⟩ := h1.lookup_int intKeyed uMapI Try.underlying3 (zeroI w) (keyOf_int_mk Try.underlying3 hx)
  rw [h2 x hx] at ha
  injection ha with ha
  injection ha with _ ha
  rw [hr, ha]
theorem TurnAt.put {w : World} {b n : Nat} {f : Int → Nat} (h : TurnAt w b n f) (x : Int) (hx : (Lit.int .i64 x).wf = true) (y : Nat) (hy : y ≤ 2097152) (hn : n < maxLen) :
    ∃ w', (Instr.mapUpdate 69 (.map (some b)) (.int .i64 x) (.int .i64 (y : Int))).run Try.prog w = .ok () w' ∧ TurnAt w' b (n + 1) (fun z => if z = x then y else f z) ∧ w.grownBy w' (some b) ∧ w'.heap.size = w.heap.size := by
  obtain ⟨D, h1, h2⟩ := h
  have hwy : (Lit.int .i64 (y : Int)).wf = true := WalkArith.wf_i64 (by omega)
  obtain ⟨w', hr, r1, r2⟩ := h1.store intKeyed uMapI hn (keyOf_int_mk Try.underlying3 hx) (plainElem_int Try.underlying3 hwy)
  refine ⟨w', hr, ⟨_, r1, fun z hz => ?_⟩, r2.grown, ?_⟩
  · by_cases e : z = x
    · subst e
      rw [atKey_put_same h1.isMap (intKeyed.key (keyOf_int_mk Try.underlying3 hz))]
      simp
    · rw [atKey_put_other (fun e2 => e (by injection e2))]
      show _ = DataW.lit (Lit.int .i64 (((if z = x then y else f z) : Nat) : Int))
      rw [if_neg e]
      exact h2 z hz
  · obtain ⟨es, clock, es', clock', hb, rfl⟩ := r2
    simp [ChangeMaps.setBlock]
end Go.Proofs.Ytmfbhejclmelaaa
