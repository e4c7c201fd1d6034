import Derived.Test.YtmokepopmfcdnaaAcv
import Derived.Test.YtmokepopmfcdnaaLaw
import Derived.Maps.Own
import Derived.Maps.OwnOps
import Derived.Maps.OwnSet
import Derived.Maps.Views
import Derived.DeepKeys5
namespace Go.Proofs.Ytmokepopmfcdnaa
open Go.RowKit Go.Maps

/-! The book's keys and elements, as the maps' laws read them. -/
theorem intKeyed : Keyed Try.prog 3 := int_keyed Try.underlying3
def kvVal (k : Kk) : Value := .agg #[.int .i64 k.1, .int .i64 (k.2 : Int)]
def avVal (a : Av) : Value := .agg #[.int .i64 a.id, .int .i64 a.addr, .bool a.spare, .bool a.told]
/-- A key that Go can make. -/
def OkK (k : Kk) : Prop := (Lit.int .i64 k.1).wf = true ∧ (Lit.int .i64 (k.2 : Int)).wf = true
def kvLit (k : Kk) : Lit := .string (keyBytes [.int .i64 k.1, .int .i64 (k.2 : Int)])
theorem typesSucc : ∃ m, Try.prog.types.size = m + 1 := ⟨Try.prog.types.size - 1, by have : 0 < Try.prog.types.size := of_decide_eq_true (by kernel_rfl); omega⟩
theorem kvOne : Try.prog.cellsOf 3 = 1 := by kernel_rfl
theorem kvVal_inj {a b : Kk} (h : kvVal a = kvVal b) : a = b := by
  unfold kvVal at h
  injection h with h
  have h := congrArg Array.toList h
  simp only [List.cons.injEq, and_true] at h
  obtain ⟨h1, h2⟩ := h
  injection h1 with _ h1
  injection h2 with _ h2
  exact Prod.ext h1 (by omega)
def avD (a : Av) : DataW Unit := .agg [.lit (.int .i64 a.id), .lit (.int .i64 a.addr), .lit (.bool a.spare), .lit (.bool a.told)]
theorem avVal_inj {a b : Av} (h : avVal a = avVal b) : a = b := by
  unfold avVal at h
  injection h with h
  have h := congrArg Array.toList h
  simp only [List.cons.injEq, and_true] at h
  obtain ⟨h1, h2, h3, h4⟩ := h
  injection h1 with _ h1
  injection h2 with _ h2
  injection h3 with h3
  injection h4 with h4
  cases a
  cases b
  simp only at h1 h2 h3 h4
  subst h1 h2 h3 h4
  rfl
open Classical in
noncomputable def avR (v : Value) : Option (DataW Unit × List MemPlace) := if h : ∃ a, v = avVal a then some (avD h.choose, []) else none
theorem avR_mk (a : Av) : avR (avVal a) = some (avD a, []) := by
  have h : ∃ b, avVal a = avVal b := ⟨a, rfl⟩
  unfold avR
  rw [dif_pos h, ← avVal_inj h.choose_spec]
theorem avD_inj {a b : Av} (h : avD a = avD b) : a = b := by
  unfold avD at h
  injection h with h
  simp only [List.cons.injEq, and_true] at h
  obtain ⟨h1, h2, h3, h4⟩ := h
  injection h1 with h1
  injection h1 with _ h1
  injection h2 with h2
  injection h2 with _ h2
  injection h3 with h3
  injection h3 with h3
  injection h4 with h4
  injection h4 with h4
  cases a
  cases b
  simp only at h1 h2 h3 h4
  subst h1 h2 h3 h4
  rfl
theorem avR_inv {v : Value} {z : DataW Unit × List MemPlace} (h : avR v = some z) : ∃ a, v = avVal a ∧ z = (avD a, []) := by
  unfold avR at h
  split at h
  · next hx => exact ⟨hx.choose, hx.choose_spec, by injection h with h; exact h.symm⟩
  · cases h
theorem zeroAv (w : World) : (zeroValue 32).run Try.prog w = .ok (avVal Av.zero) w := by kernel_rfl
theorem zeroI (w : World) : (zeroValue 3).run Try.prog w = .ok (.int .i64 0) w := by kernel_rfl

/-! How many have an Id so far. -/
def TurnAt (w : World) (b n : Nat) (f : Int → Nat) : Prop :=
  ∃ D, w.ownsMap Try.prog 3 (plainElem (H := Unit) Try.prog 3) b n D ∧ ∀ x, (Lit.int .i64 x).wf = true → D.atKey (.int .i64 x) (.lit (.int .i64 0)) = .lit (.int .i64 (f x : Int))
theorem TurnAt.made (w : World) : TurnAt (w.alloc (.map #[] 0)) w.heap.size 0 (fun _ => 0) :=
  ⟨_, World.ownsMap_made _ _ _ _, fun _ _ => rfl⟩
theorem TurnAt.keepAt {w w' : World} {b n : Nat} {f : Int → Nat} (h : TurnAt w b n f) (hb : w'.heap[b]? = w.heap[b]?) : TurnAt w' b n f := by
  obtain ⟨D, ⟨es, clock, h1, h2⟩, h3⟩ := h
  exact ⟨D, ⟨es, clock, hb.trans h1, h2⟩, h3⟩
theorem TurnAt.lt {w : World} {b n : Nat} {f : Int → Nat} (h : TurnAt w b n f) : b < w.heap.size := by
  obtain ⟨D, h1, -⟩ := h
  exact h1.lt
theorem TurnAt.kept {w w' : World} {b n : Nat} {f : Int → Nat} (h : TurnAt w b n f) (hb : Below w.heap.size w w') : TurnAt w' b n f := h.keepAt (hb.block b h.lt)
end Go.Proofs.Ytmokepopmfcdnaa
