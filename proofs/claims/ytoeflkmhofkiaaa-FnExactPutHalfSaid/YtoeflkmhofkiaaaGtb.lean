import Derived.Test.YtoeflkmhofkiaaaAl2
import Derived.Test.YtoeflkmhofkiaaaAmk
namespace Go.Proofs.Ytoeflkmhofkiaaa
open Go.RowKit
set_option maxRecDepth 100000

/-- Booleans as elements of a row. -/
def boolK : EK Bool where
  t := 4
  n := 1
  cs := fun b => [.bool b]
  len := fun _ => rfl
  pos := by decide
  one := fun p u hu => by
    simp only [List.mem_cons, List.not_mem_nil, or_false] at hu
    rcases hu with rfl | rfl <;> rfl
  zero := false
  zv := .bool false
  zcs := rfl
  bytes := 1
  bnd := by decide
  wid := by decide
  info := by kernel_rfl
theorem bool_at {W : World} {a : Option Addr} {n c : Nat} {xs : List Bool} (h : RdE boolK W (.slice a n c) xs) (i : Nat) (hi : i < xs.length) :
    ∃ b off, a = some ⟨b, off, none⟩ ∧ b < W.heap.size ∧ W.cell? ⟨b, off + i, none⟩ = some (.bool xs[i]) := by
  obtain ⟨b, off, h1, h2, h3, -⟩ := RdE.at (P := Try.prog) h i hi
  have := h3 0 (by decide)
  rw [show off + i * boolK.n + 0 = off + i from by show off + i * 1 + 0 = off + i; omega] at this
  exact ⟨b, off, h1, h2, this⟩
theorem int_at {W : World} {a : Option Addr} {n c : Nat} {xs : List Int} (h : RdE intK W (.slice a n c) xs) (i : Nat) (hi : i < xs.length) :
    ∃ b off, a = some ⟨b, off, none⟩ ∧ b < W.heap.size ∧ W.cell? ⟨b, off + i, none⟩ = some (.int .i64 xs[i]) := by
  obtain ⟨b, off, h1, h2, h3, -⟩ := RdE.at (P := Try.prog) h i hi
  have := h3 0 (by decide)
  rw [show off + i * intK.n + 0 = off + i from by show off + i * 1 + 0 = off + i; omega] at this
  exact ⟨b, off, h1, h2, this⟩
theorem bool_own {W : World} {B C : Nat} {g n cap : Nat} {xs : List Bool} (h : OwnE boolK W B C (.slice (some ⟨g, 0, none⟩) n cap) xs) (i : Nat) (hi : i < xs.length) :
    W.cell? ⟨g, i, none⟩ = some (.bool xs[i]) ∧ (∀ j, W.frozen? ⟨g, j, none⟩ = false) ∧ g < W.heap.size := by
  obtain ⟨h1, h2, h3, -⟩ := OwnE.at h i hi
  have := h1 0 (by decide)
  rw [show i * boolK.n + 0 = i from by show i * 1 + 0 = i; omega] at this
  exact ⟨this, h2, h3⟩
theorem bool_put {W : World} {B C : Nat} {g n cap : Nat} {xs : List Bool} (h : OwnE boolK W B C (.slice (some ⟨g, 0, none⟩) n cap) xs) (i : Nat) (hi : i < xs.length) (x : Bool) :
    OwnE boolK (W.setCell ⟨g, i, none⟩ (.bool x)) B C (.slice (some ⟨g, 0, none⟩) n cap) (xs.set i x) := by
  have := OwnE.put h i hi x
  rw [show i * boolK.n = i from Nat.mul_one i] at this
  exact this
theorem int_own {W : World} {B C : Nat} {g n cap : Nat} {xs : List Int} (h : OwnE intK W B C (.slice (some ⟨g, 0, none⟩) n cap) xs) (i : Nat) (hi : i < xs.length) :
    W.cell? ⟨g, i, none⟩ = some (.int .i64 xs[i]) ∧ (∀ j, W.frozen? ⟨g, j, none⟩ = false) ∧ g < W.heap.size := by
  obtain ⟨h1, h2, h3, -⟩ := OwnE.at h i hi
  have := h1 0 (by decide)
  rw [show i * intK.n + 0 = i from by show i * 1 + 0 = i; omega] at this
  exact ⟨this, h2, h3⟩
theorem int_put {W : World} {B C : Nat} {g n cap : Nat} {xs : List Int} (h : OwnE intK W B C (.slice (some ⟨g, 0, none⟩) n cap) xs) (i : Nat) (hi : i < xs.length) (x : Int) :
    OwnE intK (W.setCell ⟨g, i, none⟩ (.int .i64 x)) B C (.slice (some ⟨g, 0, none⟩) n cap) (xs.set i x) := by
  have := OwnE.put h i hi x
  rw [show i * intK.n = i from Nat.mul_one i] at this
  exact this
theorem rd_bbox (W : World) (b : Bool) : RdE boolK (W.alloc (.cells #[.bool b] 4)) (.slice (some ⟨W.heap.size, 0, none⟩) 1 1) [b] :=
  (OwnE.of_cel (K := boolK) (B := 0) (C := W.heap.size + 1) (xs := [b]) (Cel.new W 4 #[.bool b]) (Nat.zero_le _) (Nat.lt_succ_self _) (by simp [maxLen])).rd
theorem own_other {α : Type} {K : EK α} {W : World} {B C g i : Nat} {u : Value} {L : List α} (h : OwnE K W B C u L) (hg : g < B) (x : Value) : OwnE K (W.setCell ⟨g, i, none⟩ x) B C u L :=
  h.keepAt fun k hk => Below.heap_setCell _ _ _ _ (fun e => by have := (h.block k hk).1; simp only at e; omega)
theorem rd_of_ints {W : World} {v : Value} {zs : List Int} (h : RdE intK W v zs) : Rd W v zs := by
  obtain ⟨a, c, rfl⟩ := h.form
  refine ⟨a, c, rfl, fun h0 => ?_⟩
  obtain ⟨b, off, rfl, -, -⟩ := int_at h 0 h0
  refine ⟨b, off, rfl, fun j hj => ?_⟩
  obtain ⟨b', off', e, -, hc⟩ := int_at h j hj
  injection e with e
  injection e with e1 e2
  subst e1 e2
  exact hc

/-- Marks from k on. -/
def markB (k : Nat) : Nat → List Bool
  | 0 => []
  | n + 1 => fl3 (k : Int) :: markB (k + 1) n
theorem markB_length (k n : Nat) : (markB k n).length = n := by
  induction n generalizing k with
  | zero => rfl
  | succ n ih => simp [markB, ih]
theorem markB_at (k n i : Nat) (h : i < n) : (markB k n)[i]'(by rw [markB_length]; exact h) = fl3 ((k + i : Nat) : Int) := by
  induction n generalizing k i with
  | zero => omega
  | succ n ih =>
    cases i with
    | zero => simp [markB]
    | succ i =>
      simp only [markB, List.getElem_cons_succ]
      rw [ih (k + 1) i (by omega)]
      congr 2
      omega
theorem markB_snoc (k n : Nat) : markB k (n + 1) = markB k n ++ [fl3 ((k + n : Nat) : Int)] := by
  induction n generalizing k with
  | zero => simp [markB]
  | succ n ih =>
    rw [markB, ih (k + 1), markB]
    simp only [List.cons_append]
    have e : k + 1 + n = k + (n + 1) := by omega
    rw [e]
/-- The first p replaced by marks. -/
def markedB (bs : List Bool) (k p : Nat) : List Bool := markB k p ++ bs.drop p
theorem markedB_zero (bs : List Bool) (k : Nat) : markedB bs k 0 = bs := by simp [markedB, markB]
theorem markedB_all (bs : List Bool) (k : Nat) : markedB bs k bs.length = markB k bs.length := by simp [markedB]
theorem markedB_length (bs : List Bool) (k p : Nat) (h : p ≤ bs.length) : (markedB bs k p).length = bs.length := by simp [markedB, markB_length]; omega
theorem markedB_succ (bs : List Bool) (k p : Nat) (h : p < bs.length) : markedB bs k (p + 1) = (markedB bs k p).set p (fl3 ((k + p : Nat) : Int)) := by
  unfold markedB
  rw [markB_snoc, List.set_append_right _ _ (by rw [markB_length]; omega), markB_length, Nat.sub_self]
  conv => rhs; rw [List.drop_eq_getElem_cons h]
  rw [List.set_cons_zero, List.append_assoc]
  rfl
attribute [irreducible] markB markedB

end Go.Proofs.Ytoeflkmhofkiaaa
