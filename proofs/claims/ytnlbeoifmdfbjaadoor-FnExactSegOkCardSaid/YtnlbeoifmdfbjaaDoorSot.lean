import Derived.Test.YtnlbeoifmdfbjaaDoorSok
namespace Go.Proofs.YtnlbeoifmdfbjaaDoor
open Go.RowKit
attribute [-go_sem] loadCells loadCellsFrom

/-- The text of a field, of the fields, of the Ids behind them. -/
def txtAt (o : Ov) (x c : Int) : ByteArray :=
  match numL o x with
  | some n => numText n (wideOf c)
  | none => textL o x
def txtUp (o : Ov) (sh : ByteArray) : Nat → ByteArray
  | 0 => ⟨#[]⟩
  | k + 1 => txtUp o sh k ++ txtAt o (letOf sh k) (widOf sh k)
theorem txtUp_zero (o : Ov) (sh : ByteArray) : txtUp o sh 0 = ⟨#[]⟩ := rfl
theorem txtUp_succ (o : Ov) (sh : ByteArray) (k : Nat) : txtUp o sh (k + 1) = txtUp o sh k ++ txtAt o (letOf sh k) (widOf sh k) := rfl
def sUp (zs : List Int) (s : ByteArray) : Nat → ByteArray
  | 0 => s
  | j + 1 => sUp zs s j ++ numText (zs.getD j 0) 1
theorem sUp_zero (zs : List Int) (s : ByteArray) : sUp zs s 0 = s := rfl
theorem sUp_succ (zs : List Int) (s : ByteArray) (j : Nat) : sUp zs s (j + 1) = sUp zs s j ++ numText (zs.getD j 0) 1 := rfl
def specS (o : Ov) : ByteArray := sUp o.ids (txtUp o (shapeOf o.kind) (shN o.kind)) o.ids.length
/-- What the model's OptText answers. -/
def specTx (o : Ov) : ByteArray := if specOk o = true then numText o.kind 1 ++ numText (specS o).size 1 ++ specS o else ⟨#[]⟩

theorem okUp_at (o : Ov) (sh : ByteArray) (k m : Nat) (h : k < m) (hu : okUp o sh m = true) : okAt o (letOf sh k) (widOf sh k) = true := by
  cases hs : okAt o (letOf sh k) (widOf sh k) with
  | true => rfl
  | false => rw [okUp_no o sh k m h hs] at hu; cases hu

theorem widOf_le (sh : ByteArray) (k : Nat) : 0 ≤ widOf sh k ∧ widOf sh k ≤ 255 := by
  unfold widOf
  have := (sh[2 * k + 1]!).toNat_lt
  omega

theorem txtAt_le (o : Ov) (sh : ByteArray) (k : Nat) (h : okAt o (letOf sh k) (widOf sh k) = true) : (txtAt o (letOf sh k) (widOf sh k)).size ≤ 300 := by
  have hw := widOf_le sh k
  unfold txtAt
  unfold okAt at h
  cases hn : numL o (letOf sh k) with
  | some n => have := numTx_le n (wideOf (widOf sh k)); simp only; omega
  | none =>
    rw [hn] at h
    simp only [decide_eq_true_eq] at h ⊢
    unfold wideOf at h
    split at h <;> omega

theorem txtUp_le (o : Ov) (sh : ByteArray) (n k : Nat) (hk : k ≤ n) (h : okUp o sh n = true) : (txtUp o sh k).size ≤ 300 * k := by
  induction k with
  | zero => show 0 ≤ _; omega
  | succ k ih =>
    rw [txtUp_succ, ByteArray.size_append]
    have h1 := ih (by omega)
    have h2 := txtAt_le o sh k (okUp_at o sh k n (by omega) h)
    omega

theorem sUp_le (zs : List Int) (s : ByteArray) (j : Nat) : (sUp zs s j).size ≤ s.size + 6 * j := by
  induction j with
  | zero => show s.size ≤ _; omega
  | succ j ih =>
    rw [sUp_succ, ByteArray.size_append]
    have := numTx_le (zs.getD j 0) 1
    omega
attribute [irreducible] txtUp sUp

theorem specOk_up (o : Ov) (h : specOk o = true) : (1 ≤ o.kind ∧ o.kind ≤ 10) ∧ okUp o (shapeOf o.kind) (shN o.kind) = true := by
  unfold specOk at h
  simp only [Bool.and_eq_true, decide_eq_true_eq] at h
  exact ⟨h.1.1.1, h.1.2⟩

end Go.Proofs.YtnlbeoifmdfbjaaDoor
