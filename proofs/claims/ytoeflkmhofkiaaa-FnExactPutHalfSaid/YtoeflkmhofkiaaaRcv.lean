import Derived.Test.YtoeflkmhofkiaaaEk
import Derived.Test.YtoeflkmhofkiaaaRcl
import Derived.Test.YtoeflkmhofkiaaaAcv
namespace Go.Proofs.Ytoeflkmhofkiaaa
open Go.RowKit
set_option maxRecDepth 100000

/-- Paths as elements of a row. -/
def rvK : EK Rv where
  t := 26
  n := 3
  cs := fun r => [.int .i64 r.own, .int .i64 r.far, .int .i64 r.port]
  len := fun _ => rfl
  pos := by decide
  one := fun p u hu => by
    simp only [List.mem_cons, List.not_mem_nil, or_false] at hu
    rcases hu with rfl | rfl | rfl <;> rfl
  zero := Rv.zero
  zv := .agg #[.int .i64 0, .int .i64 0, .int .i64 0]
  zcs := rfl
  bytes := 24
  bnd := by decide
  wid := by decide
  info := by kernel_rfl
abbrev RdR := RdE rvK
abbrev OwnR := OwnE rvK
theorem sizeRv (p : Rv) : (Try.prog.info? 26).map (·.size) = some (#[Value.int .i64 p.own, .int .i64 p.far, .int .i64 p.port]).size := by show _ = some 3; kernel_rfl
/-- The cells of the i-th path, and the whole of it. -/
theorem rv_at {W : World} {P : Program} {a : Option Addr} {n c : Nat} {xs : List Rv} (h : RdR W (.slice a n c) xs) (i : Nat) (hi : i < xs.length) :
    ∃ b off, a = some ⟨b, off, none⟩ ∧ b < W.heap.size ∧ W.cell? ⟨b, off + i * 3, none⟩ = some (.int .i64 xs[i].own) ∧ W.cell? ⟨b, off + i * 3 + 1, none⟩ = some (.int .i64 xs[i].far) ∧ W.cell? ⟨b, off + i * 3 + 2, none⟩ = some (.int .i64 xs[i].port) ∧
      (loadCells ⟨b, off + i * 3, none⟩ 3).run P W = .ok #[.int .i64 xs[i].own, .int .i64 xs[i].far, .int .i64 xs[i].port] W := by
  obtain ⟨b, off, h1, h2, h3, h4⟩ := RdE.at (P := P) h i hi
  exact ⟨b, off, h1, h2, h3 0 (by decide), h3 1 (by decide), h3 2 (by decide), h4⟩
theorem rv_own {W : World} {B C : Nat} {g n cap : Nat} {xs : List Rv} (h : OwnR W B C (.slice (some ⟨g, 0, none⟩) n cap) xs) (i : Nat) (hi : i < xs.length) :
    W.cell? ⟨g, i * 3, none⟩ = some (.int .i64 xs[i].own) ∧ W.cell? ⟨g, i * 3 + 1, none⟩ = some (.int .i64 xs[i].far) ∧ W.cell? ⟨g, i * 3 + 2, none⟩ = some (.int .i64 xs[i].port) ∧ (∀ j, W.frozen? ⟨g, j, none⟩ = false) ∧ g < W.heap.size ∧ W.there g (i * 3) 3 := by
  obtain ⟨h1, h2, h3, h4⟩ := OwnE.at h i hi
  exact ⟨h1 0 (by decide), h1 1 (by decide), h1 2 (by decide), h2, h3, h4⟩
theorem rv_putC {W : World} {B C : Nat} {g n cap : Nat} {xs : List Rv} (h : OwnR W B C (.slice (some ⟨g, 0, none⟩) n cap) xs) (i : Nat) (hi : i < xs.length) (x : Rv) :
    OwnR (W.setCells g (i * 3) [.int .i64 x.own, .int .i64 x.far, .int .i64 x.port]) B C (.slice (some ⟨g, 0, none⟩) n cap) (xs.set i x) := OwnE.put h i hi x
theorem cel3r {W : World} {g : Nat} {t : TypeId} {x y z : Value} (h : Cel W g t #[x, y, z]) : W.cell? ⟨g, 0, none⟩ = some x ∧ W.cell? ⟨g, 1, none⟩ = some y ∧ W.cell? ⟨g, 2, none⟩ = some z := ⟨h.cell 0, h.cell 1, h.cell 2⟩
theorem below_rv (w : World) (p : Rv) : Below w.heap.size w (w.alloc (.cells #[.int .i64 p.own, .int .i64 p.far, .int .i64 p.port] 26)) := below_new _ _
theorem rd_rbox {W : World} {b : Nat} {m : Rv} (h : Cel W b 26 #[.int .i64 m.own, .int .i64 m.far, .int .i64 m.port]) : RdR W (.slice (some ⟨b, 0, none⟩) 1 1) [m] :=
  (OwnE.of_cel (K := rvK) (B := 0) (C := b + 1) (xs := [m]) h (Nat.zero_le _) (Nat.lt_succ_self _) (by simp [maxLen])).rd
theorem cel_row {W : World} {b : Nat} {m : Rv} : Cel W b 26 #[.int .i64 m.own, .int .i64 m.far, .int .i64 m.port] = Cel W b rvK.t (rvK.flat [m]).toArray := rfl

/-- The first few of a row of one's own. -/
theorem OwnE.firsts {α : Type} {K : EK α} {W : World} {B C g n cap : Nat} {xs : List α} (h : OwnE K W B C (.slice (some ⟨g, 0, none⟩) n cap) xs) (m : Nat) (hm : m ≤ xs.length) :
    OwnE K W B C (.slice (some ⟨g, 0, none⟩) m cap) (xs.take m) := by
  obtain ⟨⟨h1, h2⟩, h3⟩ := h
  have hl : (xs.take m).length = m := by rw [List.length_take]; omega
  rcases h2 with ⟨h2, _⟩ | ⟨g', cap', cur, hv, hg, hh, r1, r2, r3, r4⟩
  · cases h2
  · injection hv with e1 e2 e3
    injection e1 with e1
    injection e1 with e1
    subst e1 e2 e3
    have hmul : m * K.n ≤ xs.length * K.n := Nat.mul_le_mul_right _ hm
    refine ⟨⟨by rw [eflat_length], .inr ⟨g, cap, cur, by rw [hl], hg, hh, by rw [hl]; omega, r2, r3, ?_⟩⟩, h3⟩
    rw [hl, ← eflat_take, ← r4, List.take_take, Nat.min_eq_left hmul]
end Go.Proofs.Ytoeflkmhofkiaaa
