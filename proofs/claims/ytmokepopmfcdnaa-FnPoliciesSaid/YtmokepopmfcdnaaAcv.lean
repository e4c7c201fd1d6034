import Derived.Test.YtmokepopmfcdnaaEk
import Derived.Test.YtmokepopmfcdnaaAcl
namespace Go.Proofs.Ytmokepopmfcdnaa
open Go.RowKit

def Av.cells (p : Av) : List Value := [.int .i64 p.id, .int .i64 p.addr, .bool p.spare, .bool p.told]
/-- Addresses as elements of a row. -/
def avK : EK Av where
  t := 32
  n := 4
  cs := Av.cells
  len := fun _ => rfl
  pos := by decide
  one := fun p u hu => by
    simp only [Av.cells, List.mem_cons, List.not_mem_nil, or_false] at hu
    rcases hu with rfl | rfl | rfl | rfl <;> rfl
  zero := Av.zero
  zv := .agg #[.int .i64 0, .int .i64 0, .bool false, .bool false]
  zcs := rfl
  bytes := 24
  bnd := by decide
  wid := by decide
  info := by kernel_rfl
/-- Integers. -/
def intK : EK Int where
  t := 3
  n := 1
  cs := fun k => [.int .i64 k]
  len := fun _ => rfl
  pos := by decide
  one := fun p u hu => by
    simp only [List.mem_cons, List.not_mem_nil, or_false] at hu
    rcases hu with rfl <;> rfl
  zero := 0
  zv := .int .i64 0
  zcs := rfl
  bytes := 8
  bnd := by decide
  wid := by decide
  info := by kernel_rfl

abbrev RdV := RdE avK
abbrev OwnV := OwnE avK
theorem uAv : Try.prog.underlying 26 = some (.slice 32) := Try.underlying26
theorem uIs : Try.prog.underlying 73 = some (.slice 3) := Try.underlying73
theorem sizeAv (p : Av) : (Try.prog.info? 32).map (·.size) = some (#[Value.int .i64 p.id, .int .i64 p.addr, .bool p.spare, .bool p.told]).size := by show _ = some 4; kernel_rfl
theorem sizeAvL (p : Av) : (Try.prog.info? 67).map (·.size) = some (#[Value.int .i64 p.id, .int .i64 p.addr, .bool p.spare, .bool p.told]).size := by show _ = some 4; kernel_rfl
/-- The cells of the i-th address, and the whole of it. -/
theorem av_at {W : World} {P : Program} {a : Option Addr} {n c : Nat} {xs : List Av} (h : RdV W (.slice a n c) xs) (i : Nat) (hi : i < xs.length) :
    ∃ b off, a = some ⟨b, off, none⟩ ∧ b < W.heap.size ∧ W.cell? ⟨b, off + i * 4, none⟩ = some (.int .i64 xs[i].id) ∧ W.cell? ⟨b, off + i * 4 + 1, none⟩ = some (.int .i64 xs[i].addr) ∧ W.cell? ⟨b, off + i * 4 + 2, none⟩ = some (.bool xs[i].spare) ∧ W.cell? ⟨b, off + i * 4 + 3, none⟩ = some (.bool xs[i].told) ∧
      (loadCells ⟨b, off + i * 4, none⟩ 4).run P W = .ok #[.int .i64 xs[i].id, .int .i64 xs[i].addr, .bool xs[i].spare, .bool xs[i].told] W := by
  obtain ⟨b, off, h1, h2, h3, h4⟩ := RdE.at (P := P) h i hi
  exact ⟨b, off, h1, h2, h3 0 (by decide), h3 1 (by decide), h3 2 (by decide), h3 3 (by decide), h4⟩
theorem av_own {W : World} {B C : Nat} {g n cap : Nat} {xs : List Av} (h : OwnV W B C (.slice (some ⟨g, 0, none⟩) n cap) xs) (i : Nat) (hi : i < xs.length) :
    W.cell? ⟨g, i * 4, none⟩ = some (.int .i64 xs[i].id) ∧ W.cell? ⟨g, i * 4 + 1, none⟩ = some (.int .i64 xs[i].addr) ∧ W.cell? ⟨g, i * 4 + 2, none⟩ = some (.bool xs[i].spare) ∧ W.cell? ⟨g, i * 4 + 3, none⟩ = some (.bool xs[i].told) ∧ (∀ j, W.frozen? ⟨g, j, none⟩ = false) ∧ g < W.heap.size ∧ W.there g (i * 4) 4 := by
  obtain ⟨h1, h2, h3, h4⟩ := OwnE.at h i hi
  exact ⟨h1 0 (by decide), h1 1 (by decide), h1 2 (by decide), h1 3 (by decide), h2, h3, h4⟩
theorem av_putC {W : World} {B C : Nat} {g n cap : Nat} {xs : List Av} (h : OwnV W B C (.slice (some ⟨g, 0, none⟩) n cap) xs) (i : Nat) (hi : i < xs.length) (x : Av) :
    OwnV (W.setCells g (i * 4) [.int .i64 x.id, .int .i64 x.addr, .bool x.spare, .bool x.told]) B C (.slice (some ⟨g, 0, none⟩) n cap) (xs.set i x) := OwnE.put h i hi x
theorem cel4a {W : World} {g : Nat} {t : TypeId} {x y z u : Value} (h : Cel W g t #[x, y, z, u]) : W.cell? ⟨g, 0, none⟩ = some x ∧ W.cell? ⟨g, 1, none⟩ = some y ∧ W.cell? ⟨g, 2, none⟩ = some z ∧ W.cell? ⟨g, 3, none⟩ = some u := ⟨h.cell 0, h.cell 1, h.cell 2, h.cell 3⟩
theorem cel2a {W : World} {g : Nat} {t : TypeId} {x y : Value} (h : Cel W g t #[x, y]) : W.cell? ⟨g, 0, none⟩ = some x ∧ W.cell? ⟨g, 1, none⟩ = some y := ⟨h.cell 0, h.cell 1⟩
theorem below_av (w : World) (p : Av) : Below w.heap.size w (w.alloc (.cells #[.int .i64 p.id, .int .i64 p.addr, .bool p.spare, .bool p.told] 32)) := below_new _ _
theorem rd_box {W : World} {b : Nat} {m : Av} (h : Cel W b 32 #[.int .i64 m.id, .int .i64 m.addr, .bool m.spare, .bool m.told]) : RdV W (.slice (some ⟨b, 0, none⟩) 1 1) [m] :=
  (OwnE.of_cel (K := avK) (B := 0) (C := b + 1) (xs := [m]) h (Nat.zero_le _) (Nat.lt_succ_self _) (by simp [maxLen])).rd
/-- Whole addresses, at every place of a row, whatever the index. -/
theorem keepc' {W W' : World} {B o : Nat} {u : Value} (h : W.cell? ⟨B, o, none⟩ = some u) (hb : Below W.heap.size W W') : W'.cell? ⟨B, o, none⟩ = some u := by
  rw [hb.cell (p := ⟨B, o, none⟩) (World.block_lt_of_cell? _ _ h)]
  exact h
end Go.Proofs.Ytmokepopmfcdnaa
