import Derived.Test.YtoeflkmhofkiaaaRcv
import Derived.Test.YtoeflkmhofkiaaaHcl
namespace Go.Proofs.Ytoeflkmhofkiaaa
open Go.RowKit
set_option maxRecDepth 100000

/-- Structs of 8 numbers as elements of a row. -/
def hvK : EK Hv where
  t := 28
  n := 8
  cs := fun m => [.int .i64 m.road.own, .int .i64 m.road.far, .int .i64 m.road.port, .int .i64 m.theirs, .int .i64 m.mine, .int .i64 m.give, .int .i64 m.take, .int .i64 m.till]
  len := fun _ => rfl
  pos := by decide
  one := fun p u hu => by
    simp only [List.mem_cons, List.not_mem_nil, or_false] at hu
    rcases hu with rfl | rfl | rfl | rfl | rfl | rfl | rfl | rfl <;> rfl
  zero := Hv.zero
  zv := .agg #[.int .i64 0, .int .i64 0, .int .i64 0, .int .i64 0, .int .i64 0, .int .i64 0, .int .i64 0, .int .i64 0]
  zcs := rfl
  bytes := 64
  bnd := by decide
  wid := by decide
  info := by kernel_rfl
abbrev RdH := RdE hvK
abbrev OwnH := OwnE hvK
theorem uHv : Try.prog.underlying 24 = some (.slice 28) := Try.underlying24
theorem sizeHv (p : Hv) : (Try.prog.info? 28).map (·.size) = some ((#[.int .i64 p.road.own, .int .i64 p.road.far, .int .i64 p.road.port, .int .i64 p.theirs, .int .i64 p.mine, .int .i64 p.give, .int .i64 p.take, .int .i64 p.till] : Array Value)).size := by show _ = some 8; kernel_rfl
theorem hv_at {W : World} {P : Program} {a : Option Addr} {n c : Nat} {xs : List Hv} (h : RdH W (.slice a n c) xs) (i : Nat) (hi : i < xs.length) :
    ∃ b off, a = some ⟨b, off, none⟩ ∧ b < W.heap.size ∧ W.cell? ⟨b, off + i * 8, none⟩ = some (.int .i64 xs[i].road.own) ∧ W.cell? ⟨b, off + i * 8 + 1, none⟩ = some (.int .i64 xs[i].road.far) ∧ W.cell? ⟨b, off + i * 8 + 2, none⟩ = some (.int .i64 xs[i].road.port) ∧ W.cell? ⟨b, off + i * 8 + 3, none⟩ = some (.int .i64 xs[i].theirs) ∧ W.cell? ⟨b, off + i * 8 + 4, none⟩ = some (.int .i64 xs[i].mine) ∧ W.cell? ⟨b, off + i * 8 + 5, none⟩ = some (.int .i64 xs[i].give) ∧ W.cell? ⟨b, off + i * 8 + 6, none⟩ = some (.int .i64 xs[i].take) ∧ W.cell? ⟨b, off + i * 8 + 7, none⟩ = some (.int .i64 xs[i].till) ∧
      (loadCells ⟨b, off + i * 8, none⟩ 8).run P W = .ok #[.int .i64 xs[i].road.own, .int .i64 xs[i].road.far, .int .i64 xs[i].road.port, .int .i64 xs[i].theirs, .int .i64 xs[i].mine, .int .i64 xs[i].give, .int .i64 xs[i].take, .int .i64 xs[i].till] W := by
  obtain ⟨b, off, h1, h2, h3, h4⟩ := RdE.at (P := P) h i hi
  exact ⟨b, off, h1, h2, h3 0 (by decide), h3 1 (by decide), h3 2 (by decide), h3 3 (by decide), h3 4 (by decide), h3 5 (by decide), h3 6 (by decide), h3 7 (by decide), h4⟩
theorem hv_own {W : World} {B C : Nat} {g n cap : Nat} {xs : List Hv} (h : OwnH W B C (.slice (some ⟨g, 0, none⟩) n cap) xs) (i : Nat) (hi : i < xs.length) :
    W.cell? ⟨g, i * 8, none⟩ = some (.int .i64 xs[i].road.own) ∧ W.cell? ⟨g, i * 8 + 1, none⟩ = some (.int .i64 xs[i].road.far) ∧ W.cell? ⟨g, i * 8 + 2, none⟩ = some (.int .i64 xs[i].road.port) ∧ W.cell? ⟨g, i * 8 + 3, none⟩ = some (.int .i64 xs[i].theirs) ∧ W.cell? ⟨g, i * 8 + 4, none⟩ = some (.int .i64 xs[i].mine) ∧ W.cell? ⟨g, i * 8 + 5, none⟩ = some (.int .i64 xs[i].give) ∧ W.cell? ⟨g, i * 8 + 6, none⟩ = some (.int .i64 xs[i].take) ∧ W.cell? ⟨g, i * 8 + 7, none⟩ = some (.int .i64 xs[i].till) ∧ (∀ j, W.frozen? ⟨g, j, none⟩ = false) ∧ g < W.heap.size ∧ W.there g (i * 8) 8 := by
  obtain ⟨h1, h2, h3, h4⟩ := OwnE.at h i hi
  exact ⟨h1 0 (by decide), h1 1 (by decide), h1 2 (by decide), h1 3 (by decide), h1 4 (by decide), h1 5 (by decide), h1 6 (by decide), h1 7 (by decide), h2, h3, h4⟩
theorem hv_putC {W : World} {B C : Nat} {g n cap : Nat} {xs : List Hv} (h : OwnH W B C (.slice (some ⟨g, 0, none⟩) n cap) xs) (i : Nat) (hi : i < xs.length) (x : Hv) :
    OwnH (W.setCells g (i * 8) [.int .i64 x.road.own, .int .i64 x.road.far, .int .i64 x.road.port, .int .i64 x.theirs, .int .i64 x.mine, .int .i64 x.give, .int .i64 x.take, .int .i64 x.till]) B C (.slice (some ⟨g, 0, none⟩) n cap) (xs.set i x) := OwnE.put h i hi x
theorem cel8hv {W : World} {g : Nat} {t : TypeId} {x0 x1 x2 x3 x4 x5 x6 x7 : Value} (h : Cel W g t #[x0, x1, x2, x3, x4, x5, x6, x7]) : W.cell? ⟨g, 0, none⟩ = some x0 ∧ W.cell? ⟨g, 1, none⟩ = some x1 ∧ W.cell? ⟨g, 2, none⟩ = some x2 ∧ W.cell? ⟨g, 3, none⟩ = some x3 ∧ W.cell? ⟨g, 4, none⟩ = some x4 ∧ W.cell? ⟨g, 5, none⟩ = some x5 ∧ W.cell? ⟨g, 6, none⟩ = some x6 ∧ W.cell? ⟨g, 7, none⟩ = some x7 := ⟨h.cell 0, h.cell 1, h.cell 2, h.cell 3, h.cell 4, h.cell 5, h.cell 6, h.cell 7⟩
theorem below_hv (w : World) (p : Hv) : Below w.heap.size w (w.alloc (.cells #[.int .i64 p.road.own, .int .i64 p.road.far, .int .i64 p.road.port, .int .i64 p.theirs, .int .i64 p.mine, .int .i64 p.give, .int .i64 p.take, .int .i64 p.till] 28)) := below_new _ _
theorem rd_hvbox {W : World} {b : Nat} {m : Hv} (h : Cel W b 28 #[.int .i64 m.road.own, .int .i64 m.road.far, .int .i64 m.road.port, .int .i64 m.theirs, .int .i64 m.mine, .int .i64 m.give, .int .i64 m.take, .int .i64 m.till]) : RdH W (.slice (some ⟨b, 0, none⟩) 1 1) [m] :=
  (OwnE.of_cel (K := hvK) (B := 0) (C := b + 1) (xs := [m]) h (Nat.zero_le _) (Nat.lt_succ_self _) (by simp [maxLen])).rd
end Go.Proofs.Ytoeflkmhofkiaaa
