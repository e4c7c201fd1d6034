import Derived.Test.YtoeflkmhofkiaaaEk
import Derived.Test.YtoeflkmhofkiaaaTcl
namespace Go.Proofs.Ytoeflkmhofkiaaa
open Go.RowKit
set_option maxRecDepth 100000

/-- Structs of 5 numbers as elements of a row. -/
def tvK : EK Tv where
  t := 39
  n := 5
  cs := fun m => [.int .i64 m.kind, .int .i64 m.one, .int .i64 m.two, .int .i64 m.a, .int .i64 m.b]
  len := fun _ => rfl
  pos := by decide
  one := fun p u hu => by
    simp only [List.mem_cons, List.not_mem_nil, or_false] at hu
    rcases hu with rfl | rfl | rfl | rfl | rfl <;> rfl
  zero := Tv.zero
  zv := .agg #[.int .i64 0, .int .i64 0, .int .i64 0, .int .i64 0, .int .i64 0]
  zcs := rfl
  bytes := 40
  bnd := by decide
  wid := by decide
  info := by kernel_rfl
abbrev RdT := RdE tvK
abbrev OwnT := OwnE tvK
theorem sizeTv (p : Tv) : (Try.prog.info? 39).map (·.size) = some ((#[.int .i64 p.kind, .int .i64 p.one, .int .i64 p.two, .int .i64 p.a, .int .i64 p.b] : Array Value)).size := by show _ = some 5; kernel_rfl
theorem tv_at {W : World} {P : Program} {a : Option Addr} {n c : Nat} {xs : List Tv} (h : RdT W (.slice a n c) xs) (i : Nat) (hi : i < xs.length) :
    ∃ b off, a = some ⟨b, off, none⟩ ∧ b < W.heap.size ∧ W.cell? ⟨b, off + i * 5, none⟩ = some (.int .i64 xs[i].kind) ∧ W.cell? ⟨b, off + i * 5 + 1, none⟩ = some (.int .i64 xs[i].one) ∧ W.cell? ⟨b, off + i * 5 + 2, none⟩ = some (.int .i64 xs[i].two) ∧ W.cell? ⟨b, off + i * 5 + 3, none⟩ = some (.int .i64 xs[i].a) ∧ W.cell? ⟨b, off + i * 5 + 4, none⟩ = some (.int .i64 xs[i].b) ∧
      (loadCells ⟨b, off + i * 5, none⟩ 5).run P W = .ok #[.int .i64 xs[i].kind, .int .i64 xs[i].one, .int .i64 xs[i].two, .int .i64 xs[i].a, .int .i64 xs[i].b] W := by
  obtain ⟨b, off, h1, h2, h3, h4⟩ := RdE.at (P := P) h i hi
  exact ⟨b, off, h1, h2, h3 0 (by decide), h3 1 (by decide), h3 2 (by decide), h3 3 (by decide), h3 4 (by decide), h4⟩
theorem tv_own {W : World} {B C : Nat} {g n cap : Nat} {xs : List Tv} (h : OwnT W B C (.slice (some ⟨g, 0, none⟩) n cap) xs) (i : Nat) (hi : i < xs.length) :
    W.cell? ⟨g, i * 5, none⟩ = some (.int .i64 xs[i].kind) ∧ W.cell? ⟨g, i * 5 + 1, none⟩ = some (.int .i64 xs[i].one) ∧ W.cell? ⟨g, i * 5 + 2, none⟩ = some (.int .i64 xs[i].two) ∧ W.cell? ⟨g, i * 5 + 3, none⟩ = some (.int .i64 xs[i].a) ∧ W.cell? ⟨g, i * 5 + 4, none⟩ = some (.int .i64 xs[i].b) ∧ (∀ j, W.frozen? ⟨g, j, none⟩ = false) ∧ g < W.heap.size ∧ W.there g (i * 5) 5 := by
  obtain ⟨h1, h2, h3, h4⟩ := OwnE.at h i hi
  exact ⟨h1 0 (by decide), h1 1 (by decide), h1 2 (by decide), h1 3 (by decide), h1 4 (by decide), h2, h3, h4⟩
theorem tv_putC {W : World} {B C : Nat} {g n cap : Nat} {xs : List Tv} (h : OwnT W B C (.slice (some ⟨g, 0, none⟩) n cap) xs) (i : Nat) (hi : i < xs.length) (x : Tv) :
    OwnT (W.setCells g (i * 5) [.int .i64 x.kind, .int .i64 x.one, .int .i64 x.two, .int .i64 x.a, .int .i64 x.b]) B C (.slice (some ⟨g, 0, none⟩) n cap) (xs.set i x) := OwnE.put h i hi x
theorem cel5tv {W : World} {g : Nat} {t : TypeId} {x0 x1 x2 x3 x4 : Value} (h : Cel W g t #[x0, x1, x2, x3, x4]) : W.cell? ⟨g, 0, none⟩ = some x0 ∧ W.cell? ⟨g, 1, none⟩ = some x1 ∧ W.cell? ⟨g, 2, none⟩ = some x2 ∧ W.cell? ⟨g, 3, none⟩ = some x3 ∧ W.cell? ⟨g, 4, none⟩ = some x4 := ⟨h.cell 0, h.cell 1, h.cell 2, h.cell 3, h.cell 4⟩
theorem below_tv (w : World) (p : Tv) : Below w.heap.size w (w.alloc (.cells #[.int .i64 p.kind, .int .i64 p.one, .int .i64 p.two, .int .i64 p.a, .int .i64 p.b] 39)) := below_new _ _
theorem rd_tvbox {W : World} {b : Nat} {m : Tv} (h : Cel W b 39 #[.int .i64 m.kind, .int .i64 m.one, .int .i64 m.two, .int .i64 m.a, .int .i64 m.b]) : RdT W (.slice (some ⟨b, 0, none⟩) 1 1) [m] :=
  (OwnE.of_cel (K := tvK) (B := 0) (C := b + 1) (xs := [m]) h (Nat.zero_le _) (Nat.lt_succ_self _) (by simp [maxLen])).rd
/-! Numbers that Go can make. -/
def IntW (n : Int) : Prop := (Lit.int .i64 n).wf = true
def TvW (t : Tv) : Prop := IntW t.kind ∧ IntW t.one ∧ IntW t.two ∧ IntW t.a ∧ IntW t.b
def KnW (ks : List Int) (ts : List Tv) : Prop := (∀ n ∈ ks, IntW n) ∧ ∀ t ∈ ts, TvW t
end Go.Proofs.Ytoeflkmhofkiaaa
