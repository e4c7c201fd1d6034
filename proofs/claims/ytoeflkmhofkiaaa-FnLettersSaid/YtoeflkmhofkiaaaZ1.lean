import Derived.Test.YtoeflkmhofkiaaaRows
import Derived.WalkKit
import Derived.Below
import Derived.OwnWalk
import Derived.Laws.Rows
import Derived.Laws.Tables
import Derived.Laws.MakeOwn
import Derived.Lib.Hide
import Derived.Deep.Draws
import Init
import Derived.IntWalk
import Derived.Laws.OwnMore
import Derived.Deep.AppendLies
import Derived.Deep.QuietTactic
import Derived.BigRegion
import Derived.Deep.RegionHeld3
import Derived.Deep.Cut
import Derived.Laws.BitsAllLaws
import Derived.BigQuiet
import Derived.ArgAppend
import Derived.Laws.IdiomStrings
import Derived.ProofKit
import Derived.OpenShut
import Derived.OpenVars
import Derived.Shelf.LaysM
import Derived.Shelf.Strconv.Clone
import Derived.Test.YtoeflkmhofkiaaaProg
namespace Go.Proofs.Ytoeflkmhofkiaaa
open Go.RowKit
set_option maxRecDepth 100000

/-- Block g of a world is just these cells, none of them frozen. -/
def Cel (W : World) (g : Nat) (t : TypeId) (cs : Array Value) : Prop := W.heap[g]? = some (.cells cs t (0, 0))

namespace Cel
variable {W W' : World} {g : Nat} {t : TypeId} {cs : Array Value}

theorem lt (h : Cel W g t cs) : g < W.heap.size := (Array.getElem?_eq_some_iff.1 h).1
theorem cell (h : Cel W g t cs) (i : Nat) : W.cell? ⟨g, i, none⟩ = cs[i]? := cell_of_row _ _ i _ _ _ h
theorem frozen (h : Cel W g t cs) (i : Nat) : W.frozen? ⟨g, i, none⟩ = false := by
  have h' : W.heap[g]? = _ := h
  simp [World.frozen?, h']
theorem new (W : World) (t : TypeId) (cs : Array Value) : Cel (W.alloc (.cells cs t)) W.heap.size t cs := by
  show (W.heap.push _)[W.heap.size]? = _
  simp
theorem drewN (h : Cel W g t cs) (n : Nat) : Cel (W.drewN n) g t cs := h
theorem drew (h : Cel W g t cs) : Cel W.drew g t cs := h
theorem alloc (h : Cel W g t cs) (o : Obj) : Cel (W.alloc o) g t cs := by
  show (W.alloc o).heap[g]? = _
  rw [Below.heap_alloc _ _ _ h.lt]; exact h
theorem other (h : Cel W g t cs) (a : Addr) (v : Value) (ha : g ≠ a.block) : Cel (W.setCell a v) g t cs := by
  show (W.setCell a v).heap[g]? = _
  rw [Below.heap_setCell _ _ _ _ ha]; exact h
theorem set (h : Cel W g t cs) (i : Nat) (v : Value) : Cel (W.setCell ⟨g, i, none⟩ v) g t (cs.setIfInBounds i v) := by
  have h' : W.heap[g]? = _ := h
  show (W.heap.modify g _)[g]? = _
  rw [Array.getElem?_modify, if_pos rfl, h']
  simp
theorem below {B : Nat} (h : Cel W g t cs) (hb : Below B W W') (hg : g < B) : Cel W' g t cs := by
  show W'.heap[g]? = _
  rw [hb.block g hg]; exact h
theorem kept (h : Cel W g t cs) (hb : Below W.heap.size W W') : Cel W' g t cs := h.below hb h.lt
theorem grown {row : Option Nat} (h : Cel W g t cs) (hb : W.grownBy W' row) (hr : some g ≠ row) : Cel W' g t cs := by
  show W'.heap[g]? = _
  rw [hb.block g h.lt hr]; exact h
theorem row (h : Cel W g t cs) (ds : Array Value) : Cel (W.setRow g ds) g t ds := setRow_heap _ _ _ _ _ _ h
/-- A struct or array result that lies in a block of its own. -/
theorem result {P : Program} (h : Cel W g t cs) {fn : Func} {p : Tmp} {ty : TypeId} {d : TypeDesc} (hr : fn.results = #[.cell p ty]) (tmps : Array Value) (hp : tmps.getD p undef = .pointer (some ⟨g, 0, none⟩))
    (hu : P.underlying ty = some d) (hd : (match d with | .struct _ | .array _ _ => true | _ => false) = true) (hi : (P.info? ty).map (·.size) = some cs.size) : (results fn tmps).run P W = .ok (.agg cs) W :=
  results_cell_row hr tmps W g t cs (0, 0) d hp h hu hd hi
end Cel

theorem below_new (w : World) (o : Obj) : Below w.heap.size w (w.alloc o) := (Below.refl _ _).alloc (Nat.le_refl _) o
theorem Below.then_ {a b c : World} (h : Below a.heap.size a b) (k : Below b.heap.size b c) : Below a.heap.size a c := h.trans (k.mono h.size)
end Go.Proofs.Ytoeflkmhofkiaaa

namespace Go.Proofs.Ytoeflkmhofkiaaa
set_option maxRecDepth 100000

/-! Symbolic authentication codes (chapter 15), on lists. -/
structure Tv where
  kind : Int
  one : Int
  two : Int
  a : Int
  b : Int
def Tv.zero : Tv := ⟨0, 0, 0, 0, 0⟩
instance : Inhabited Tv := ⟨Tv.zero⟩
instance : DecidableEq Tv := fun x y =>
  if h : x.kind = y.kind ∧ x.one = y.one ∧ x.two = y.two ∧ x.a = y.a ∧ x.b = y.b then isTrue (by cases x; cases y; simp_all) else isFalse (fun e => h (by rw [e]; exact ⟨rfl, rfl, rfl, rfl, rfl⟩))
/-- What can be made out of keys and tags. -/
def canMk (ks : List Int) (ts : List Tv) (t : Tv) : Bool := decide (t = Tv.zero) || (decide (t.one ∈ ks) && decide (t.two ∈ ks)) || decide (t ∈ ts.take 300)
def learnTs (ks : List Int) (ts : List Tv) (t : Tv) : List Tv := if (!canMk ks ts t && decide (ts.length < 300)) = true then ts ++ [t] else ts
theorem learn_len (ks : List Int) (ts : List Tv) (t : Tv) : (learnTs ks ts t).length ≤ ts.length + 1 := by
  unfold learnTs
  split <;> simp
end Go.Proofs.Ytoeflkmhofkiaaa

namespace Go.Proofs.Ytoeflkmhofkiaaa
open Go.RowKit
set_option maxRecDepth 100000

/-- v reads as the integers zs. -/
def Rd (W : World) (v : Value) (zs : List Int) : Prop :=
  ∃ a c, v = .slice a zs.length c ∧ (0 < zs.length → ∃ b off, a = some ⟨b, off, none⟩ ∧ ∀ j (h : j < zs.length), W.cell? ⟨b, off + j, none⟩ = some (.int .i64 zs[j]))

/-- v reads as the integers zs, in a row of its own from block B on and below block C. -/
def IRow (W : World) (B C : Nat) (v : Value) (zs : List Int) : Prop :=
  W.ownsRow B 3 1 v zs.length (zs.map (Value.int .i64)) ∧ ∀ g, v.ownBlock = some g → g < C

theorem IRow.keep {W W' : World} {B C D : Nat} {v : Value} {zs : List Int} (h : IRow W B C v zs) (hb : Below D W W') (hC : C ≤ D) : IRow W' B C v zs := by
  obtain ⟨⟨h1, h2⟩, h3⟩ := h
  refine ⟨⟨h1, ?_⟩, h3⟩
  rcases h2 with h2 | ⟨g, cap, cur, hv, hg, hh, r⟩
  · exact .inl h2
  · refine .inr ⟨g, cap, cur, hv, hg, ?_, r⟩
    rw [hb.block g (Nat.lt_of_lt_of_le (h3 g (by rw [hv]; rfl)) hC)]
    exact hh

theorem IRow.rd {W : World} {B C : Nat} {v : Value} {zs : List Int} (h : IRow W B C v zs) : Rd W v zs := by
  obtain ⟨⟨h1, h2⟩, h3⟩ := h
  rcases h2 with ⟨rfl, h2⟩ | ⟨g, cap, cur, rfl, hg, hh, r1, r2, r3, r4⟩
  · exact ⟨none, 0, by rw [h2], fun h => by omega⟩
  · refine ⟨some ⟨g, 0, none⟩, cap, rfl, fun _ => ⟨g, 0, rfl, fun j hj => ?_⟩⟩
    rw [Nat.zero_add, cell_of_row _ _ _ _ _ _ hh]
    have h5 := congrArg (fun x => x[j]?) r4
    rw [Nat.mul_one] at h5
    simp only [List.getElem?_take, hj, ↓reduceIte, List.getElem?_map] at h5
    rw [List.getElem?_eq_getElem hj] at h5
    simpa using h5

theorem Rd.below {W W' : World} {v : Value} {zs : List Int} (h : Rd W v zs) (hb : Below W.heap.size W W') : Rd W' v zs := by
  obtain ⟨a, c, rfl, h⟩ := h
  refine ⟨a, c, rfl, fun h0 => ?_⟩
  obtain ⟨b, off, rfl, hc⟩ := h h0
  refine ⟨b, off, rfl, fun j hj => ?_⟩
  have := hc j hj
  have hlt := World.block_lt_of_cell? _ _ this
  rw [hb.cell hlt]
  exact this

/-- Block g is a row of integers, whole. -/
def IBlk (W : World) (g : Nat) (d : Array Int) : Prop := W.heap[g]? = some (.cells (d.map (Value.int .i64)) 3 (0, 0))

theorem IBlk.lt {W : World} {g : Nat} {d : Array Int} (h : IBlk W g d) : g < W.heap.size := (Array.getElem?_eq_some_iff.1 h).1

theorem IBlk.cell {W : World} {g : Nat} {d : Array Int} (h : IBlk W g d) (i : Nat) (hi : i < d.size) : W.cell? ⟨g, i, none⟩ = some (.int .i64 d[i]!) := by
  rw [cell_of_row _ _ _ _ _ _ h, Array.getElem?_map, Array.getElem?_eq_getElem hi, getElem!_pos d i hi]
  rfl

theorem IBlk.frozen {W : World} {g : Nat} {d : Array Int} (h : IBlk W g d) (i : Nat) : W.frozen? ⟨g, i, none⟩ = false := by
  have h' : W.heap[g]? = _ := h
  simp [World.frozen?, h']

theorem IBlk.other {W : World} {g : Nat} {d : Array Int} (h : IBlk W g d) (a : Addr) (v : Value) (ha : g ≠ a.block) : IBlk (W.setCell a v) g d := by
  show (W.setCell a v).heap[g]? = _
  rw [Below.heap_setCell _ _ _ _ ha]; exact h

theorem IBlk.set {W : World} {g : Nat} {d : Array Int} (h : IBlk W g d) (i : Nat) (x : Int) : IBlk (W.setCell ⟨g, i, none⟩ (.int .i64 x)) g (d.setIfInBounds i x) := by
  have h' : W.heap[g]? = _ := h
  show (W.heap.modify g _)[g]? = _
  rw [Array.getElem?_modify, if_pos rfl, h']
  simp only [Option.map_some, Option.isSome_none, Bool.false_eq_true, ↓reduceIte, Option.some.injEq, Obj.cells.injEq, and_true]
  rw [Array.map_setIfInBounds]

theorem IBlk.row {W : World} {g : Nat} {d : Array Int} (h : IBlk W g d) {B C : Nat} (hB : B ≤ g) (hC : g < C) (hm : d.size ≤ maxLen) : IRow W B C (.slice (some ⟨g, 0, none⟩) d.size d.size) d.toList := by
  refine ⟨⟨by simp, .inr ⟨g, d.size, d.map (Value.int .i64), by simp, hB, h, by simp, hm, by simp, ?_⟩⟩, ?_⟩
  · rw [Array.toList_map, List.take_of_length_le (by simp)]
  · intro g' hg'
    simp [Value.ownBlock] at hg'
    omega

theorem infoI : (Try.prog.info? 3).map (fun i => (i.zero, i.size, i.bytes)) = some (some (.int .i64 0), 1, 8) := by kernel_rfl

theorem make_ints (n : Nat) (hn : n ≤ 1048576) (W : World) :
    (Instr.makeSlice 84 (.int .i64 (n : Int)) (.int .i64 (n : Int))).run Try.prog W = .ok (.slice (some ⟨W.heap.size, 0, none⟩) n n) (W.alloc (.cells ((Array.replicate n (0 : Int)).map (Value.int .i64)) 3)) := by
  obtain ⟨i0, hi, hz0, hz1, hz2⟩ := info_parts infoI
  have h := run_makeSlice (P := Try.prog) W 84 3 i0 _ Try.underlying84 hi hz0 .i64 .i64 (n : Int) (n : Int) (by omega) (by omega) (by rw [hz1]; omega) (by rw [hz2]; omega) (by omega)
  rw [h, hz1]
  have e : madeCells (Value.int .i64 0).cells (Int.toNat (n : Int) * 1) = (Array.replicate n (0 : Int)).map (Value.int .i64) := by
    apply Array.ext
    · simp [madeCells]
    · intro i h1 h2
      simp [madeCells, Value.cells, Nat.mod_one]
  rw [e]
  simp

theorem alloc_iblk (W : World) (d : Array Int) : IBlk (W.alloc (.cells (d.map (Value.int .i64)) 3)) W.heap.size d := by
  show (W.heap.push _)[W.heap.size]? = _
  simp

theorem IRow.cell {W : World} {B C : Nat} {g n cap : Nat} {zs : List Int} (h : IRow W B C (.slice (some ⟨g, 0, none⟩) n cap) zs) (j : Nat) (hj : j < zs.length) :
    W.cell? ⟨g, j, none⟩ = some (.int .i64 zs[j]) ∧ W.frozen? ⟨g, j, none⟩ = false := by
  obtain ⟨⟨h1, h2⟩, h3⟩ := h
  rcases h2 with ⟨h2, _⟩ | ⟨g', cap', cur, hv, hg, hh, r1, r2, r3, r4⟩
  · cases h2
  · injection hv with e1 e2 e3
    injection e1 with e1
    injection e1 with e1
    subst e1
    constructor
    · rw [cell_of_row _ _ _ _ _ _ hh]
      have h5 := congrArg (fun x => x[j]?) r4
      rw [Nat.mul_one] at h5
      simp only [List.getElem?_take, hj, ↓reduceIte, List.getElem?_map] at h5
      rw [List.getElem?_eq_getElem hj] at h5
      simpa using h5
    · simp [World.frozen?, hh]

theorem IRow.set {W : World} {B C : Nat} {g n cap : Nat} {zs : List Int} (h : IRow W B C (.slice (some ⟨g, 0, none⟩) n cap) zs) (j : Nat) (x : Int) :
    IRow (W.setCell ⟨g, j, none⟩ (.int .i64 x)) B C (.slice (some ⟨g, 0, none⟩) n cap) (zs.set j x) := by
  obtain ⟨⟨h1, h2⟩, h3⟩ := h
  rcases h2 with ⟨h2, _⟩ | ⟨g', cap', cur, hv, hg, hh, r1, r2, r3, r4⟩
  · cases h2
  · injection hv with e1 e2 e3
    injection e1 with e1
    injection e1 with e1
    subst e1 e2 e3
    refine ⟨⟨by simp, .inr ⟨g, cap, cur.setIfInBounds j (.int .i64 x), by simp, hg, ?_, by simpa using r1, r2, by simpa using r3, ?_⟩⟩, h3⟩
    · show (W.heap.modify g _)[g]? = _
      rw [Array.getElem?_modify, if_pos rfl, hh]
      simp
    · rw [Array.toList_setIfInBounds, List.length_set, List.map_set, ← r4, Nat.mul_one, List.take_set]

end Go.Proofs.Ytoeflkmhofkiaaa

namespace Go.Proofs.Ytoeflkmhofkiaaa
open Go.RowKit
set_option maxRecDepth 100000

/-- The integers k, k + 1, .., n of them. -/
def marks (k n : Nat) : List Int := (List.range n).map fun j => ((k + j : Nat) : Int)

theorem marks_length (k n : Nat) : (marks k n).length = n := by simp [marks]
theorem marks_get (k n j : Nat) (h : j < n) : (marks k n)[j]'(by rw [marks_length]; exact h) = ((k + j : Nat) : Int) := by simp [marks]

/-- zs with its first j places marked from k on. -/
def marked (zs : List Int) (k : Nat) : Nat → List Int
  | 0 => zs
  | j + 1 => (marked zs k j).set j ((k + j : Nat) : Int)

theorem marked_length (zs : List Int) (k j : Nat) : (marked zs k j).length = zs.length := by
  induction j with
  | zero => rfl
  | succ j ih => simp [marked, ih]

theorem marked_get (zs : List Int) (k j : Nat) (i : Nat) (hi : i < j) (h : i < (marked zs k j).length) : (marked zs k j)[i] = ((k + i : Nat) : Int) := by
  induction j with
  | zero => omega
  | succ j ih =>
    simp only [marked]
    rw [List.getElem_set]
    by_cases hij : j = i
    · subst hij; simp
    · rw [if_neg hij]
      exact ih (by omega) (by rw [marked_length] at h ⊢; exact h)

theorem marked_all (zs : List Int) (k : Nat) : marked zs k zs.length = marks k zs.length := by
  apply List.ext_getElem
  · rw [marked_length, marks_length]
  · intro i h1 h2
    rw [marked_get _ _ _ _ (by rw [marked_length] at h1; exact h1), marks_get _ _ _ (by rw [marks_length] at h2; exact h2)]

theorem marked_succ (zs : List Int) (k j : Nat) : marked zs k (j + 1) = (marked zs k j).set j ((k + j : Nat) : Int) := rfl
theorem marked_zero (zs : List Int) (k : Nat) : marked zs k 0 = zs := rfl
attribute [irreducible] marked marks

end Go.Proofs.Ytoeflkmhofkiaaa

namespace Go.Proofs.Ytoeflkmhofkiaaa
open Go.RowKit
set_option maxRecDepth 100000

theorem take_no {P : Program} {ops : Array Oper} {Q : Exit → Act → World → Prop} {md : Region.Mode} {S : World → Prop} {i : Nat} {oi : Oper} {fuel : Nat} {listed : Array Bool} {a : Act} {w : World} (hi : ops[i]? = some oi)
    (hs : Region.noSelect ops = true) (hf : Region.free md ops listed i = true) (hr : (Region.ready md ops listed).contains i = true)
    (hQ : ∀ c a w, Q (.panic c) (a.put oi.dst undef) w → Q (.panic c) a w) (hw : Region.wanted oi (yielded ops a.tmps) = false) (hS : S w)
    (h : wpAnyH P md ops Q S fuel (listed.setIfInBounds i true) (a.put oi.dst undef) w) : wpAnyH P md ops Q S (fuel + 1) listed a w :=
  wpAnyH_take hi hs hf hr hQ (Or.inr ⟨hw, rfl⟩) hS h

theorem take_yes {P : Program} {ops : Array Oper} {Q : Exit → Act → World → Prop} {md : Region.Mode} {S : World → Prop} {i : Nat} {oi : Oper} {v : Value} {fuel : Nat} {listed : Array Bool} {a : Act} {w : World} (hi : ops[i]? = some oi)
    (hs : Region.noSelect ops = true) (hf : Region.free md ops listed i = true) (hr : (Region.ready md ops listed).contains i = true)
    (hQ : ∀ c a w, Q (.panic c) (a.put oi.dst v) w → Q (.panic c) a w) (hw : Region.wanted oi (yielded ops a.tmps) = true) (hy : ∀ w, S w → (execOp a.eval oi).run P w = .ok (.value v) w) (hS : S w)
    (h : wpAnyH P md ops Q S fuel (listed.setIfInBounds i true) (a.put oi.dst v) w) : wpAnyH P md ops Q S (fuel + 1) listed a w :=
  wpAnyH_take hi hs hf hr hQ (Or.inl ⟨hw, hy⟩) hS h
end Go.Proofs.Ytoeflkmhofkiaaa

namespace Go.Proofs.Ytoeflkmhofkiaaa
open Go.RowKit
set_option maxRecDepth 100000

theorem and_le (x : Int) (m : Nat) (hm : m < 2 ^ 63) : 0 ≤ bits .and .i64 x (m : Int) ∧ bits .and .i64 x (m : Int) ≤ m := by
  have h := Nat.and_le_right (n := (BitVec.ofInt 64 x).toNat) (m := (BitVec.ofInt 64 (m : Int)).toNat)
  have e : (BitVec.ofInt 64 (m : Int)).toNat = m := by simp; omega
  have hq : bits .and .i64 x (m : Int) = IntKind.i64.wrap (((BitVec.ofInt 64 x).toNat &&& (BitVec.ofInt 64 (m : Int)).toNat : Nat) : Int) := by
    have := BitVec.toNat_and (BitVec.ofInt 64 x) (BitVec.ofInt 64 (m : Int))
    rw [← this]
    rfl
  rw [hq]
  rw [e] at h ⊢
  generalize (BitVec.ofInt 64 x).toNat &&& m = q at h
  rw [IntWalk.i64_in _ (by omega)]
  omega

/-- A slice of bytes that can be read. -/
def RdB (W : World) (v : Value) (n : Nat) : Prop :=
  ∃ a c, v = .slice a n c ∧ (0 < n → ∃ b off, a = some ⟨b, off, none⟩ ∧ ∀ j, j < n → ∃ x : Nat, x < 256 ∧ W.cell? ⟨b, off + j, none⟩ = some (.int .u8 (x : Int)))

/-- Block g is a cursor over the slice v of n bytes. -/
def Cur (W : World) (g : Nat) (v : Value) (n : Nat) : Prop :=
  ∃ (i : Nat) (h : Int), i ≤ n ∧ W.heap[g]? = some (.cells #[v, .int .i64 (i : Int), .int .i64 h] 89 (0, 0))

/-- Only block g has turned. -/
structure Only (g : Nat) (w w' : World) : Prop where
  bl : Below g w w'
  size : w'.heap.size = w.heap.size
  at_ : ∀ k, k ≠ g → w'.heap[k]? = w.heap[k]?

set_option maxHeartbeats 1000000 in
set_option maxRecDepth 100000 in
theorem l01_byte (g : Nat) (v : Value) (n : Nat) (w : World) (hc : Cur w g v n) (hv : RdB w v n) (hn : n ≤ 1048576) (hg : ∀ a c k, 0 < k → v = .slice a k c → ∀ ad, a = some ad → ad.block ≠ g) :
    Calls Try.prog 72 #[.pointer (some ⟨g, 0, none⟩)] w fun e w' => ∃ r : Nat, r ≤ 255 ∧ e = .returned (.int .i64 (r : Int)) ∧ Cur w' g v n ∧ Only g w w' := by
  obtain ⟨i, h, hi, hb⟩ := hc
  obtain ⟨a, c, rfl, hcell⟩ := hv
  have c0 : w.cell? ⟨g, 0, none⟩ = some (.slice a n c) := by rw [cell_of_row _ _ _ _ _ _ hb]; rfl
  have c1 : w.cell? ⟨g, 1, none⟩ = some (.int .i64 (i : Int)) := by rw [cell_of_row _ _ _ _ _ _ hb]; rfl
  have c2 : w.cell? ⟨g, 2, none⟩ = some (.int .i64 h) := by rw [cell_of_row _ _ _ _ _ _ hb]; rfl
  have hf : ∀ j, w.frozen? ⟨g, j, none⟩ = false := fun j => by simp [World.frozen?, hb]
  go_enter Try.func72, Try.ntmps72
  go_wp2_with (fail)
  generalize wrap64 (wrap64 (h * 6364136223846793005) + 1442695040888963407) = H
  have hb1 : (w.setCell ⟨g, 2, none⟩ (.int .i64 H)).heap[g]? = some (.cells #[.slice a n c, .int .i64 (i : Int), .int .i64 H] 89 (0, 0)) := by
    show (w.heap.modify g _)[g]? = _
    rw [Array.getElem?_modify, if_pos rfl, hb]
    rfl
  have hO1 : Only g w (w.setCell ⟨g, 2, none⟩ (.int .i64 H)) := ⟨Below.setCell (p := ⟨g, 2, none⟩) (Below.refl g w) (Nat.le_refl g) _, by simp, fun k hk => Below.heap_setCell _ _ _ _ hk⟩
  clear c0 c1 c2 hf hb
  generalize w.setCell ⟨g, 2, none⟩ (.int .i64 H) = W1 at hb1 hO1
  have c0 : W1.cell? ⟨g, 0, none⟩ = some (.slice a n c) := by rw [cell_of_row _ _ _ _ _ _ hb1]; rfl
  have c1 : W1.cell? ⟨g, 1, none⟩ = some (.int .i64 (i : Int)) := by rw [cell_of_row _ _ _ _ _ _ hb1]; rfl
  have c2 : W1.cell? ⟨g, 2, none⟩ = some (.int .i64 H) := by rw [cell_of_row _ _ _ _ _ _ hb1]; rfl
  have hf : ∀ j, W1.frozen? ⟨g, j, none⟩ = false := fun j => by simp [World.frozen?, hb1]
  go_quiet (fail)
  revert nq
  intro m1
  go_wp2_with (fail)
  have hX := and_le (bits .xor .i64 (H / 8589934592) (H / 35184372088832)) 255 (by decide)
  rw [show ((255 : Nat) : Int) = (255 : Int) from rfl] at hX
  generalize bits .and .i64 (bits .xor .i64 (H / 8589934592) (H / 35184372088832)) 255 = X at hX ⊢
  obtain ⟨r, rfl⟩ := Int.eq_ofNat_of_zero_le hX.1
  have hr : r ≤ 255 := by omega
  clear hX
  have hb2 : (W1.drewN m1).heap[g]? = some (.cells #[.slice a n c, .int .i64 (i : Int), .int .i64 H] 89 (0, 0)) := hb1
  have hO2 : Only g w (W1.drewN m1) := ⟨⟨hO1.bl.os, hO1.bl.tape, hO1.bl.output, hO1.bl.size, hO1.bl.block⟩, hO1.size, hO1.at_⟩
  clear c0 c1 c2 hf hb1 hO1
  generalize W1.drewN m1 = W2 at hb2 hO2
  have c0 : W2.cell? ⟨g, 0, none⟩ = some (.slice a n c) := by rw [cell_of_row _ _ _ _ _ _ hb2]; rfl
  have c1 : W2.cell? ⟨g, 1, none⟩ = some (.int .i64 (i : Int)) := by rw [cell_of_row _ _ _ _ _ _ hb2]; rfl
  have hf : ∀ j, W2.frozen? ⟨g, j, none⟩ = false := fun j => by simp [World.frozen?, hb2]
  by_cases hin : i < n
  · obtain ⟨b, off, rfl, hcc⟩ := hcell (by omega)
    obtain ⟨x, hx, hcx⟩ := hcc i hin
    have hbg : b ≠ g := hg _ _ n (by omega) rfl ⟨b, off, none⟩ rfl
    have hcx2 : W2.cell? ⟨b, off + i, none⟩ = some (.int .u8 (x : Int)) := by
      rw [← hcx]
      simp only [World.cell?, hO2.at_ b hbg]
    clear hcc hcell hcx
    have q : (i : Int) < (n : Int) := by omega
    have q0 : (0 : Int) ≤ (i : Int) := by omega
    have e1 : IntKind.i64.wrap ((r : Int) + (x : Int)) = (r : Int) + (x : Int) := IntWalk.i64_in _ (by omega)
    have hX := and_le ((r : Int) + (x : Int)) 255 (by decide)
    rw [show ((255 : Nat) : Int) = (255 : Int) from rfl] at hX
    have e2 : IntKind.i64.wrap (x : Int) = (x : Int) := IntWalk.i64_in _ (by omega)
    have e3 : IntKind.i64.wrap ((i : Int) + 1) = (i : Int) + 1 := IntWalk.i64_in _ (by omega)
    go_quiet (fail)
    revert nq
    intro m2
    go_wp2_with (fail)
    go_quiet (fail)
    revert nq
    intro m3
    go_wp2_with (fail)
    generalize bits .and .i64 ((r : Int) + (x : Int)) 255 = X at hX ⊢
    obtain ⟨r', rfl⟩ := Int.eq_ofNat_of_zero_le hX.1
    go_ret
    refine ⟨r', by omega, rfl, ⟨i + 1, H, by omega, ?_⟩, ⟨Below.setCell (p := ⟨g, 1, none⟩) (show Below g w (W2.drewN (m2 + m3)) from ⟨hO2.bl.os, hO2.bl.tape, hO2.bl.output, hO2.bl.size, hO2.bl.block⟩) (Nat.le_refl g) _, ?_, fun k hk => ?_⟩⟩
    · show ((W2.drewN (m2 + m3)).heap.modify g _)[g]? = _
      rw [Array.getElem?_modify, if_pos rfl, show (W2.drewN (m2 + m3)).heap[g]? = _ from hb2]
      rfl
    · rw [World.size_setCell]; exact hO2.size
    · rw [Below.heap_setCell _ _ _ _ hk]; exact hO2.at_ k hk
  · have q : ¬ ((i : Int) < (n : Int)) := by omega
    go_quiet (fail)
    revert nq
    intro m2
    go_wp2_with (fail)
    go_ret
    exact ⟨r, hr, rfl, ⟨i, H, hi, hb2⟩, ⟨⟨hO2.bl.os, hO2.bl.tape, hO2.bl.output, hO2.bl.size, hO2.bl.block⟩, hO2.size, hO2.at_⟩⟩

theorem Only.trans {g : Nat} {a b c : World} (h : Only g a b) (k : Only g b c) : Only g a c :=
  ⟨h.bl.trans k.bl, k.size.trans h.size, fun i hi => (k.at_ i hi).trans (h.at_ i hi)⟩

theorem Only.rdB {g : Nat} {w w' : World} {v : Value} {n : Nat} (h : Only g w w') (hv : RdB w v n) (hg : ∀ a c k, 0 < k → v = .slice a k c → ∀ ad, a = some ad → ad.block ≠ g) : RdB w' v n := by
  obtain ⟨a, c, rfl, hv⟩ := hv
  refine ⟨a, c, rfl, fun h0 => ?_⟩
  obtain ⟨b, off, rfl, hc⟩ := hv h0
  refine ⟨b, off, rfl, fun j hj => ?_⟩
  obtain ⟨x, hx, hcx⟩ := hc j hj
  refine ⟨x, hx, ?_⟩
  rw [← hcx]
  simp only [World.cell?, h.at_ b (hg _ _ n h0 rfl ⟨b, off, none⟩ rfl)]

end Go.Proofs.Ytoeflkmhofkiaaa

namespace Go.Proofs.Ytoeflkmhofkiaaa
open Go.RowKit
set_option maxRecDepth 100000

set_option maxHeartbeats 1000000 in
set_option maxRecDepth 100000 in
theorem l01_new (v : Value) (n : Nat) (w : World) (hv : RdB w v n) (hn : n ≤ 1048576) :
    Calls Try.prog 42 #[v] w fun e w' => e = .returned (.pointer (some ⟨w.heap.size, 0, none⟩)) ∧ Cur w' w.heap.size v n ∧ Below w.heap.size w w' := by
  obtain ⟨a, c, rfl, hcell⟩ := hv
  have e0 : IntKind.i64.wrap (94701 + (n : Int)) = 94701 + (n : Int) := IntWalk.i64_in _ (by omega)
  go_enter Try.func42, Try.ntmps42
  go_wp2_with (fail)
  go_loopw [3, 4] (fun m i wr => ∃ (k : Nat) (z : Int) (d : Nat), k ≤ n ∧ k ≤ 4000 ∧ m = .int .i64 z ∧ i = .int .i64 k ∧ wr = w.drewN d) (fun _ i _ => 5000 - (intOf i).toNat)
  case atStart => exact ⟨0, _, 0, by omega, by omega, rfl, rfl, rfl⟩
  case round =>
    obtain ⟨k, z, d, hk, hk4, rfl, rfl, rfl⟩ := hrel
    by_cases h1 : k < n
    · have q1 : (k : Int) < (n : Int) := by omega
      by_cases h2 : k < 4000
      · have q2 : (k : Int) < 4000 := by omega
        obtain ⟨b, off, rfl, hcc⟩ := hcell (by omega)
        obtain ⟨x, hx, hcx⟩ := hcc k h1
        have q0 : (0 : Int) ≤ (k : Int) := by omega
        clear hcell hcc
        go_wp2_with (fail)
        go_roundw
        case rel => exact ⟨k + 1, _, d, by omega, by omega, rfl, by go_num, rfl⟩
        case measure => simp [intOf]; omega
      · have q2 : ¬ (k : Int) < 4000 := by omega
        go_wp2_with (fail)
        go_ret
        refine ⟨rfl, ⟨0, z, by omega, ?_⟩, (Below.alloc (w := w.drewN d) (show Below w.heap.size w (w.drewN d) from ⟨rfl, rfl, rfl, Nat.le_refl _, fun _ _ => rfl⟩) (Nat.le_refl _) _)⟩
        show ((w.drewN d).heap.push _)[w.heap.size]? = _
        rw [show w.heap.size = (w.drewN d).heap.size from rfl]
        simp
    · have q1 : ¬ (k : Int) < (n : Int) := by omega
      go_wp2_with (fail)
      go_ret
      refine ⟨rfl, ⟨0, z, by omega, ?_⟩, (Below.alloc (w := w.drewN d) (show Below w.heap.size w (w.drewN d) from ⟨rfl, rfl, rfl, Nat.le_refl _, fun _ _ => rfl⟩) (Nat.le_refl _) _)⟩
      show ((w.drewN d).heap.push _)[w.heap.size]? = _
      rw [show w.heap.size = (w.drewN d).heap.size from rfl]
      simp
theorem RdB.below {W W' : World} {v : Value} {n B : Nat} (hv : RdB W v n) (hb : Below B W W') (hlt : ∀ a c k, 0 < k → v = .slice a k c → ∀ ad, a = some ad → ad.block < B) : RdB W' v n := by
  obtain ⟨a, c, rfl, hvv⟩ := hv
  refine ⟨a, c, rfl, fun h0 => ?_⟩
  obtain ⟨b, off, rfl, hc⟩ := hvv h0
  refine ⟨b, off, rfl, fun j hj => ?_⟩
  obtain ⟨x, hx, hcx⟩ := hc j hj
  exact ⟨x, hx, by rw [hb.cell (p := ⟨b, off + j, none⟩) (show b < B from hlt _ _ n h0 rfl ⟨b, off, none⟩ rfl)]; exact hcx⟩

theorem Cur.below {W W' : World} {g : Nat} {v : Value} {n B : Nat} (h : Cur W g v n) (hb : Below B W W') (hg : g < B) : Cur W' g v n := by
  obtain ⟨i, z, hi, hh⟩ := h
  exact ⟨i, z, hi, by rw [hb.block g hg]; exact hh⟩


theorem RdB.lt {W : World} {v : Value} {n : Nat} (hv : RdB W v n) : ∀ a c k, 0 < k → v = .slice a k c → ∀ ad, a = some ad → ad.block < W.heap.size := by
  obtain ⟨a, c, rfl, hvv⟩ := hv
  intro a' c' k h0 he ad ha
  injection he with e1 e2 e3
  subst e1 e2 e3
  obtain ⟨b, off, e, hc⟩ := hvv h0
  rw [ha] at e
  obtain rfl := Option.some.inj e
  obtain ⟨x, _, hx⟩ := hc 0 h0
  exact World.block_lt_of_cell? _ _ hx

/-- Block g is a cursor over the slice v, which lies below it. -/
structure Dr (W : World) (g : Nat) (v : Value) (n : Nat) : Prop where
  cur : Cur W g v n
  rd : RdB W v n
  lt : ∀ a c k, 0 < k → v = .slice a k c → ∀ ad, a = some ad → ad.block < g
  small : n ≤ 1048576

theorem Dr.blk {W : World} {g : Nat} {v : Value} {n : Nat} (h : Dr W g v n) : g < W.heap.size := by
  obtain ⟨_, _, _, hh⟩ := h.cur
  exact (Array.getElem?_eq_some_iff.1 hh).1

theorem Dr.below {W W' : World} {g : Nat} {v : Value} {n B : Nat} (h : Dr W g v n) (hb : Below B W W') (hg : g < B) : Dr W' g v n :=
  ⟨h.cur.below hb hg, h.rd.below hb (fun a c k h0 he ad ha => by have := h.lt a c k h0 he ad ha; omega), h.lt, h.small⟩

theorem Dr.kept {W W' : World} {g : Nat} {v : Value} {n : Nat} (h : Dr W g v n) (hb : Below W.heap.size W W') : Dr W' g v n := h.below hb h.blk

theorem Dr.only {W W' : World} {g : Nat} {v : Value} {n : Nat} (h : Dr W g v n) (ho : Only g W W') (hc : Cur W' g v n) : Dr W' g v n :=
  ⟨hc, ho.rdB h.rd (fun a c k h0 he ad ha => by have := h.lt a c k h0 he ad ha; omega), h.lt, h.small⟩

theorem Only.below {g B : Nat} {a w w' : World} (ho : Only g w w') (h : Below B a w) (hB : B ≤ g) : Below B a w' := h.trans (ho.bl.mono hB)

theorem Only.refl (g : Nat) (w : World) : Only g w w := ⟨Below.refl g w, rfl, fun _ _ => rfl⟩

/-- A new cursor. -/
theorem new_dr (v : Value) (n : Nat) (w : World) (hv : RdB w v n) (hn : n ≤ 1048576) :
    Calls Try.prog 42 #[v] w fun e w' => e = .returned (.pointer (some ⟨w.heap.size, 0, none⟩)) ∧ Dr w' w.heap.size v n ∧ Below w.heap.size w w' :=
  (l01_new v n w hv hn).mono fun _ _ ⟨h1, h2, h3⟩ => ⟨h1, ⟨h2, hv.below h3 hv.lt, hv.lt, hn⟩, h3⟩

/-- The next byte of a cursor. -/
theorem byte_dr (g : Nat) (v : Value) (n : Nat) (w : World) (h : Dr w g v n) :
    Calls Try.prog 72 #[.pointer (some ⟨g, 0, none⟩)] w fun e w' => ∃ r : Nat, r ≤ 255 ∧ e = .returned (.int .i64 (r : Int)) ∧ Dr w' g v n ∧ Only g w w' :=
  (l01_byte g v n w h.cur h.rd h.small (fun a c k h0 he ad ha => by have := h.lt a c k h0 he ad ha; omega)).mono fun _ _ ⟨r, h1, h2, h3, h4⟩ => ⟨r, h1, h2, h.only h4 h3, h4⟩

theorem own_only {g B : Nat} {w w' : World} {v : Value} {n : Nat} {xs : List Value} (h : w.ownsRow B 3 1 v n xs) (ho : Only g w w') (hB : g < B) : w'.ownsRow B 3 1 v n xs := by
  obtain ⟨h1, h2⟩ := h
  refine ⟨h1, ?_⟩
  rcases h2 with h2 | ⟨g', cap, cur, hv, hg, hh, r⟩
  · exact .inl h2
  · refine .inr ⟨g', cap, cur, hv, hg, ?_, r⟩
    rw [ho.at_ g' (by omega)]
    exact hh


set_option maxHeartbeats 1000000 in
set_option maxRecDepth 100000 in
theorem below_big (g : Nat) (v : Value) (n k : Nat) (w : World) (hd : Dr w g v n) (hk : 256 < k) (hk2 : k ≤ 1000000000) :
    Calls Try.prog 65 #[.pointer (some ⟨g, 0, none⟩), .int .i64 (k : Int)] w fun e w' => ∃ r : Nat, r < k ∧ e = .returned (.int .i64 (r : Int)) ∧ Dr w' g v n ∧ Only g w w' := by
  have q1 : ¬ ((k : Int) ≤ 0) := by omega
  have q2 : ¬ ((k : Int) ≤ 256) := by omega
  go_enter Try.func65, Try.ntmps65
  go_wp2_with (fail)
  with_reducible refine (byte_dr g v n w hd).mono ?_
  rintro e w1 ⟨r1, h1, rfl, d1, o1⟩
  go_wp2_with (fail)
  with_reducible refine (byte_dr g v n w1 d1).mono ?_
  rintro e w2 ⟨r2, h2, rfl, d2, o2⟩
  go_wp2_with (fail)
  with_reducible refine (byte_dr g v n w2 d2).mono ?_
  rintro e w3 ⟨r3, h3, rfl, d3, o3⟩
  go_wp2_with (fail)
  with_reducible refine (byte_dr g v n w3 d3).mono ?_
  rintro e w4 ⟨r4, h4, rfl, d4, o4⟩
  have e1 : ((r1 : Int) * 16777216 + (r2 : Int) * 65536 + (r3 : Int) * 256 + (r4 : Int)).tmod (k : Int) = (((r1 * 16777216 + r2 * 65536 + r3 * 256 + r4) % k : Nat) : Int) := by
    rw [Int.tmod_eq_emod_of_nonneg (by omega), show ((r1 : Int) * 16777216 + (r2 : Int) * 65536 + (r3 : Int) * 256 + (r4 : Int)) = ((r1 * 16777216 + r2 * 65536 + r3 * 256 + r4 : Nat) : Int) by omega]
    exact (Int.natCast_emod _ _).symm
  have hlt : (r1 * 16777216 + r2 * 65536 + r3 * 256 + r4) % k < k := Nat.mod_lt _ (by omega)
  have e2 : ((r1 : Int) * 16777216 + (r2 : Int) * 65536 + (r3 : Int) * 256 + (r4 : Int)) % (k : Int) = (((r1 * 16777216 + r2 * 65536 + r3 * 256 + r4) % k : Nat) : Int) := by
    rw [← e1, Int.tmod_eq_emod_of_nonneg (by omega)]
  generalize (r1 * 16777216 + r2 * 65536 + r3 * 256 + r4) % k = q at e1 e2 hlt
  go_wp2_with (fail)
  go_ret
  refine ⟨q, hlt, ?_, d4, ((o1.trans o2).trans o3).trans o4⟩
  first | rfl | simp [e1] | simp [e2]

set_option maxHeartbeats 1000000 in
theorem below_small (g : Nat) (v : Value) (n k : Nat) (w : World) (hd : Dr w g v n) (h0 : 0 < k) (hk : k ≤ 256) :
    Calls Try.prog 65 #[.pointer (some ⟨g, 0, none⟩), .int .i64 (k : Int)] w fun e w' => ∃ r : Nat, r < k ∧ e = .returned (.int .i64 (r : Int)) ∧ Dr w' g v n ∧ Only g w w' := by
  have q1 : ¬ ((k : Int) ≤ 0) := by omega
  have q2 : ((k : Int) ≤ 256) := by omega
  go_enter Try.func65, Try.ntmps65
  go_wp2_with (fail)
  with_reducible refine (byte_dr g v n w hd).mono ?_
  rintro e w1 ⟨r1, h1, rfl, d1, o1⟩
  have e1 : (r1 : Int).tmod (k : Int) = ((r1 % k : Nat) : Int) := by
    rw [Int.tmod_eq_emod_of_nonneg (by omega)]
    exact (Int.natCast_emod _ _).symm
  have e2 : (r1 : Int) % (k : Int) = ((r1 % k : Nat) : Int) := (Int.natCast_emod _ _).symm
  have hlt : r1 % k < k := Nat.mod_lt _ (by omega)
  generalize r1 % k = q at e1 e2 hlt
  go_wp2_with (fail)
  go_ret
  refine ⟨q, hlt, ?_, d1, o1⟩
  first | rfl | simp [e1] | simp [e2]

theorem below_zero (g : Nat) (k : Int) (w : World) (h0 : k ≤ 0) :
    Calls Try.prog 65 #[.pointer (some ⟨g, 0, none⟩), .int .i64 k] w fun e w' => e = .returned (.int .i64 0) ∧ w = w' := by
  go_enter Try.func65, Try.ntmps65
  go_wp2_with (fail)
  go_ret
  exact ⟨rfl, rfl⟩

/-- A number below k. -/
theorem below_dr (g : Nat) (v : Value) (n k : Nat) (w : World) (hd : Dr w g v n) (h0 : 0 < k) (hk : k ≤ 1000000000) :
    Calls Try.prog 65 #[.pointer (some ⟨g, 0, none⟩), .int .i64 (k : Int)] w fun e w' => ∃ r : Nat, r < k ∧ e = .returned (.int .i64 (r : Int)) ∧ Dr w' g v n ∧ Only g w w' := by
  by_cases h : k ≤ 256
  · exact below_small g v n k w hd h0 h
  · exact below_big g v n k w hd (by omega) hk
end Go.Proofs.Ytoeflkmhofkiaaa

namespace Go.Proofs.Ytoeflkmhofkiaaa
open Go.RowKit
set_option maxRecDepth 100000

/-- A byte as a cell holds it. -/
def cb (c : UInt8) : Value := .int .u8 (c.toNat : Int)

/-- v is a slice over a block of the call's own (from B on), whose first cells are the bytes l. -/
def BRow (W : World) (B : Nat) (v : Value) (l : List UInt8) : Prop :=
  ∃ g cap cur fr, v = .slice (some ⟨g, 0, none⟩) l.length cap ∧ B ≤ g ∧ W.heap[g]? = some (.cells cur 5 fr) ∧ l.length ≤ cap ∧ cap ≤ maxLen ∧ cur.size = cap ∧ cur.toList.take l.length = l.map cb ∧ (fr = (0, 0) ∨ cap ≤ fr.1)

theorem BRow.below {W W' : World} {B C : Nat} {v : Value} {l : List UInt8} (h : BRow W B v l) (hb : Below C W W') (hC : W.heap.size ≤ C) : BRow W' B v l := by
  obtain ⟨g, cap, cur, fr, hv, hg, hh, h1, h2, h3, h4, h5⟩ := h
  exact ⟨g, cap, cur, fr, hv, hg, by rw [hb.block g (by have := (Array.getElem?_eq_some_iff.1 hh).1; omega)]; exact hh, h1, h2, h3, h4, h5⟩

theorem BRow.alloc {W : World} {B : Nat} {v : Value} {l : List UInt8} (h : BRow W B v l) (o : Obj) : BRow (W.alloc o) B v l := by
  obtain ⟨g, cap, cur, fr, hv, hg, hh, h1, h2, h3, h4, h5⟩ := h
  exact ⟨g, cap, cur, fr, hv, hg, by rw [Below.heap_alloc _ _ _ (Array.getElem?_eq_some_iff.1 hh).1]; exact hh, h1, h2, h3, h4, h5⟩

theorem BRow.drewN {W : World} {B : Nat} {v : Value} {l : List UInt8} (h : BRow W B v l) (n : Nat) : BRow (W.drewN n) B v l := h

theorem BRow.of_own {W : World} {B : Nat} {v : Value} {l : List UInt8} (h : W.ownsRow B 5 1 v l.length (l.map cb)) (hl : 0 < l.length) : BRow W B v l := by
  obtain ⟨_, h⟩ := h
  rcases h with ⟨_, h0⟩ | ⟨g, cap, cur, hv, hg, hh, h1, h2, h3, h4⟩
  · omega
  · exact ⟨g, cap, cur, (0, 0), hv, hg, hh, h1, h2, by omega, by simpa using h4, .inl rfl⟩

/-- What '[]byte(s)' makes. -/
theorem BRow.of_string (W : World) (s : ByteArray) (B : Nat) (hB : B ≤ W.heap.size) (hs : s.size ≤ maxLen) :
    BRow (W.drew.alloc (.cells (bytesRow s (grownCap W s.size 0 5)) 5 ((bytesRow s (grownCap W s.size 0 5)).size, (bytesRow s (grownCap W s.size 0 5)).size + 1))) B (.slice (some ⟨W.heap.size, 0, none⟩) s.size (grownCap W s.size 0 5)) s.data.toList := by
  have hge := grownCap_ge W s.size 0 5
  have hle := grownCap_le_maxLen W s.size 0 5 hs
  have hsz : s.data.size = s.size := rfl
  have hsize : (bytesRow s (grownCap W s.size 0 5)).size = grownCap W s.size 0 5 := by
    simp only [bytesRow, Array.size_append, Array.size_map, Array.size_replicate]; omega
  have hlen : s.data.toList.length = s.size := by simp [hsz]
  rw [show (Value.slice (some ⟨W.heap.size, 0, none⟩) s.size (grownCap W s.size 0 5)) = (Value.slice (some ⟨W.heap.size, 0, none⟩) s.data.toList.length (grownCap W s.size 0 5)) by rw [hlen]]
  refine ⟨W.heap.size, grownCap W s.size 0 5, bytesRow s (grownCap W s.size 0 5), ((bytesRow s (grownCap W s.size 0 5)).size, (bytesRow s (grownCap W s.size 0 5)).size + 1), rfl, hB, ?_, by rw [hlen]; exact hge, hle, hsize, ?_, .inr (by dsimp only; rw [hsize]; exact Nat.le_refl _)⟩
  · show (W.heap.push _)[W.heap.size]? = _
    simp
  · simp only [bytesRow, Array.toList_append, Array.toList_map]
    rw [List.take_append_of_le_length (by simp)]
    rw [List.take_of_length_le (by simp)]
    rfl

theorem BRow.mono {W : World} {B B' : Nat} {v : Value} {l : List UInt8} (h : BRow W B v l) (hB : B' ≤ B) : BRow W B' v l := by
  obtain ⟨g, cap, cur, fr, hv, hg, hh⟩ := h
  exact ⟨g, cap, cur, fr, hv, by omega, hh⟩

theorem BRow.cell {W : World} {B : Nat} {v : Value} {l : List UInt8} (h : BRow W B v l) {g cap : Nat} (hv : v = .slice (some ⟨g, 0, none⟩) l.length cap) (j : Nat) (hj : j < l.length) : W.cell? ⟨g, j, none⟩ = some (cb l[j]) := by
  obtain ⟨g', cap', cur, fr, hv', hg, hh, h1, h2, h3, h4, h5⟩ := h
  rw [hv] at hv'
  injection hv' with e1 e2 e3
  injection e1 with e1
  injection e1 with e1
  subst e1
  rw [Go.cell_of_row _ _ _ _ _ _ hh]
  have := congrArg (fun x => x[j]?) h4
  simp only [List.getElem?_take, hj, ↓reduceIte, List.getElem?_map] at this
  rw [List.getElem?_eq_getElem hj] at this
  simpa using this

theorem info5 : (Try.prog.info? 5).map (fun i => (i.zero, i.size, i.bytes)) = some (some (.int .u8 0), 1, 1) := by kernel_rfl

/-- One byte more. -/
theorem wpList_append_byte (w : World) {ops : Array Oper} {rest : List Oper} {o : Oper} {a : Act} {Q : Exit → Act → World → Prop}
    (hg : o.guard = none) (s x : Operand) (hop : o.op = Op.call { callee := Callee.builtin Builtin.append, args := #[s, x], argTypes := #[22, 22] })
    {B : Nat} {v : Value} {l : List UInt8} (c : UInt8) (hs : a.eval s = v) (hrow : BRow w B v l) (hB : B ≤ w.heap.size)
    (g' cp : Nat) (hx : a.eval x = .slice (some ⟨g', 0, none⟩) 1 cp) (hc : w.cell? ⟨g', 0, none⟩ = some (cb c))
    (b1 : l.length + 1 ≤ maxLen) (b2 : l.length + 1 ≤ 140737488355328)
    (h : ∀ v' w', BRow w' B v' (l ++ [c]) → Below B w w' → wpList Try.prog ops Q rest (a.put o.dst v') w') :
    wpList Try.prog ops Q (o :: rest) a w := by
  obtain ⟨i0, hi, hz0, hz1, hz2⟩ := info_parts info5
  have hrow' := hrow
  obtain ⟨g, cap, cur, fr, rfl, hgB, hh, h1, h2, h3, h4, h5⟩ := hrow'
  have hcell := fun j hj => hrow.cell rfl j hj
  refine wpList_append_arg w hg s x 22 hop 5 i0 (.int .u8 0) 1 1 Try.underlying22 hi hz0 hz1 hz2 rfl (by decide)
    g 0 l.length cap (l.map cb) hs (by simp) ?_ ⟨g', 0, none⟩ 1 cp [cb c] hx rfl ?_ ?_ ?_ b1 (by simpa using b2) ?_ ?_
  · intro j u hj
    rw [List.getElem?_map] at hj
    obtain ⟨z, hz, rfl⟩ := Option.map_eq_some_iff.1 hj
    obtain ⟨hlt, rfl⟩ := List.getElem?_eq_some_iff.1 hz
    rw [Nat.zero_add]; exact hcell j hlt
  · intro j u hj
    match j, hj with
    | 0, hj => simp at hj; subst hj; simpa [Addr.add] using hc
  · intro u hu; simp at hu; subst hu; rfl
  · intro hroom j hj
    simp at hj
    subst hj
    simp only [Nat.zero_add, Nat.mul_one, Nat.add_zero]
    refine ⟨?_, ?_⟩
    · rw [Go.cell_of_row _ _ _ _ _ _ hh, Array.getElem?_eq_getElem (by omega)]; rfl
    · simp only [World.frozen?, hh]
      rcases h5 with rfl | h5
      · simp
      · simp; omega
  · intro hroom
    simp only [Nat.zero_add, Nat.mul_one, World.setCells]
    refine h _ _ ?_ ((Below.refl _ _).setCell hgB _)
    refine ⟨g, cap, cur.setIfInBounds l.length (cb c), fr, by simp, hgB, ?_, by simp; omega, h2, by simp [h3], ?_, h5⟩
    · show (w.heap.modify g _)[g]? = _
      rw [Array.getElem?_modify, if_pos rfl, hh]
      simp
    · simp only [List.length_append, List.length_singleton, Array.toList_setIfInBounds, List.map_append, List.map_cons, List.map_nil, ← h4]
      apply List.ext_getElem?
      intro k
      rw [List.getElem?_take, List.getElem?_set, List.getElem?_append]
      simp only [List.length_take, Array.length_toList]
      have hm : min l.length cur.size = l.length := by omega
      rw [hm]
      by_cases hk : k < l.length
      · have e1 : k < l.length + 1 := by omega
        have e2 : ¬ l.length = k := by omega
        simp [hk, e1, e2]
      · by_cases hk2 : k = l.length
        · subst hk2
          have : l.length < cur.size := by omega
          simp [this]
        · have e1 : ¬ k < l.length + 1 := by omega
          have : k - l.length = (k - l.length - 1) + 1 := by omega
          rw [if_neg e1, if_neg hk, this]
          rfl
  · intro hfull v' w' hown hgrow
    refine h v' w' ?_ ?_
    · have : l.map cb ++ [cb c] = (l ++ [c]).map cb := by simp
      rw [this] at hown
      exact (BRow.of_own (by simpa using hown) (by simp)).mono hB
    · exact (Below.refl B w).grown hgrow hB (by simp)

end Go.Proofs.Ytoeflkmhofkiaaa

namespace Go.Proofs.Ytoeflkmhofkiaaa
open Go.RowKit
set_option maxRecDepth 100000

theorem own_only2 {g B : Nat} {w w' : World} {v : Value} {e : TypeId} {size n : Nat} {xs : List Value} (h : w.ownsRow B e size v n xs) (ho : Only g w w') (hB : g < B) : w'.ownsRow B e size v n xs := by
  obtain ⟨h1, h2⟩ := h
  refine ⟨h1, ?_⟩
  rcases h2 with h2 | ⟨g', cap, cur, hv, hg, hh, r⟩
  · exact .inl h2
  · refine .inr ⟨g', cap, cur, hv, hg, ?_, r⟩
    rw [ho.at_ g' (by omega)]
    exact hh

theorem Cel.only {g b : Nat} {w w' : World} {t : TypeId} {cs : Array Value} (h : Cel w b t cs) (ho : Only g w w') (hb : b ≠ g) : Cel w' b t cs := by
  show w'.heap[b]? = _
  rw [ho.at_ b hb]; exact h

/-- Only block g, and what is new, has turned. -/
def Grew (g : Nat) (w w' : World) : Prop := w.grownBy w' (some g)

theorem Only.grew {g : Nat} {w w' : World} (h : Only g w w') : Grew g w w' :=
  ⟨h.bl.os, h.bl.tape, h.bl.output, Nat.le_of_eq h.size.symm, fun i _ hn => h.at_ i (fun e => hn (by rw [e]))⟩
theorem Grew.refl (g : Nat) (w : World) : Grew g w w := ⟨rfl, rfl, rfl, Nat.le_refl _, fun _ _ _ => rfl⟩
theorem Grew.trans {g : Nat} {a b c : World} (h : Grew g a b) (k : Grew g b c) : Grew g a c :=
  ⟨k.os.trans h.os, k.tape.trans h.tape, k.output.trans h.output, Nat.le_trans h.size k.size, fun i hi hn => (k.block i (Nat.lt_of_lt_of_le hi h.size) hn).trans (h.block i hi hn)⟩
theorem Grew.of_below {g B : Nat} {a b : World} (h : Below B a b) (hB : a.heap.size ≤ B) : Grew g a b :=
  ⟨h.os, h.tape, h.output, h.size, fun i hi _ => h.block i (by omega)⟩
theorem Grew.below {g B : Nat} {a b : World} (h : Grew g a b) (hB : B ≤ g) (hB2 : B ≤ a.heap.size) : Below B a b :=
  ⟨h.os, h.tape, h.output, h.size, fun i hi => h.block i (by omega) (fun e => by injection e with e; omega)⟩
theorem Cel.grew {g b : Nat} {w w' : World} {t : TypeId} {cs : Array Value} (h : Cel w b t cs) (ho : Grew g w w') (hb : b ≠ g) : Cel w' b t cs := h.grown ho (fun e => hb (by injection e))
theorem Grew.chain {g B : Nat} {a b c : World} (h : Below B a b) (k : Grew g b c) (hB : B ≤ g) (hB2 : B ≤ b.heap.size) : Below B a c := h.trans (k.below hB hB2)

/-- A row of bytes of the call's own, empty or not, made a string. -/
theorem conv_row {W : World} {B g n cap : Nat} {l : List UInt8} (h : W.ownsRow B 5 1 (.slice (some ⟨g, 0, none⟩) l.length cap) l.length (l.map cb)) (hl : l.length = n) :
    (convert 22 9 (.slice (some ⟨g, 0, none⟩) n cap)).run Try.prog W = .ok (.string ⟨l.toArray⟩) W := by
  subst hl
  refine run_convert_bytes_back W 22 9 5 ⟨g, 0, none⟩ cap l Try.underlying22 Try.underlying5 Try.underlying9 fun j hj => ?_
  have hc := h.cells (g := g) rfl j (cb l[j]) (by rw [List.getElem?_map, List.getElem?_eq_getElem hj]; rfl)
  exact hc

/-- One of a list of numbers. -/
theorem pick_int (g : Nat) (v : Value) (n : Nat) (w : World) (hd : Dr w g v n) (b cap : Nat) (zs : List Int) (hc : Cel w b 3 (zs.map (Value.int .i64)).toArray) (hb : b ≠ g) (h0 : 0 < zs.length) (hl : zs.length ≤ 1000) :
    Calls Try.prog 64 #[.pointer (some ⟨g, 0, none⟩), .slice (some ⟨b, 0, none⟩) zs.length cap] w fun e w' => ∃ j : Fin zs.length, e = .returned (.int .i64 zs[j]) ∧ Dr w' g v n ∧ Only g w w' := by
  have cb := below_dr g v n zs.length w hd h0 (by omega)
  go_enter Try.func64, Try.ntmps64
  go_wp2_with (fail)
  with_reducible refine cb.mono ?_
  rintro e w1 ⟨r, hr, rfl, d1, o1⟩
  have hcell : w1.cell? ⟨b, r, none⟩ = some (.int .i64 (zs[r]'hr)) := by
    rw [(hc.only o1 hb).cell r]
    simp [hr]
  have q : (r : Int) < (zs.length : Int) := by omega
  have q0 : (0 : Int) ≤ (r : Int) := by omega
  go_wp2_with (fail)
  go_ret
  exact ⟨⟨r, hr⟩, rfl, d1, o1⟩

end Go.Proofs.Ytoeflkmhofkiaaa

namespace Go.Proofs.Ytoeflkmhofkiaaa
open Go.RowKit
set_option maxRecDepth 100000

/-- Block g is a row of bytes, whole. -/
def BBlk (W : World) (g : Nat) (d : Array UInt8) : Prop := W.heap[g]? = some (.cells (d.map cb) 5 (0, 0))

theorem BBlk.lt {W : World} {g : Nat} {d : Array UInt8} (h : BBlk W g d) : g < W.heap.size := (Array.getElem?_eq_some_iff.1 h).1

theorem BBlk.cell {W : World} {g : Nat} {d : Array UInt8} (h : BBlk W g d) (i : Nat) (hi : i < d.size) : ∃ v, W.cell? ⟨g, i, none⟩ = some v := by
  rw [cell_of_row _ _ _ _ _ _ h]
  exact ⟨_, Array.getElem?_eq_getElem (by simpa using hi)⟩

theorem BBlk.frozen {W : World} {g : Nat} {d : Array UInt8} (h : BBlk W g d) (i : Nat) : W.frozen? ⟨g, i, none⟩ = false := by
  have h' : W.heap[g]? = _ := h
  simp [World.frozen?, h']

theorem BBlk.other {W : World} {g : Nat} {d : Array UInt8} (h : BBlk W g d) (a : Addr) (v : Value) (ha : g ≠ a.block) : BBlk (W.setCell a v) g d := by
  show (W.setCell a v).heap[g]? = _
  rw [Below.heap_setCell _ _ _ _ ha]; exact h

theorem BBlk.set {W : World} {g : Nat} {d : Array UInt8} (h : BBlk W g d) (i : Nat) (x : UInt8) : BBlk (W.setCell ⟨g, i, none⟩ (cb x)) g (d.setIfInBounds i x) := by
  have h' : W.heap[g]? = _ := h
  show (W.heap.modify g _)[g]? = _
  rw [Array.getElem?_modify, if_pos rfl, h']
  simp only [Option.map_some, Option.isSome_none, Bool.false_eq_true, ↓reduceIte, Option.some.injEq, Obj.cells.injEq, and_true]
  rw [Array.map_setIfInBounds]

theorem BBlk.conv {W : World} {g : Nat} {d : Array UInt8} (h : BBlk W g d) (n : Nat) (hn : d.size = n) : (convert 22 9 (.slice (some ⟨g, 0, none⟩) n n)).run Try.prog W = .ok (.string ⟨d⟩) W := by
  have hl : d.toList.length = n := by simpa using hn
  have h2 := run_convert_bytes_back (P := Try.prog) W 22 9 5 ⟨g, 0, none⟩ n d.toList Try.underlying22 Try.underlying5 Try.underlying9 fun j hj => by
    have hadd : (⟨g, 0, none⟩ : Addr).add j = ⟨g, j, none⟩ := by unfold Addr.add; split <;> simp_all
    rw [hadd, cell_of_row _ _ _ _ _ _ h]
    have hj' : j < d.size := by simpa using hj
    rw [Array.getElem?_map, Array.getElem?_eq_getElem hj']
    simp [cb]
  rw [hl, Array.toArray_toList] at h2
  exact h2

theorem makeRow (n : Nat) (hn : n ≤ 1000000) (W : World) :
    (Instr.makeSlice 22 (.int .i64 (n : Int)) (.int .i64 (n : Int))).run Try.prog W = .ok (.slice (some ⟨W.heap.size, 0, none⟩) n n) (W.alloc (.cells ((Array.replicate n (0 : UInt8)).map cb) 5)) := by
  obtain ⟨i0, hi, hz0, hz1, hz2⟩ := info_parts info5
  have h := run_makeSlice (P := Try.prog) W 22 5 i0 _ Try.underlying22 hi hz0 .i64 .i64 (n : Int) (n : Int) (by omega) (by omega) (by rw [hz1]; simp; omega) (by rw [hz2]; omega) (by omega)
  rw [h, hz1]
  have e : madeCells (Value.int .u8 0).cells ((n : Int).toNat * 1) = (Array.replicate n (0 : UInt8)).map cb := by
    apply Array.ext
    · simp [madeCells, Value.cells]
    · intro i h1 h2
      simp [madeCells, Value.cells, cb, Nat.mod_one]
  rw [e]
  rfl

end Go.Proofs.Ytoeflkmhofkiaaa

namespace Go.Proofs.Ytoeflkmhofkiaaa
open Go.RowKit
set_option maxRecDepth 100000

/-- The first k bytes are x, the others zero. -/
def laidOf (n : Nat) (x : UInt8) (k : Nat) : Array UInt8 := (List.replicate k x ++ List.replicate (n - k) 0).toArray

theorem laidOf_size (n : Nat) (x : UInt8) (k : Nat) (h : k ≤ n) : (laidOf n x k).size = n := by
  unfold laidOf; simp; omega

theorem laidOf_succ (n : Nat) (x : UInt8) (k : Nat) (h : k < n) : laidOf n x (k + 1) = (laidOf n x k).setIfInBounds k x := by
  unfold laidOf
  apply Array.toList_inj.1
  simp only [Array.toList_setIfInBounds]
  have e : n - k = (n - (k + 1)) + 1 := by omega
  rw [e, show List.replicate (n - (k + 1) + 1) (0 : UInt8) = 0 :: List.replicate (n - (k + 1)) 0 from rfl, List.set_append_right _ _ (by simp), List.replicate_succ']
  simp

attribute [irreducible] laidOf

set_option maxHeartbeats 400000 in
theorem spec_long (n : Nat) (x : UInt8) (w : World) (hn : n ≤ 1000000) :
    Calls Try.prog 70 #[.int .i64 (n : Int), .int .u8 (x.toNat : Int)] w fun e w' => e = .returned (.string ⟨(List.replicate n x).toArray⟩) ∧ Below w.heap.size w w' := by
  have hmk := makeRow n hn
  have hb0 : BBlk (w.alloc (.cells ((Array.replicate n (0 : UInt8)).map cb) 5)) w.heap.size (laidOf n x 0) := by
    show (w.heap.push _)[w.heap.size]? = _
    unfold laidOf
    simp
  have hB0 : Below w.heap.size w (w.alloc (.cells ((Array.replicate n (0 : UInt8)).map cb) 5)) := (Below.refl _ _).alloc (Nat.le_refl _) _
  have hend : (laidOf n x n).toList = List.replicate n x := by unfold laidOf; simp
  generalize List.replicate n x = fin at hend
  generalize (Array.replicate n (0 : UInt8)).map cb = z at hmk hb0 hB0
  go_enter Try.func70, Try.ntmps70
  go_wp2_with (fail)
  clear hmk
  go_loopw [6] (fun i wr => ∃ k : Nat, k ≤ n ∧ i = .int .i64 k ∧ BBlk wr w.heap.size (laidOf n x k) ∧ Below w.heap.size w wr) (fun i _ => n - (intOf i).toNat)
  case atStart => exact ⟨0, by omega, rfl, hb0, hB0⟩
  case round =>
    clear hb0 hB0
    obtain ⟨k, hk, rfl, hb, hB⟩ := hrel
    by_cases hlt : k < n
    · have q : (k : Int) < (n : Int) := by omega
      have hsucc := laidOf_succ n x k hlt
      obtain ⟨v0, o0⟩ := hb.cell k (by rw [laidOf_size n x k (by omega)]; exact hlt)
      have hf := hb.frozen k
      go_wp2_with (fail)
      go_roundw
      case rel =>
        refine ⟨k + 1, by omega, by go_num, ?_, hB.setCell (Nat.le_refl _) _⟩
        rw [hsucc]
        exact hb.set k x
      case measure => simp [intOf]; omega
    · obtain rfl : k = n := by omega
      have q : ¬ ((k : Int) < (k : Int)) := by omega
      have hcv := hb.conv k (laidOf_size k x k (by omega))
      have e2 : (⟨laidOf k x k⟩ : ByteArray) = ⟨fin.toArray⟩ := by rw [← hend]
      rw [e2] at hcv
      clear hend e2
      go_wp2_with (fail)
      go_ret
      exact ⟨rfl, hB⟩


theorem long_dr (n : Nat) (r : Nat) (hr : r ≤ 255) (i : Int) (hi : (n : Int) = i) (w : World) (hn : n ≤ 1000000) :
    Calls Try.prog 70 #[.int .i64 i, .int .u8 (r : Int)] w fun e w' => (∃ s, e = .returned (.string s)) ∧ Below w.heap.size w w' := by
  subst hi
  have h := spec_long n (UInt8.ofNat r) w hn
  rw [show (UInt8.ofNat r).toNat = r by simp; omega] at h
  exact h.mono fun _ _ ⟨h1, h2⟩ => ⟨⟨_, h1⟩, h2⟩
end Go.Proofs.Ytoeflkmhofkiaaa

namespace Go.Proofs.Ytoeflkmhofkiaaa
open Go.RowKit
set_option maxRecDepth 100000

theorem big_call (v : Value) (n : Nat) (w : World) (hv : RdB w v n) :
    Calls Try.prog 11 #[v] w fun e w' => e = .returned (.bool (decide (1048576 < n))) ∧ w = w' := by
  obtain ⟨a, c, rfl, _⟩ := hv
  by_cases h : 1048576 < n
  · have q : (1048576 : Int) < (n : Int) := by omega
    go_enter Try.func11, Try.ntmps11
    go_wp2
    go_ret
    simp [h]
  · have q : ¬ ((1048576 : Int) < (n : Int)) := by omega
    go_enter Try.func11, Try.ntmps11
    go_wp2
    go_ret
    refine ⟨?_, rfl⟩

    rfl
end Go.Proofs.Ytoeflkmhofkiaaa

namespace Go.Proofs.Ytoeflkmhofkiaaa
open Go.ChangeShapes Go.WideShapes Go.ChangeAt Go.RowKit
set_option maxRecDepth 100000

theorem Try.own : ownKnob Try.prog.godebug = none := by kernel_rfl
theorem Try.laidOut : laidOutB Try.prog = true := by kernel_rfl

section
variable {H : Type} {enc : TypeId × Value → H} {P : Program}

theorem trodAll_stays (hl : laidOutB P = true) {W W' : World} (hb : Below W.heap.size W W') :
    ∀ (ts : List TypeId) (vs : List Value) (ds : List (DataW H)) (ps : List MemPlace), (∀ t ∈ ts, P.readableRec t = true ∧ t < P.types.size) →
      DataW.TrodAll enc P W 0 (fun _ => true) true ts vs ds ps → (∀ x ∈ ps, x.block < W.heap.size) → DataW.TrodAll enc P W' 0 (fun b => decide (b < W.heap.size)) true ts vs ds ps
  | [], _, _, _, _, h, _ => by
    obtain ⟨rfl, rfl, rfl⟩ := trodAll_nil h
    exact trodAll_mk0
  | t :: ts, vs, ds, ps, hts, h, hlt => by
    obtain ⟨v, vs, d, ds, p, q, rfl, rfl, rfl, h0, h1⟩ := trodAll_cons h
    have h2 := hts t (by simp)
    exact trodAll_cons_mk (Below.trod hl h2.1 h2.2 h0 hb (fun x hx => hlt x (by simp [hx]))) (trodAll_stays hl hb ts vs ds q (fun t ht => hts t (by simp [ht])) h1 (fun x hx => hlt x (by simp [hx])))

/-- WHAT IS OWED BEHIND A LAW's WALK: it has answered true, and nothing below the heap's size has turned; the program's own variables among them. -/
theorem law_post {f : Func} {s : ChangeSpec} {apart : Bool} {W W' : World} {args : Array Value} {ds gs : List (DataW H)} {before : List MemPlace} {tb : TypeId}
    (hl : laidOutB P = true) (hts : f.params.toList.all (fun t => P.readableRec t && decide (t < P.types.size)) = true) (hv : varsRowed P s.vars = true) (hr : f.resultTypes = #[tb]) (htb : P.underlying tb = some .bool)
    (hW : DataW.Whole enc P f.params.toList s.vars apart W args.toList ds gs before)
    (hs : (s.fn H (ds ++ gs)).results = [.lit (.bool true)] ∧ (s.fn H (ds ++ gs)).args = ds ∧ (s.fn H (ds ++ gs)).vars = gs)
    (hb : Below W.heap.size W W') : s.post enc P f apart true false false W args (.bool true) W' := by
  have hW0 := hW
  obtain ⟨p, q, hA, hV, rfl, hz, hn⟩ := hW
  refine ⟨ds, gs, _, [], p, q, hW0, ?_, ?_, ?_, hb.frame _, fun h => by cases h⟩
  · rw [hs.1, hr]
    exact trodAll_mk1 (shut_bool htb _)
  · rw [hs.2.1]
    exact trodAll_stays hl hb _ _ _ _ (fun t ht => by have := List.all_eq_true.1 hts t ht; simpa using this) hA (fun x hx => by simpa using hW0.lt x (by simp [hx]))
  · rw [hs.2.2]
    exact Below.trodVars hl hb hv hV

/-- One variable, two variables: their readings are one datum, two. -/
theorem vars_one {W : World} {ok : Nat → Bool} {n : String} {gs : List (DataW H)} {ps : List MemPlace} (h : DataW.TrodVars enc P W ok [n] gs ps) : ∃ g1, gs = [g1] := by
  match gs, h with
  | [g1], _ => exact ⟨g1, rfl⟩
  | _ :: _ :: _, h => obtain ⟨_, _, _, _, _, _, _, _, _, _, h, _⟩ := h; exact h.elim

theorem vars_none {W : World} {ok : Nat → Bool} {gs : List (DataW H)} {ps : List MemPlace} (h : DataW.TrodVars enc P W ok [] gs ps) : gs = [] := by
  match gs, h with
  | [], _ => rfl
  | _ :: _, h => exact h.elim

theorem vars_two {W : World} {ok : Nat → Bool} {n m : String} {gs : List (DataW H)} {ps : List MemPlace} (h : DataW.TrodVars enc P W ok [n, m] gs ps) : ∃ g1 g2, gs = [g1, g2] := by
  match gs, h with
  | [_], h => obtain ⟨_, _, _, _, _, _, _, _, _, _, h, _⟩ := h; exact h.elim
  | g1 :: gs, h =>
    obtain ⟨_, _, _, _, _, _, _, _, _, _, h, _⟩ := h
    obtain ⟨g2, rfl⟩ := vars_one h
    exact ⟨g1, g2, rfl⟩
end
end Go.Proofs.Ytoeflkmhofkiaaa

namespace Go.Proofs.Ytoeflkmhofkiaaa
open Go.ChangeShapes Go.WideShapes Go.ChangeAt Go.RowKit
set_option maxRecDepth 100000

theorem cells5 : Try.prog.cellsOf 5 = 1 := by kernel_rfl

set_option maxRecDepth 100000 in
/-- A slice of bytes that came in can be read. -/
theorem open_code {H : Type} {enc : TypeId × Value → H} {W : World} {base : Nat} {v : Value} {d : DataW H} {p : List MemPlace} (hval : Value.okWide Try.prog W .any base 22 v)
    (h : DataW.Trod enc Try.prog W 0 (fun _ => true) true 22 v d p) : ∃ n, RdB W v n := by
  obtain ⟨a0, len, cap, rfl⟩ := okWide_slice Try.underlying22 hval
  obtain ⟨fuel, hf⟩ := h
  rcases open_ints Try.underlying22 Try.underlying5 cells5 hf with ⟨hcs, hx⟩ | ⟨a, len', cap', zs, hcs, _, hl, hm, hz, hx, hcell, hwz⟩
  · simp [Value.cells] at hcs
    obtain ⟨rfl, rfl, rfl⟩ := hcs
    exact ⟨0, none, 0, rfl, fun h => by omega⟩
  · simp [Value.cells] at hcs
    obtain ⟨rfl, rfl, rfl⟩ := hcs
    simp only [if_true] at hz
    refine ⟨len, some a, cap, rfl, fun h0 => ?_⟩
    obtain ⟨b, off, spot⟩ := a
    cases spot with
    | some sp =>
      have h := hcell 0 (by omega)
      simp only [World.cell?] at h
      unfold Addr.add at h
      split at h <;> simp_all
    | none =>
      refine ⟨b, off, rfl, fun j hj => ?_⟩
      have h := hcell j (by omega)
      have hadd : (⟨b, off, none⟩ : Addr).add j = ⟨b, off + j, none⟩ := by unfold Addr.add; split <;> simp_all
      rw [hadd] at h
      have hw := hwz (zs.getD j 0) (by rw [List.getD, List.getElem?_eq_getElem (by omega)]; exact List.getElem_mem _)
      have hb := bounds_u8 hw
      refine ⟨(zs.getD j 0).toNat, by omega, ?_⟩
      rw [h, Int.toNat_of_nonneg hb.1]
end Go.Proofs.Ytoeflkmhofkiaaa

/-
  The contract of strings.Clone's inner function, laid at this seat's translation.
-/
namespace Go.Proofs
open Go.Shelf
def Try.laysM316_ren : Go.Shelf.Ren := ⟨fun | 316 => 71 | n => n, fun | 9 => 9 | 3 => 3 | 4 => 4 | 37 => 22 | 0 => 0 | 127 => 101 | 5 => 5 | n => n, fun | n => n⟩
theorem Try.laysM316 : Go.Proofs.LaysM.n316 Try.prog Try.laysM316_ren := {
  mixed := by kernel_rfl
  f316 := Try.func71.trans (congrArg some (by kernel_rfl))
  t0 := Try.underlying0
  a0 := Try.isAgg0
  z0 := Try.sizeOf0
  v0 := Try.zeroValue0
  t3 := Try.underlying3
  a3 := Try.isAgg3
  z3 := Try.sizeOf3
  v3 := Try.zeroValue3
  t4 := Try.underlying4
  a4 := Try.isAgg4
  z4 := Try.sizeOf4
  v4 := Try.zeroValue4
  t9 := Try.underlying9
  a9 := Try.isAgg9
  z9 := Try.sizeOf9
  v9 := Try.zeroValue9
  t37 := Try.underlying22
  a37 := Try.isAgg22
  z37 := Try.sizeOf22
  v37 := Try.zeroValue22
  t127 := Try.underlying101
  a127 := Try.isAgg101
  z127 := Try.sizeOf101
  v127 := Try.zeroValue101
  t5 := Try.underlying5
  a5 := Try.isAgg5
  z5 := Try.sizeOf5
  v5 := Try.zeroValue5
  i0 := by kernel_rfl
  i3 := by kernel_rfl
  i4 := by kernel_rfl
  i5 := by kernel_rfl
  i9 := by kernel_rfl
  i37 := by kernel_rfl
  i127 := by kernel_rfl }
open Go.RowKit in
theorem Try.stringslite_Clone (s : ByteArray) (w : World) (hlim : s.size ≤ 281474976710656) :
    Calls Try.prog 71 #[.string s] w fun e w' => e = .returned (.string s) ∧ Below w.heap.size w w' := Any.stringslite_Clone Try.laysM316 s w hlim
end Go.Proofs

namespace Go.Proofs.Ytoeflkmhofkiaaa
open Go.RowKit
set_option maxRecDepth 100000

theorem slice_part (t : ByteArray) (a b : Int) (h0 : 0 ≤ a) (h1 : a ≤ b) (h2 : b ≤ (t.size : Int)) (W : World) :
    (Instr.slice 9 (.string t) (some (.int .i64 a)) (some (.int .i64 b)) none).run Try.prog W = .ok (.string (t.extract a.toNat b.toNat)) W := by
  have h3 : ((t.size : Nat) : Int) ≤ (t.size : Int) := Int.le_refl _
  have h4 : 0 ≤ b := by omega
  have h5 : ¬ max b 0 < a := by omega
  simp [Instr.slice, run_underlying Try.underlying9, Instr.sliceBounds, Instr.sliceBound, asIntOf, h0, h2, h4, h5]

/-- The bytes that are asked exist. -/
def Part (s : ByteArray) (a m : Int) : Prop := 0 ≤ a ∧ 0 ≤ m ∧ a + m ≤ (s.size : Int)

theorem extract_le (s : ByteArray) (a b : Nat) : (s.extract a b).size ≤ s.size := by
  simp only [ByteArray.size_extract]; omega
end Go.Proofs.Ytoeflkmhofkiaaa

namespace Go.Proofs.Ytoeflkmhofkiaaa
open Go.RowKit
set_option maxRecDepth 100000


theorem clone_call (s : ByteArray) (w : World) (hs : s.size ≤ 281474976710656) :
    Calls Try.prog 55 #[.string s] w fun e w' => e = .returned (.string s) ∧ Below w.heap.size w w' := by
  have c1 := fun W => Try.stringslite_Clone s W hs
  go_enter Try.func55, Try.ntmps55
  go_wp2_with (go_at_call 71; (with_reducible refine (c1 _).mono ?_); rintro e w1 ⟨rfl, hb1⟩)
  go_ret
  exact ⟨rfl, hb1⟩

end Go.Proofs.Ytoeflkmhofkiaaa

