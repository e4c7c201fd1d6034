import Derived.Test.YtoeflkmhofkiaaaEkz
import Derived.Laws.Tables
import Derived.Test.YtoeflkmhofkiaaaZ1
import Derived.Lib.SmallJoins
import Derived.Deep.Slices
namespace Go.Proofs.Ytoeflkmhofkiaaa
open Go.RowKit
set_option maxRecDepth 100000

/-! Wide structs in closed form: the whole of a block loaded, stored. -/
theorem yes_load_row {oi : Oper} {a : Act} {W : World} (ty : TypeId) (x : Operand) (ho : oi.op = .load ty x) (g : Nat) (hx : a.eval x = .pointer (some ⟨g, 0, none⟩)) (v : Value) (hl : (loadVar ty ⟨g, 0, none⟩).run Try.prog W = .ok v W) : (execOp a.eval oi).run Try.prog W = .ok (.value v) W := by
  unfold execOp
  simp only [ho, hx, Instr.loadAt, Instr.sureAddr, Sem.run_bind, Sem.run_pure, Result.andThen_ok, hl]
theorem step_store_row {ops : Array Oper} {o : Oper} {a : Act} {W : World} {K' : Act → World → Prop} {Q : Exit → Act → World → Prop} {E : Prop} (hgd : o.guard = none) (ty : TypeId) (x y : Operand) (ho : o.op = .store ty x y)
    (g : Nat) (cs : Array Value) (hx : a.eval x = .pointer (some ⟨g, 0, none⟩)) (hy : a.eval y = .agg cs) (t : TypeId) (old : Array Value) (hg : W.heap[g]? = some (.cells old t (0, 0))) (hi : (Try.prog.info? ty).map (·.size) = some cs.size)
    (hold : old.size = cs.size) (h1 : cs.all (·.oneCell') = true) (h : K' (a.put o.dst undef) (W.setRow g cs)) :
    if Region.wanted o (yielded ops a.tmps) = true then Oper.wp Try.prog o a W K' Q else E := by
  have hw : Region.wanted o (yielded ops a.tmps) = true := by simp [Region.wanted, hgd]
  rw [if_pos hw]
  exact wp_store_row ty x y ho g cs hx hy t old hg hi hold h1 h
theorem below_row {B g : Nat} {w W : World} (h : Below B w W) (hg : B ≤ g) (cs : Array Value) : Below B w (W.setRow g cs) :=
  ⟨h.os, h.tape, h.output, by rw [show ∀ (W : World) g cs, (W.setRow g cs).heap.size = W.heap.size from fun W g cs => by simp [World.setRow]]; exact h.size, fun k hk => by
    show ((World.heap _).modify _ _)[k]? = _
    rw [Array.getElem?_modify, if_neg (by omega)]
    exact h.block k hk⟩
end Go.Proofs.Ytoeflkmhofkiaaa

namespace Go.Proofs.Ytoeflkmhofkiaaa
open Go.RowKit
set_option maxRecDepth 100000

/-- Structs of 5 numbers as elements of a row. -/
def tvK : EK Tv where
  t := 39
  n := 5
  cs := fun m => [.int .i64 m.kind, .int .i64 m.one, .int .i64 m.two, .int .i64 m.a, .int .i64 m.b]
  len := fun _ => rfl
  pos := by decide
  one := fun p u hu => by
    simp only [List.mem_cons, List.not_mem_nil, or_false] at hu
    rcases hu with rfl | rfl | rfl | rfl | rfl <;> rfl
  zero := Tv.zero
  zv := .agg #[.int .i64 0, .int .i64 0, .int .i64 0, .int .i64 0, .int .i64 0]
  zcs := rfl
  bytes := 40
  bnd := by decide
  wid := by decide
  info := by kernel_rfl
abbrev RdT := RdE tvK
abbrev OwnT := OwnE tvK
theorem sizeTv (p : Tv) : (Try.prog.info? 39).map (·.size) = some ((#[.int .i64 p.kind, .int .i64 p.one, .int .i64 p.two, .int .i64 p.a, .int .i64 p.b] : Array Value)).size := by show _ = some 5; kernel_rfl
theorem tv_at {W : World} {P : Program} {a : Option Addr} {n c : Nat} {xs : List Tv} (h : RdT W (.slice a n c) xs) (i : Nat) (hi : i < xs.length) :
    ∃ b off, a = some ⟨b, off, none⟩ ∧ b < W.heap.size ∧ W.cell? ⟨b, off + i * 5, none⟩ = some (.int .i64 xs[i].kind) ∧ W.cell? ⟨b, off + i * 5 + 1, none⟩ = some (.int .i64 xs[i].one) ∧ W.cell? ⟨b, off + i * 5 + 2, none⟩ = some (.int .i64 xs[i].two) ∧ W.cell? ⟨b, off + i * 5 + 3, none⟩ = some (.int .i64 xs[i].a) ∧ W.cell? ⟨b, off + i * 5 + 4, none⟩ = some (.int .i64 xs[i].b) ∧
      (loadCells ⟨b, off + i * 5, none⟩ 5).run P W = .ok #[.int .i64 xs[i].kind, .int .i64 xs[i].one, .int .i64 xs[i].two, .int .i64 xs[i].a, .int .i64 xs[i].b] W := by
  obtain ⟨b, off, h1, h2, h3, h4⟩ := RdE.at (P := P) h i hi
  exact ⟨b, off, h1, h2, h3 0 (by decide), h3 1 (by decide), h3 2 (by decide), h3 3 (by decide), h3 4 (by decide), h4⟩
theorem tv_own {W : World} {B C : Nat} {g n cap : Nat} {xs : List Tv} (h : OwnT W B C (.slice (some ⟨g, 0, none⟩) n cap) xs) (i : Nat) (hi : i < xs.length) :
    W.cell? ⟨g, i * 5, none⟩ = some (.int .i64 xs[i].kind) ∧ W.cell? ⟨g, i * 5 + 1, none⟩ = some (.int .i64 xs[i].one) ∧ W.cell? ⟨g, i * 5 + 2, none⟩ = some (.int .i64 xs[i].two) ∧ W.cell? ⟨g, i * 5 + 3, none⟩ = some (.int .i64 xs[i].a) ∧ W.cell? ⟨g, i * 5 + 4, none⟩ = some (.int .i64 xs[i].b) ∧ (∀ j, W.frozen? ⟨g, j, none⟩ = false) ∧ g < W.heap.size ∧ W.there g (i * 5) 5 := by
  obtain ⟨h1, h2, h3, h4⟩ := OwnE.at h i hi
  exact ⟨h1 0 (by decide), h1 1 (by decide), h1 2 (by decide), h1 3 (by decide), h1 4 (by decide), h2, h3, h4⟩
theorem tv_putC {W : World} {B C : Nat} {g n cap : Nat} {xs : List Tv} (h : OwnT W B C (.slice (some ⟨g, 0, none⟩) n cap) xs) (i : Nat) (hi : i < xs.length) (x : Tv) :
    OwnT (W.setCells g (i * 5) [.int .i64 x.kind, .int .i64 x.one, .int .i64 x.two, .int .i64 x.a, .int .i64 x.b]) B C (.slice (some ⟨g, 0, none⟩) n cap) (xs.set i x) := OwnE.put h i hi x
theorem cel5tv {W : World} {g : Nat} {t : TypeId} {x0 x1 x2 x3 x4 : Value} (h : Cel W g t #[x0, x1, x2, x3, x4]) : W.cell? ⟨g, 0, none⟩ = some x0 ∧ W.cell? ⟨g, 1, none⟩ = some x1 ∧ W.cell? ⟨g, 2, none⟩ = some x2 ∧ W.cell? ⟨g, 3, none⟩ = some x3 ∧ W.cell? ⟨g, 4, none⟩ = some x4 := ⟨h.cell 0, h.cell 1, h.cell 2, h.cell 3, h.cell 4⟩
theorem below_tv (w : World) (p : Tv) : Below w.heap.size w (w.alloc (.cells #[.int .i64 p.kind, .int .i64 p.one, .int .i64 p.two, .int .i64 p.a, .int .i64 p.b] 39)) := below_new _ _
theorem rd_tvbox {W : World} {b : Nat} {m : Tv} (h : Cel W b 39 #[.int .i64 m.kind, .int .i64 m.one, .int .i64 m.two, .int .i64 m.a, .int .i64 m.b]) : RdT W (.slice (some ⟨b, 0, none⟩) 1 1) [m] :=
  (OwnE.of_cel (K := tvK) (B := 0) (C := b + 1) (xs := [m]) h (Nat.zero_le _) (Nat.lt_succ_self _) (by simp [maxLen])).rd
/-! Numbers that Go can make. -/
def IntW (n : Int) : Prop := (Lit.int .i64 n).wf = true
def TvW (t : Tv) : Prop := IntW t.kind ∧ IntW t.one ∧ IntW t.two ∧ IntW t.a ∧ IntW t.b
def KnW (ks : List Int) (ts : List Tv) : Prop := (∀ n ∈ ks, IntW n) ∧ ∀ t ∈ ts, TvW t
end Go.Proofs.Ytoeflkmhofkiaaa

namespace Go.Proofs.Ytoeflkmhofkiaaa
open Go.RowKit
set_option maxRecDepth 100000

/-- Only the cursor's block, then only what lies above what was there. -/
theorem Grew.then {g : Nat} {w W W' : World} (h : Grew g w W) (k : Below w.heap.size W W') : Grew g w W' :=
  ⟨k.os.trans h.os, k.tape.trans h.tape, k.output.trans h.output, Nat.le_trans h.size k.size, fun i hi hn => (k.block i hi).trans (h.block i hi hn)⟩
theorem Grew.only {g : Nat} {w W W' : World} (h : Grew g w W) (k : Only g W W') : Grew g w W' := h.trans k.grew
theorem bel_dr (g : Nat) (v : Value) (n k : Nat) (i : Int) (hi : (k : Int) = i) (w : World) (hd : Dr w g v n) (h0 : 0 < k) (hk : k ≤ 1000000000) :
    Calls Try.prog 65 #[.pointer (some ⟨g, 0, none⟩), .int .i64 i] w fun e w' => ∃ r : Nat, r < k ∧ e = .returned (.int .i64 (r : Int)) ∧ Dr w' g v n ∧ Only g w w' := by
  subst hi
  exact below_dr g v n k w hd h0 hk
theorem pick_mem (g : Nat) (v : Value) (n : Nat) (w : World) (hd : Dr w g v n) (b cap k : Nat) (cs : Array Value) (zs : List Int) (hk : zs.length = k) (hcs : (zs.map (Value.int .i64)).toArray = cs) (hc : Cel w b 3 cs) (hb : b ≠ g) (h0 : 0 < k) (hl : k ≤ 1000) :
    Calls Try.prog 64 #[.pointer (some ⟨g, 0, none⟩), .slice (some ⟨b, 0, none⟩) k cap] w fun e w' => ∃ z : Int, z ∈ zs ∧ e = .returned (.int .i64 z) ∧ Dr w' g v n ∧ Only g w w' := by
  subst hk hcs
  exact (pick_int g v n w hd b cap zs hc hb h0 hl).mono fun _ _ ⟨j, h1, h2, h3⟩ => ⟨_, List.getElem_mem _, h1, h2, h3⟩
set_option maxHeartbeats 1000000 in
set_option maxRecDepth 100000 in
theorem once_dr (g : Nat) (v : Value) (n k : Nat) (i : Int) (hi : (k : Int) = i) (w : World) (hd : Dr w g v n) (h0 : 0 < k) (hk : k ≤ 1000000000) :
    Calls Try.prog 63 #[.pointer (some ⟨g, 0, none⟩), .int .i64 i] w fun e w' => ∃ b : Bool, e = .returned (.bool b) ∧ Dr w' g v n ∧ Only g w w' := by
  have cb := bel_dr g v n k i hi w hd h0 hk
  clear hi
  go_enter Try.func63, Try.ntmps63
  go_wp2_with (fail)
  with_reducible refine cb.mono ?_
  rintro e w1 ⟨r, hr, rfl, d1, o1⟩
  go_wp2_with (fail)
  go_ret
  exact ⟨_, rfl, d1, o1⟩
theorem OwnE.only {α : Type} {K : EK α} {g B C : Nat} {w w' : World} {v : Value} {ms : List α} (h : OwnE K w B C v ms) (ho : Only g w w') (hB : g < B) : OwnE K w' B C v ms :=
  h.keepAt fun k hk => ho.at_ k (by have := (h.block k hk).1; omega)
theorem OwnE.grew {α : Type} {K : EK α} {g B : Nat} {w w' : World} {v : Value} {ms : List α} (h : OwnE K w B w.heap.size v ms) (ho : Grew g w w') (hB : g < B) : OwnE K w' B w'.heap.size v ms :=
  (h.grown ho (Nat.le_refl _) (fun k hk e => by injection e with e; have := (h.block k hk).1; omega)).mono (Nat.le_refl _) ho.size
theorem below_ints (W : World) (cs : Array Value) : Below W.heap.size W (W.alloc (.cells cs 3)) := below_new _ _

/-- A draw of a small struct under way: the result's block, the struct's box. -/
structure Gd (t : TypeId) (cs0 cs : Array Value) (w W : World) (g : Nat) (v : Value) (n bx : Nat) : Prop where
  c : Cel W w.heap.size t cs0
  b : Cel W bx t cs
  d : Dr W g v n
  gr : Grew g w W
  lt : w.heap.size < bx
  hg : g < w.heap.size
section
variable {t : TypeId} {cs0 cs : Array Value} {w W W' : World} {g n bx : Nat} {v : Value}
theorem Gd.only (h : Gd t cs0 cs w W g v n bx) (ho : Only g W W') (hd : Dr W' g v n) : Gd t cs0 cs w W' g v n bx :=
  have h1 := h.lt
  have h2 := h.hg
  ⟨h.c.only ho (by omega), h.b.only ho (by omega), hd, h.gr.only ho, h.lt, h.hg⟩
theorem Gd.kept (h : Gd t cs0 cs w W g v n bx) (hb : Below W.heap.size W W') : Gd t cs0 cs w W' g v n bx :=
  ⟨h.c.kept hb, h.b.kept hb, h.d.kept hb, h.gr.then (hb.mono h.gr.size), h.lt, h.hg⟩
theorem Gd.set (h : Gd t cs0 cs w W g v n bx) (i : Nat) (x : Value) : Gd t cs0 (cs.setIfInBounds i x) w (W.setCell ⟨bx, i, none⟩ x) g v n bx := by
  have h1 := h.lt
  have hB : Below bx W (W.setCell ⟨bx, i, none⟩ x) := (Below.refl _ _).setCell (p := ⟨bx, i, none⟩) (Nat.le_refl _) _
  exact ⟨h.c.below hB h1, h.b.set i x, h.d.below hB (by have := h.hg; omega), h.gr.then (hB.mono (by omega)), h.lt, h.hg⟩
end
end Go.Proofs.Ytoeflkmhofkiaaa

namespace Go.Proofs.Ytoeflkmhofkiaaa
open Go.RowKit
set_option maxRecDepth 100000

theorem below_sets5 (w W : World) (x0 x1 x2 x3 x4 : Value) : Below w.heap.size W (((((W.setCell ⟨w.heap.size, 0, none⟩ (x0)).setCell ⟨w.heap.size, 1, none⟩ (x1)).setCell ⟨w.heap.size, 2, none⟩ (x2)).setCell ⟨w.heap.size, 3, none⟩ (x3)).setCell ⟨w.heap.size, 4, none⟩ (x4)) :=
  ((((((Below.refl _ _).setCell (p := ⟨w.heap.size, 0, none⟩) (Nat.le_refl _) _).setCell (p := ⟨w.heap.size, 1, none⟩) (Nat.le_refl _) _).setCell (p := ⟨w.heap.size, 2, none⟩) (Nat.le_refl _) _).setCell (p := ⟨w.heap.size, 3, none⟩) (Nat.le_refl _) _).setCell (p := ⟨w.heap.size, 4, none⟩) (Nat.le_refl _) _)
theorem intW_small (r : Int) (h0 : 0 ≤ r) (h1 : r ≤ 1000000) : IntW r := WalkArith.wf_i64 (by omega)

set_option maxHeartbeats 4000000 in
set_option maxRecDepth 100000 in
theorem tag_dr (g : Nat) (v : Value) (n : Nat) (w : World) (hd : Dr w g v n) :
    Calls Try.prog 74 #[.pointer (some ⟨g, 0, none⟩)] w fun e w' => ∃ m : Tv, e = .returned (.agg #[.int .i64 m.kind, .int .i64 m.one, .int .i64 m.two, .int .i64 m.a, .int .i64 m.b]) ∧ TvW m ∧ Dr w' g v n ∧ Grew g w w' := by
  have hg := hd.blk
  have hb0 := below_new w (.cells #[.int .i64 0, .int .i64 0, .int .i64 0, .int .i64 0, .int .i64 0] 39)
  have hd0 := hd.kept hb0
  have hC0 := Cel.new w 39 #[.int .i64 0, .int .i64 0, .int .i64 0, .int .i64 0, .int .i64 0]
  have c4 := fun W h => bel_dr g v n 4 4 rfl W h (by omega) (by omega)
  have c3 := fun W h => bel_dr g v n 3 3 rfl W h (by omega) (by omega)
  have HE0 := Lib.hid (And.intro hC0 (Grew.then (Grew.refl g w) hb0))
  clear hb0 hC0 hd
  go_enter Try.func74, Try.ntmps74
  go_wp2_with (fail)
  with_reducible refine (c4 _ hd0).mono ?_
  rintro e w1 ⟨r1, hr1, rfl, hd1, o1⟩
  have HE1 := Lib.hid (And.intro (HE0.out.1.only o1 (by omega)) (HE0.out.2.only o1))
  clear HE0 o1 hd0
  go_wp2_with (fail)
  with_reducible refine (c3 _ hd1).mono ?_
  rintro e w2 ⟨r2, hr2, rfl, hd2, o2⟩
  have HE2 := Lib.hid (And.intro (HE1.out.1.only o2 (by omega)) (HE1.out.2.only o2))
  have e2 : IntKind.i64.wrap (1 + (r2 : Int)) = 1 + (r2 : Int) := IntWalk.i64_in _ (by omega)
  clear HE1 o2 hd1
  go_wp2_with (fail)
  with_reducible refine (c3 _ hd2).mono ?_
  rintro e w3 ⟨r3, hr3, rfl, hd3, o3⟩
  have HE3 := Lib.hid (And.intro (HE2.out.1.only o3 (by omega)) (HE2.out.2.only o3))
  have e3 : IntKind.i64.wrap (1 + (r3 : Int)) = 1 + (r3 : Int) := IntWalk.i64_in _ (by omega)
  clear HE2 o3 hd2
  go_wp2_with (fail)
  with_reducible refine (c4 _ hd3).mono ?_
  rintro e w4 ⟨r4, hr4, rfl, hd4, o4⟩
  have HE4 := Lib.hid (And.intro (HE3.out.1.only o4 (by omega)) (HE3.out.2.only o4))
  clear HE3 o4 hd3
  go_wp2_with (fail)
  with_reducible refine (c4 _ hd4).mono ?_
  rintro e w5 ⟨r5, hr5, rfl, hd5, o5⟩
  have HE5 := Lib.hid (And.intro (HE4.out.1.only o5 (by omega)) (HE4.out.2.only o5))
  clear HE4 o5 hd4
  have hC := HE5.out.1
  obtain ⟨k0, k1, k2, k3, k4⟩ := cel5tv hC
  have f0 := hC.frozen 0
  have f1 := hC.frozen 1
  have f2 := hC.frozen 2
  have f3 := hC.frozen 3
  have f4 := hC.frozen 4
  have HG := Lib.hid (And.intro HE5.out.2 hd5)
  have hTW : TvW ⟨r1, 1 + (r2 : Int), 1 + (r3 : Int), r4, r5⟩ := ⟨intW_small (r1 : Int) (by omega) (by omega), intW_small (1 + (r2 : Int)) (by omega) (by omega), intW_small (1 + (r3 : Int)) (by omega) (by omega), intW_small (r4 : Int) (by omega) (by omega), intW_small (r5 : Int) (by omega) (by omega)⟩
  clear HE5 hC hd5 c3 c4
  go_wp2_with (fail)
  have hB5 := below_sets5 w w5 (.int .i64 (r1 : Int)) (.int .i64 (1 + (r2 : Int))) (.int .i64 (1 + (r3 : Int))) (.int .i64 (r4 : Int)) (.int .i64 (r5 : Int))
  exact bodyPost_ret (v := .agg #[.int .i64 (r1 : Int), .int .i64 (1 + (r2 : Int)), .int .i64 (1 + (r3 : Int)), .int .i64 (r4 : Int), .int .i64 (r5 : Int)]) (by simp [results, Try.results74, go_sem, k0, k1, k2, k3, k4]) rfl ⟨⟨r1, 1 + (r2 : Int), 1 + (r3 : Int), r4, r5⟩, rfl, hTW, HG.out.2.below hB5 hg, HG.out.1.then hB5⟩

end Go.Proofs.Ytoeflkmhofkiaaa

namespace Go.Proofs.Ytoeflkmhofkiaaa
open Go.Joins Go.ChangeShapes Go.WideShapes Go.RowKit Go.Deep
set_option maxRecDepth 100000

theorem ecells_got {W : World} {a : Addr} {n : Nat} {cs : List Value} (h : W.cells? 0 a n = some cs) : cs.length = n ∧ ∀ j, j < n → W.cell? (a.add j) = cs[j]? := by
  unfold World.cells? at h
  rw [if_pos (Nat.zero_le _)] at h
  have hl := mapM_some_length h
  rw [List.length_range] at hl
  refine ⟨hl, fun j hj => ?_⟩
  exact mapM_some_get h j j (by rw [List.getElem?_range hj])

/-- A slice of elements that came in: each element's cells are of the kind, with a property of its own. -/
theorem els_open {α : Type} [Inhabited α] (K : EK α) (p : α → Prop) (tE tS : TypeId) (hS : Try.prog.underlying tS = some (.slice tE)) (hc : Try.prog.cellsOf tE = K.n)
    {H : Type} {enc : TypeId × Value → H} {W : World} (he : ∀ fuel cs x, DataW.trod enc Try.prog W 0 (fun _ => true) true fuel tE cs = some x → ∃ e : α, cs = K.cs e ∧ p e)
    {n : Nat} {v : Value} {y : DataW H × List MemPlace} (h : DataW.trod enc Try.prog W 0 (fun _ => true) true n tS [v] = some y) : ∃ xs : List α, RdE K W v xs ∧ xs.length ≤ maxLen ∧ ∀ x ∈ xs, p x := by
  rcases open_slice hS h with ⟨hcs, -⟩ | ⟨a, len, cap, m, n', D, Pl, hcs, _, hl, hm, hmm, -, hel⟩
  · simp only [List.cons.injEq, and_true] at hcs
    subst hcs
    exact ⟨[], RdE.nil _ _ _, by simp, fun x hx => by cases hx⟩
  · simp only [List.cons.injEq, and_true] at hcs
    subst hcs
    simp only [if_true] at hmm
    rw [hc] at hel
    have hp := K.pos
    have hch : ∃ f : Nat → α, ∀ i, i < len → (∀ k, k < K.n → W.cell? ((a.add (i * K.n)).add k) = (K.cs (f i))[k]?) ∧ p (f i) := by
      refine choose_lt (p := fun i (m : α) => (∀ k, k < K.n → W.cell? ((a.add (i * K.n)).add k) = (K.cs m)[k]?) ∧ p m) (fun i hi => ?_)
      obtain ⟨cs', h1, h2⟩ := hel i (by omega)
      obtain ⟨m, rfl, h3⟩ := he _ _ _ h2
      exact ⟨m, (ecells_got h1).2, h3⟩
    obtain ⟨f, hf⟩ := hch
    refine ⟨(List.range len).map f, ⟨some a, cap, by simp, fun h0 => ?_⟩, by simp; omega, fun x hx => ?_⟩
    · simp at h0
      obtain ⟨b, off, spot⟩ := a
      cases spot with
      | some sp =>
        have h2 := (hf 0 h0).1 0 hp
        have hlen : 0 < (K.cs (f 0)).length := by rw [K.len]; exact hp
        rw [List.getElem?_eq_getElem hlen] at h2
        simp only [World.cell?] at h2
        unfold Addr.add at h2
        split at h2 <;> simp_all
      | none =>
        refine ⟨b, off, rfl, fun j v hv => ?_⟩
        have hj : j < len * K.n := by
          have := (List.getElem?_eq_some_iff.1 hv).1
          rw [eflat_length, List.length_map, List.length_range] at this
          exact this
        have hi : j / K.n < len := Nat.div_lt_of_lt_mul (by rw [Nat.mul_comm]; exact hj)
        have hr : j % K.n < K.n := Nat.mod_lt _ hp
        have h3 := (hf (j / K.n) hi).1 (j % K.n) hr
        have e : j / K.n * K.n + j % K.n = j := by have := Nat.div_add_mod j K.n; rw [Nat.mul_comm] at this; exact this
        rw [Addr.add_mid, Addr.add_mid, Nat.add_assoc, e] at h3
        rw [h3, ← hv]
        have hfl := eflat_at K ((List.range len).map f) (j / K.n) (by simpa using hi) (j % K.n) hr
        rw [e] at hfl
        rw [hfl]
        simp only [List.getElem_map, List.getElem_range]
    · obtain ⟨i, hi, rfl⟩ := List.mem_map.1 hx
      exact (hf i (List.mem_range.1 hi)).2

theorem ecellsInt : Try.prog.cellsOf 3 = 1 := by kernel_rfl
theorem ecellsStr : Try.prog.cellsOf 9 = 1 := by kernel_rfl
end Go.Proofs.Ytoeflkmhofkiaaa

namespace Go.Proofs.Ytoeflkmhofkiaaa
open Go.Joins Go.ChangeShapes Go.WideShapes Go.RowKit Go.Deep
set_option maxRecDepth 100000

theorem cellsTvL : Try.prog.cellsOf 59 = 5 := by kernel_rfl

theorem tv_cells {H : Type} {enc : TypeId × Value → H} {W : World} {fuel : Nat} {cs : List Value} {x : DataW H × List MemPlace}
    (h : DataW.trod enc Try.prog W 0 (fun _ => true) true fuel 59 cs = some x) : ∃ m : Tv, cs = tvK.cs m ∧ TvW m := by
  obtain ⟨xs, n, _, hx, hl, hlen, hg⟩ := DataW.trod_struct Try.underlying59 h
  match cs, hl.trans cellsTvL with
  | [c0, c1, c2, c3, c4], _ =>
    match xs, hlen with
    | [y0, y1, y2, y3, y4], _ =>
      have g0 : DataW.trod enc Try.prog W 0 (fun _ => true) true n 3 [c0] = some y0 := by have := hg 0 _ rfl; simpa [ecellsInt] using this
      have g1 : DataW.trod enc Try.prog W 0 (fun _ => true) true n 3 [c1] = some y1 := by have := hg 1 _ rfl; simpa [ecellsInt] using this
      have g2 : DataW.trod enc Try.prog W 0 (fun _ => true) true n 3 [c2] = some y2 := by have := hg 2 _ rfl; simpa [ecellsInt] using this
      have g3 : DataW.trod enc Try.prog W 0 (fun _ => true) true n 3 [c3] = some y3 := by have := hg 3 _ rfl; simpa [ecellsInt] using this
      have g4 : DataW.trod enc Try.prog W 0 (fun _ => true) true n 3 [c4] = some y4 := by have := hg 4 _ rfl; simpa [ecellsInt] using this
      obtain ⟨n0, e0, -, w0⟩ := DataW.trod_int Try.underlying3 g0
      obtain ⟨n1, e1, -, w1⟩ := DataW.trod_int Try.underlying3 g1
      obtain ⟨n2, e2, -, w2⟩ := DataW.trod_int Try.underlying3 g2
      obtain ⟨n3, e3, -, w3⟩ := DataW.trod_int Try.underlying3 g3
      obtain ⟨n4, e4, -, w4⟩ := DataW.trod_int Try.underlying3 g4
      simp only [List.cons.injEq, and_true] at e0 e1 e2 e3 e4
      subst e0
      subst e1
      subst e2
      subst e3
      subst e4
      exact ⟨⟨n0, n1, n2, n3, n4⟩, rfl, w0, w1, w2, w3, w4⟩

theorem open_tag {H : Type} {enc : TypeId × Value → H} {W : World} {base : Nat} {v : Value} {d : DataW H} {p : List MemPlace} (hval : Value.okWide Try.prog W .any base 59 v)
    (h : DataW.Trod enc Try.prog W 0 (fun _ => true) true 59 v d p) : ∃ m : Tv, v = .agg #[.int .i64 m.kind, .int .i64 m.one, .int .i64 m.two, .int .i64 m.a, .int .i64 m.b] ∧ TvW m := by
  obtain ⟨cs, rfl, hsz⟩ := okWide_struct Try.underlying59 hval
  obtain ⟨fuel, hf⟩ := h
  obtain ⟨m, hm, hw⟩ := tv_cells hf
  refine ⟨m, ?_, hw⟩
  simp only [Value.cells] at hm
  rw [Array.toList_inj.1 (show cs.toList = (#[.int .i64 m.kind, .int .i64 m.one, .int .i64 m.two, .int .i64 m.a, .int .i64 m.b] : Array Value).toList from hm)]
end Go.Proofs.Ytoeflkmhofkiaaa

