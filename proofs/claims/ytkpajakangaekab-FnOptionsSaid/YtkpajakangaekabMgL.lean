import Derived.Test.YtkpajakangaekabOdy
import Derived.Test.YtkpajakangaekabRpu
import Derived.Test.YtkpajakangaekabOsi
import Derived.Test.YtkpajakangaekabMgS
import Derived.Test.YtkpajakangaekabMgC
import Derived.Test.YtkpajakangaekabTyn
namespace Go.Proofs.Ytkpajakangaekab
open Go.RowKit
attribute [-go_sem] loadCells loadCellsFrom

/-- An option's text reads back. -/
theorem read_back (o : Ov) (h : specOk o = true) (s : ByteArray) (a : Int) (hA : At s a (optTx o)) : readO s a = o ∧ readP s a = a + ((optTx o).size : Int) := by
  have hb := back_all o h s a hA
  have hr : readOk s a = true := by rw [readOk_iff, hb.rd]; exact ⟨(specOk_ne o).1 h, hA⟩
  unfold readO readP
  rw [if_pos hr, if_pos hr, hb.rd]
  exact ⟨rfl, rfl⟩

theorem optTx_le (o : Ov) : (optTx o).size ≤ 267 := by
  cases hs : specOk o with
  | false =>
    have h := specOk_eq o
    rw [hs] at h
    have : optTx o = ⟨#[]⟩ := by simpa using h.symm
    rw [this]
    exact Nat.zero_le _
  | true =>
    have hb := back_all o hs (optTx o) 0 (at_self _)
    obtain ⟨n, hn, e⟩ := nAt_byte (optTx o) (0 + 1)
    have hc := hb.c
    rw [e] at hc
    have h1 := numTx_le o.kind 1
    have h2 := numTx_le (fieldsOf o).size 1
    rw [optTx_yes o hs, tx_all o (specOk_kind o hs) hs, ByteArray.size_append, ByteArray.size_append]
    omega

theorem at_front (x y : ByteArray) : At (x ++ y) 0 x := (at_app x.size (0 + x.size) (at_self (x ++ y)) rfl rfl).1
theorem at_behind (x y : ByteArray) (m : Int) (h : (x.size : Int) = m) : At (x ++ y) m y := (at_app m m (at_self (x ++ y)) h (by omega)).2

/-- Three options in three blocks. -/
structure Box3 (w W : World) (g1 g2 g3 : Nat) (o : Ov) (u1 u2 u3 : Value) : Prop where
  a : Box W g1 o u1
  b : Box W g2 o u2
  c : Box W g3 o u3
  d : Below w.heap.size w W

theorem box3_all {w W : World} {g1 g2 g3 : Nat} {o : Ov} {u1 u2 u3 : Value} (h : Box3 w W g1 g2 g3 o u1 u2 u3) :
    Box3 w W g1 g2 g3 o u1 u2 u3 ∧ (loadCells ⟨g1, 0, none⟩ 14).run Try.prog W = .ok (o.cells u1) W ∧ (loadCells ⟨g2, 0, none⟩ 14).run Try.prog W = .ok (o.cells u2) W ∧ (loadCells ⟨g3, 0, none⟩ 14).run Try.prog W = .ok (o.cells u3) W :=
  ⟨h, Cel.loadRow2 (show Cel W g1 _ _ from h.a.c) 14 (Ov.cells_size _ _), Cel.loadRow2 (show Cel W g2 _ _ from h.b.c) 14 (Ov.cells_size _ _), Cel.loadRow2 (show Cel W g3 _ _ from h.c.c) 14 (Ov.cells_size _ _)⟩

theorem Box3.kept {w W W' : World} {g1 g2 g3 : Nat} {o : Ov} {u1 u2 u3 : Value} (h : Box3 w W g1 g2 g3 o u1 u2 u3) (hb : Below W.heap.size W W') : Box3 w W' g1 g2 g3 o u1 u2 u3 :=
  ⟨h.a.kept hb, h.b.kept hb, h.c.kept hb, Below.then_ h.d hb⟩

theorem Box3.drew {w W : World} {g1 g2 g3 : Nat} {o : Ov} {u1 u2 u3 : Value} (h : Box3 w W g1 g2 g3 o u1 u2 u3) : Box3 w W.drew g1 g2 g3 o u1 u2 u3 :=
  ⟨⟨h.a.c, h.a.r⟩, ⟨h.b.c, h.b.r⟩, ⟨h.c.c, h.c.r⟩, h.d.drew⟩

/-- A row of one's own, stored into a new block. -/
theorem box_new (w : World) (o : Ov) (u : Value) (B : Nat) (hI : IRow w B w.heap.size u o.ids) (cs : Array Value) :
    Box ((w.alloc (.cells cs 26)).setRow w.heap.size (o.cells u)) w.heap.size o u ∧ Below w.heap.size w ((w.alloc (.cells cs 26)).setRow w.heap.size (o.cells u)) := by
  have hb : Below w.heap.size w ((w.alloc (.cells cs 26)).setRow w.heap.size (o.cells u)) := below_setRow (g := w.heap.size) (below_new w _) (Nat.le_refl _) _
  exact ⟨⟨(Cel.new w 26 cs).row _, (hI.keep hb (Nat.le_refl _)).rd⟩, hb⟩

set_option maxHeartbeats 4000000 in
set_option maxRecDepth 100000 in
theorem draw_optText (v : Value) (n : Nat) (w : World) (hv : RdB w v n) (hn : n ≤ 1048576) :
    Calls Try.prog 7 #[v] w fun e w' => ∃ (o : Ov) (u : Value), e = .returned (.agg (o.cells u)) ∧ IRow w' w.heap.size w'.heap.size u o.ids ∧ o.ids.length ≤ 10 ∧ Below w.heap.size w w' := by
  have hb0 := below_new w (.cells #[.int .i64 0, .int .i64 0, .int .i64 0, .int .i64 0, .int .i64 0, .int .i64 0, .int .i64 0, .int .i64 0, .int .i64 0, .int .i64 0, .bool false, .string ⟨#[]⟩, .string ⟨#[]⟩, .slice none 0 0] 26)
  have hC0 := Cel.new w 26 #[.int .i64 0, .int .i64 0, .int .i64 0, .int .i64 0, .int .i64 0, .int .i64 0, .int .i64 0, .int .i64 0, .int .i64 0, .int .i64 0, .bool false, .string ⟨#[]⟩, .string ⟨#[]⟩, .slice none 0 0]
  have cN := new_dr v n _ (hv.below hb0 hv.lt) hn
  rw [World.size_alloc] at cN
  have HE := Lib.hid (And.intro hb0 hC0)
  clear hb0 hC0 hv
  go_enter Try.func7, Try.ntmps7
  go_wp2_with (fail)
  with_reducible refine cN.mono ?_
  rintro e w1 ⟨rfl, d1, hb1'⟩
  have hb1 : Below (w.alloc (.cells #[.int .i64 0, .int .i64 0, .int .i64 0, .int .i64 0, .int .i64 0, .int .i64 0, .int .i64 0, .int .i64 0, .int .i64 0, .int .i64 0, .bool false, .string ⟨#[]⟩, .string ⟨#[]⟩, .slice none 0 0] 26)).heap.size (w.alloc (.cells #[.int .i64 0, .int .i64 0, .int .i64 0, .int .i64 0, .int .i64 0, .int .i64 0, .int .i64 0, .int .i64 0, .int .i64 0, .int .i64 0, .bool false, .string ⟨#[]⟩, .string ⟨#[]⟩, .slice none 0 0] 26)) w1 := by rw [World.size_alloc]; exact hb1'
  have hz1 : w.heap.size + 1 < w1.heap.size := d1.blk
  have cA := any_opt_dr _ v n w1 d1
  have hC1 := HE.out.2.kept hb1
  have hB1 := Below.then_ HE.out.1 hb1
  have H1 := Lib.hid (And.intro hC1 (And.intro hB1 hz1))
  clear cN d1 hC1 hB1 hb1 hb1' hz1 HE
  go_wp2_with (fail)
  with_reducible refine cA.mono ?_
  rintro e w2 ⟨o, u, rfl, hI, hl, d2, hG⟩
  obtain ⟨ua, uc, rfl⟩ := irow_form hI
  have hz : w2.heap[w.heap.size]? = some (.cells #[.int .i64 0, .int .i64 0, .int .i64 0, .int .i64 0, .int .i64 0, .int .i64 0, .int .i64 0, .int .i64 0, .int .i64 0, .int .i64 0, .bool false, .string ⟨#[]⟩, .string ⟨#[]⟩, .slice none 0 0] 26 (0, 0)) := H1.out.1.grew hG (by omega)
  have hC2 : Cel w2 w.heap.size 26 #[.int .i64 0, .int .i64 0, .int .i64 0, .int .i64 0, .int .i64 0, .int .i64 0, .int .i64 0, .int .i64 0, .int .i64 0, .int .i64 0, .bool false, .string ⟨#[]⟩, .string ⟨#[]⟩, .slice none 0 0] := hz
  have one := o.cells_one ua o.ids.length uc
  have hss : (#[.int .i64 0, .int .i64 0, .int .i64 0, .int .i64 0, .int .i64 0, .int .i64 0, .int .i64 0, .int .i64 0, .int .i64 0, .int .i64 0, .bool false, .string ⟨#[]⟩, .string ⟨#[]⟩, .slice none 0 0] : Array Value).size = (o.cells (.slice ua o.ids.length uc)).size := by rw [Ov.cells_size]; rfl
  have hB2 := hG.chain H1.out.2.1 (by omega) (by have := H1.out.2.2; omega)
  have hB3 := below_setRow (g := w.heap.size) hB2 (Nat.le_refl _) (o.cells (.slice ua o.ids.length uc))
  have hI3 := (end_own hI (by have := H1.out.2.2; omega) (g0 := w.heap.size) (o.cells (.slice ua o.ids.length uc))).wider (Nat.le_trans (Nat.le_succ _) (Nat.le_of_lt H1.out.2.2)) (Nat.le_refl _)
  have hC3 := hC2.row (o.cells (.slice ua o.ids.length uc))
  have H2 := Lib.hid (And.intro hI3 (And.intro hl (And.intro hB3 hC3)))
  clear cA d2 hG hI hl H1 hB2 hB3 hI3 hC2 hC3
  go_wp2_with (with_reducible refine wpList_store_row rfl 26 _ _ rfl _ rfl _ rfl 26 _ hz (sizeOpt' _ _) hss one ?_)
  exact bodyPost_ret (Cel.result H2.out.2.2.2 rfl _ rfl Try.underlying26 rfl (sizeOpt' _ _)) rfl ⟨o, _, rfl, H2.out.1, H2.out.2.1, H2.out.2.2.1⟩
end Go.Proofs.Ytkpajakangaekab

namespace Go.Proofs.Ytkpajakangaekab
open Go.RowKit
attribute [-go_sem] loadCells loadCellsFrom

set_option maxRecDepth 100000 in
set_option maxHeartbeats 8000000 in
set_option linter.unusedSimpArgs false in
theorem fnoptions_law (v : Value) (w : World) (n : Nat) (hr : RdB w v n) :
    Calls Try.prog 3 #[v] w fun e w' => e = .returned (.bool true) ∧ Below w.heap.size w w' := by
  have cb := big_call v n w hr
  by_cases hn : 1048576 < n
  · rw [decide_eq_true hn] at cb
    clear hn hr
    go_enter Try.func3, Try.ntmps3
    go_wp2_with (fail)
    with_reducible refine cb.mono ?_
    rintro e w1 ⟨rfl, rfl⟩
    go_wp2_with (fail)
    go_ret
    exact ⟨rfl, Below.refl _ _⟩
  · rw [decide_eq_false hn] at cb
    have cp := draw_optText v n w hr (by omega)
    clear hn hr
    go_enter Try.func3, Try.ntmps3
    go_wp2_with (fail)
    with_reducible refine cb.mono ?_
    rintro e w0 ⟨rfl, rfl⟩
    clear cb
    go_wp2_with (fail)
    with_reducible refine cp.mono ?_
    rintro e w1 ⟨o, u, rfl, hI, hl, hb1⟩
    clear cp
    obtain ⟨ua, uc, rfl⟩ := irow_form hI
    have hz : (w1.alloc (.cells #[.int .i64 0, .int .i64 0, .int .i64 0, .int .i64 0, .int .i64 0, .int .i64 0, .int .i64 0, .int .i64 0, .int .i64 0, .int .i64 0, .bool false, .string ⟨#[]⟩, .string ⟨#[]⟩, .slice none 0 0] 26)).heap[w1.heap.size]? = some (.cells #[.int .i64 0, .int .i64 0, .int .i64 0, .int .i64 0, .int .i64 0, .int .i64 0, .int .i64 0, .int .i64 0, .int .i64 0, .int .i64 0, .bool false, .string ⟨#[]⟩, .string ⟨#[]⟩, .slice none 0 0] 26 (0, 0)) := Cel.new w1 26 #[.int .i64 0, .int .i64 0, .int .i64 0, .int .i64 0, .int .i64 0, .int .i64 0, .int .i64 0, .int .i64 0, .int .i64 0, .int .i64 0, .bool false, .string ⟨#[]⟩, .string ⟨#[]⟩, .slice none 0 0]
    have one := o.cells_one ua o.ids.length uc
    have hss : (#[.int .i64 0, .int .i64 0, .int .i64 0, .int .i64 0, .int .i64 0, .int .i64 0, .int .i64 0, .int .i64 0, .int .i64 0, .int .i64 0, .bool false, .string ⟨#[]⟩, .string ⟨#[]⟩, .slice none 0 0] : Array Value).size = (o.cells (.slice ua o.ids.length uc)).size := by rw [Ov.cells_size]; rfl
    have hx := box_new w1 o (.slice ua o.ids.length uc) _ hI #[.int .i64 0, .int .i64 0, .int .i64 0, .int .i64 0, .int .i64 0, .int .i64 0, .int .i64 0, .int .i64 0, .int .i64 0, .int .i64 0, .bool false, .string ⟨#[]⟩, .string ⟨#[]⟩, .slice none 0 0]
    have cX := fun W h => impl_optText o (.slice ua o.ids.length uc) W h (by omega)
    have cO := fun W h => spec_optOk o (.slice ua o.ids.length uc) W h (by omega)
    have cK := fun W h => impl_optOk o (.slice ua o.ids.length uc) W h (by omega)
    have cZ := fun W h => impl_optSize o (.slice ua o.ids.length uc) W h (by omega)
    have cY := fun W h => spec_optSize o (.slice ua o.ids.length uc) W h (by omega)
    have HB := Lib.hid (And.intro hx.1 (And.intro (Below.then_ hb1 hx.2) hl))
    clear hI hb1 hx hl
    go_upto_region 4 with (with_reducible refine wpList_store_row rfl 26 _ _ rfl _ rfl _ rfl 26 _ hz (sizeOpt' _ _) hss one ?_)
    clear hz hss
    generalize (w1.alloc (.cells #[.int .i64 0, .int .i64 0, .int .i64 0, .int .i64 0, .int .i64 0, .int .i64 0, .int .i64 0, .int .i64 0, .int .i64 0, .int .i64 0, .bool false, .string ⟨#[]⟩, .string ⟨#[]⟩, .slice none 0 0] 26)).setRow w1.heap.size (o.cells (.slice ua o.ids.length uc)) = w2 at *
    generalize w1.heap.size = g at *
    obtain ⟨hB2, hb2, hl⟩ := HB.out
    clear HB
    have l2 := hB2.c
    have hle := optTx_le o
    have hso := specOk_ne o
    have hrb := read_back o
    by_cases hx : optTx o = ⟨#[]⟩
    · rw [hx] at cX cO cK cZ cY
      simp only [decide_true, Bool.not_true, show ((ByteArray.mk #[]).size : Int) = 0 from rfl] at cO cK cZ cY
      clear hrb hso hle hl hx one
      go_wp2_with (with_reducible refine wpList_load_row rfl 26 _ rfl _ rfl 26 _ (0, 0) _ l2 Try.underlying26 rfl (sizeOpt' _ _) ?_)
      with_reducible refine (cX _ hB2.r).mono ?_
      rintro e w3 ⟨rfl, hb3⟩
      have hB3 := hB2.kept hb3
      have hc3 := Below.then_ hb2 hb3
      have l3 := hB3.c
      clear hb3 hB2 hb2 l2 cX
      go_wp2_with (with_reducible refine wpList_load_row rfl 26 _ rfl _ rfl 26 _ (0, 0) _ l3 Try.underlying26 rfl (sizeOpt' _ _) ?_)
      with_reducible refine (cO _ hB3.r).mono ?_
      rintro e w4 ⟨rfl, hb4⟩
      have hB4 := box_drew (hB3.kept hb4) (Below.then_ hc3 hb4)
      clear hb4 hB3 hc3 l3 cO
      go_wp2_with (fail)
      refine wp_region_held_drew (S := fun W => Box W g o (.slice ua o.ids.length uc) ∧ (loadCells ⟨g, 0, none⟩ 14).run Try.prog W = .ok (o.cells (.slice ua o.ids.length uc)) W ∧ Below w.heap.size w W) (by kernel_rfl) hB4 (fun hHeld => ?_)
      refine take_yes (i := 0) (oi := { dst := some 18, op := Op.move (Operand.tmp 4), type := 9, pos := "laws.go:371", after := #[], guard := none }) (v := .string ⟨#[]⟩) rfl (by kernel_rfl) (by kernel_rfl) (by kernel_rfl) (fun _ _ _ h => h) (by rfl) (fun w hSw => by (try dsimp only at hSw); go_simp) (by assumption) ?_
      try simp only [Act.put, List.setIfInBounds_toArray, List.set_cons_zero, List.set_cons_succ]
      refine take_yes (i := 1) (oi := { dst := some 19, op := Op.binOp BinOp.eql 9 (Operand.tmp 18) (Operand.const (Value.string { data := #[] })) 9, type := 4, pos := "laws.go:371", after := #[{ on := 0, ground := Ground.data }], guard := none }) (v := .bool true) rfl (by kernel_rfl) (by kernel_rfl) (by kernel_rfl) (fun _ _ _ h => h) (by rfl) (fun w hSw => by (try dsimp only at hSw); go_simp) (by assumption) ?_
      try simp only [Act.put, List.setIfInBounds_toArray, List.set_cons_zero, List.set_cons_succ]
      refine take_yes (i := 2) (oi := { dst := some 20, op := Op.move (Operand.tmp 19), type := 4, pos := "laws.go:371", after := #[{ on := 1, ground := Ground.data }], guard := none }) (v := .bool true) rfl (by kernel_rfl) (by kernel_rfl) (by kernel_rfl) (fun _ _ _ h => h) (by rfl) (fun w hSw => by (try dsimp only at hSw); go_simp) (by assumption) ?_
      try simp only [Act.put, List.setIfInBounds_toArray, List.set_cons_zero, List.set_cons_succ]
      refine take_yes (i := 3) (oi := { dst := some 21, op := Op.load 26 (Operand.tmp 3), type := 26, pos := "laws.go:371", after := #[{ on := 2, ground := Ground.guard }], guard := some (2, true) }) (v := .agg (o.cells (.slice ua o.ids.length uc))) rfl (by kernel_rfl) (by kernel_rfl) (by kernel_rfl) (fun _ _ _ h => h) (by rfl) (fun w hSw => by (try dsimp only at hSw); go_simp) (by assumption) ?_
      try simp only [Act.put, List.setIfInBounds_toArray, List.set_cons_zero, List.set_cons_succ]
      refine wpAnyH_ready (rs := [4]) (by kernel_rfl) (by simp) ?_
      refine AllReadyH.cons (o := { dst := some 22, op := Op.call { callee := Callee.value (Operand.func 10), args := #[Operand.tmp 21], argTypes := #[26] }, type := 4, pos := "laws.go:371", after := #[{ on := 3, ground := Ground.data }, { on := 2, ground := Ground.chain }, { on := 2, ground := Ground.guard }], guard := some (2, true) }) rfl (fun K hK => ?_) AllReadyH.nil
      go_simp
      with_reducible refine (cK _ hHeld.1.r).mono ?_
      rintro e w7 ⟨rfl, hb7⟩
      refine hK.out _ _ (box_keep hHeld hb7) (fun hHeldN => ?_)
      clear hK K hHeld
      have hHeld := hHeldN
      clear hHeldN
      try simp only [Act.put, List.setIfInBounds_toArray, List.set_cons_zero, List.set_cons_succ]
      refine take_yes (i := 5) (oi := { dst := some 23, op := Op.unOp UnOp.not 4 (Operand.tmp 22), type := 4, pos := "laws.go:371", after := #[{ on := 4, ground := Ground.data }, { on := 2, ground := Ground.guard }], guard := some (2, true) }) (v := .bool true) rfl (by kernel_rfl) (by kernel_rfl) (by kernel_rfl) (fun _ _ _ h => h) (by rfl) (fun w hSw => by (try dsimp only at hSw); go_simp) (by assumption) ?_
      try simp only [Act.put, List.setIfInBounds_toArray, List.set_cons_zero, List.set_cons_succ]
      refine take_yes (i := 6) (oi := { dst := some 24, op := Op.pick (Operand.tmp 20) (Operand.tmp 23) (Operand.const (Value.bool false)), type := 4, pos := "laws.go:371", after := #[{ on := 2, ground := Ground.data }, { on := 5, ground := Ground.data }], guard := none }) (v := .bool true) rfl (by kernel_rfl) (by kernel_rfl) (by kernel_rfl) (fun _ _ _ h => h) (by rfl) (fun w hSw => by (try dsimp only at hSw); go_simp) (by assumption) ?_
      try simp only [Act.put, List.setIfInBounds_toArray, List.set_cons_zero, List.set_cons_succ]
      refine take_yes (i := 7) (oi := { dst := some 25, op := Op.move (Operand.tmp 24), type := 4, pos := "laws.go:371", after := #[{ on := 6, ground := Ground.data }, { on := 4, ground := Ground.chain }], guard := none }) (v := .bool true) rfl (by kernel_rfl) (by kernel_rfl) (by kernel_rfl) (fun _ _ _ h => h) (by rfl) (fun w hSw => by (try dsimp only at hSw); go_simp) (by assumption) ?_
      try simp only [Act.put, List.setIfInBounds_toArray, List.set_cons_zero, List.set_cons_succ]
      refine take_yes (i := 8) (oi := { dst := some 26, op := Op.load 26 (Operand.tmp 3), type := 26, pos := "laws.go:371", after := #[{ on := 7, ground := Ground.guard }], guard := some (7, true) }) (v := .agg (o.cells (.slice ua o.ids.length uc))) rfl (by kernel_rfl) (by kernel_rfl) (by kernel_rfl) (fun _ _ _ h => h) (by rfl) (fun w hSw => by (try dsimp only at hSw); go_simp) (by assumption) ?_
      try simp only [Act.put, List.setIfInBounds_toArray, List.set_cons_zero, List.set_cons_succ]
      refine take_yes (i := 10) (oi := { dst := some 28, op := Op.load 26 (Operand.tmp 3), type := 26, pos := "laws.go:371", after := #[{ on := 7, ground := Ground.guard }], guard := some (7, true) }) (v := .agg (o.cells (.slice ua o.ids.length uc))) rfl (by kernel_rfl) (by kernel_rfl) (by kernel_rfl) (fun _ _ _ h => h) (by rfl) (fun w hSw => by (try dsimp only at hSw); go_simp) (by assumption) ?_
      try simp only [Act.put, List.setIfInBounds_toArray, List.set_cons_zero, List.set_cons_succ]
      refine wpAnyH_ready (rs := [9]) (by kernel_rfl) (by simp) ?_
      refine AllReadyH.cons (o := { dst := some 27, op := Op.call { callee := Callee.value (Operand.func 11), args := #[Operand.tmp 26], argTypes := #[26] }, type := 3, pos := "laws.go:371", after := #[{ on := 8, ground := Ground.data }, { on := 7, ground := Ground.chain }, { on := 7, ground := Ground.guard }], guard := some (7, true) }) rfl (fun K hK => ?_) AllReadyH.nil
      go_simp
      with_reducible refine (cZ _ hHeld.1.r).mono ?_
      rintro e w8 ⟨rfl, hb8⟩
      refine hK.out _ _ (box_keep hHeld hb8) (fun hHeldN => ?_)
      clear hK K hHeld
      have hHeld := hHeldN
      clear hHeldN
      try simp only [Act.put, List.setIfInBounds_toArray, List.set_cons_zero, List.set_cons_succ]
      refine wpAnyH_ready (rs := [11]) (by kernel_rfl) (by simp) ?_
      refine AllReadyH.cons (o := { dst := some 29, op := Op.call { callee := Callee.value (Operand.func 12), args := #[Operand.tmp 28], argTypes := #[26] }, type := 3, pos := "laws.go:371", after := #[{ on := 10, ground := Ground.data }, { on := 9, ground := Ground.chain }, { on := 7, ground := Ground.guard }], guard := some (7, true) }) rfl (fun K hK => ?_) AllReadyH.nil
      go_simp
      with_reducible refine (cY _ hHeld.1.r).mono ?_
      rintro e w9 ⟨rfl, hb9⟩
      have HF := Lib.hid (Below.then_ hHeld.2.2 hb9)
      refine hK.out _ _ (box_keep hHeld hb9) (fun hHeldN => ?_)
      clear hK K hHeld
      have hHeld := hHeldN
      clear hHeldN
      try simp only [Act.put, List.setIfInBounds_toArray, List.set_cons_zero, List.set_cons_succ]
      refine take_yes (i := 12) (oi := { dst := some 30, op := Op.binOp BinOp.eql 3 (Operand.tmp 27) (Operand.tmp 29) 3, type := 4, pos := "laws.go:371", after := #[{ on := 9, ground := Ground.data }, { on := 11, ground := Ground.data }, { on := 7, ground := Ground.guard }], guard := some (7, true) }) (v := .bool true) rfl (by kernel_rfl) (by kernel_rfl) (by kernel_rfl) (fun _ _ _ h => h) (by rfl) (fun w hSw => by (try dsimp only at hSw); go_simp) (by assumption) ?_
      try simp only [Act.put, List.setIfInBounds_toArray, List.set_cons_zero, List.set_cons_succ]
      refine take_yes (i := 13) (oi := { dst := some 31, op := Op.pick (Operand.tmp 25) (Operand.tmp 30) (Operand.const (Value.bool false)), type := 4, pos := "laws.go:371", after := #[{ on := 7, ground := Ground.data }, { on := 12, ground := Ground.data }], guard := none }) (v := .bool true) rfl (by kernel_rfl) (by kernel_rfl) (by kernel_rfl) (fun _ _ _ h => h) (by rfl) (fun w hSw => by (try dsimp only at hSw); go_simp) (by assumption) ?_
      try simp only [Act.put, List.setIfInBounds_toArray, List.set_cons_zero, List.set_cons_succ]
      refine take_yes (i := 14) (oi := { dst := some 2, op := Op.assign (Operand.tmp 31), type := 4, pos := "laws.go:371", after := #[{ on := 13, ground := Ground.data }, { on := 11, ground := Ground.chain }, { on := 0, ground := Ground.phase }, { on := 1, ground := Ground.phase }, { on := 2, ground := Ground.phase }, { on := 3, ground := Ground.phase }, { on := 4, ground := Ground.phase }, { on := 5, ground := Ground.phase }, { on := 6, ground := Ground.phase }, { on := 7, ground := Ground.phase }, { on := 8, ground := Ground.phase }, { on := 9, ground := Ground.phase }, { on := 10, ground := Ground.phase }, { on := 11, ground := Ground.phase }, { on := 12, ground := Ground.phase }, { on := 13, ground := Ground.phase }], guard := none }) (v := .bool true) rfl (by kernel_rfl) (by kernel_rfl) (by kernel_rfl) (fun _ _ _ h => h) (by rfl) (fun w hSw => by (try dsimp only at hSw); go_simp) (by assumption) ?_
      try simp only [Act.put, List.setIfInBounds_toArray, List.set_cons_zero, List.set_cons_succ]
      refine wpAnyH_done (by kernel_rfl) ?_ _
      clear hHeld
      go_wp2_with (fail)
      go_ret
      exact ⟨rfl, HF.out⟩
    · have hok : specOk o = true := hso.2 hx
      have hb0 := fun s a => hrb hok s a
      have hpos : 0 < (optTx o).size := by
        rcases Nat.eq_zero_or_pos (optTx o).size with h | h
        · exact absurd (ByteArray.ext (Array.eq_empty_of_size_eq_zero h)) hx
        · exact h
      simp only [decide_eq_false hx, Bool.not_false] at cO cK
      have hA1 := hb0 (optTx o ++ ⟨#[98, 101, 104, 105, 110, 100]⟩) 0 (at_front _ _)
      have hA2 := hb0 (⟨#[120, 120]⟩ ++ optTx o) 2 (at_behind _ _ 2 rfl)
      rw [Int.zero_add] at hA1
      rw [Int.add_comm] at hA2
      have c1 := fun W => impl_readOpt (optTx o ++ ⟨#[98, 101, 104, 105, 110, 100]⟩) 0 W (by rw [ByteArray.size_append]; show _ + 6 ≤ _; omega) (by omega)
      have c2 := fun W => impl_readOpt (⟨#[120, 120]⟩ ++ optTx o) 2 W (by rw [ByteArray.size_append]; show 2 + _ ≤ _; omega) (by omega)
      rw [hA1.1, hA1.2] at c1
      rw [hA2.1, hA2.2] at c2
      have cS := fun v u W h1 h2 => impl_same o o v u W h1 h2 (by omega) (by omega)
      have cT := fun v u W h1 h2 => spec_same o o v u W h1 h2 (by omega) (by omega)
      simp only [sameOv_self] at cS cT
      generalize optTx o = tx at *
      have q1 : tx.size + 6 ≤ 9223372036854775807 := by omega
      have q2 : 2 + tx.size ≤ 9223372036854775807 := by omega
      have q3 : ¬ 9223372036854775807 < tx.size + 6 := by omega
      have q4 : ¬ 9223372036854775807 < 2 + tx.size := by omega
      have q5 : (0 : Int) < (tx.size : Int) := by omega
      have q6 : IntKind.i64.wrap ((tx.size : Int) + 2) = (tx.size : Int) + 2 := IntWalk.i64_in _ (by omega)
      clear hb0 hA1 hA2 hok hso hrb hle hl hx hpos
      go_wp2_with (with_reducible refine wpList_load_row rfl 26 _ rfl _ rfl 26 _ (0, 0) _ l2 Try.underlying26 rfl (sizeOpt' _ _) ?_)
      with_reducible refine (cX _ hB2.r).mono ?_
      rintro e w3 ⟨rfl, hb3⟩
      have hB3 := hB2.kept hb3
      have hc3 := Below.then_ hb2 hb3
      have l3 := hB3.c
      clear hb3 hB2 hb2 l2 cX
      go_wp2_with (with_reducible refine wpList_load_row rfl 26 _ rfl _ rfl 26 _ (0, 0) _ l3 Try.underlying26 rfl (sizeOpt' _ _) ?_)
      with_reducible refine (cO _ hB3.r).mono ?_
      rintro e w4 ⟨rfl, hb4⟩
      have H4 := Lib.hid (And.intro (hB3.kept hb4) (Below.then_ hc3 hb4))
      clear hb4 hB3 hc3 l3 cO
      go_wp2_with (fail)
      with_reducible refine (c1 _).mono ?_
      rintro e w5 ⟨p, rfl, hI5, hb5⟩
      obtain ⟨va, vc, rfl⟩ := irow_form hI5
      have hz5 : (w5.alloc (.cells #[.int .i64 0, .int .i64 0, .int .i64 0, .int .i64 0, .int .i64 0, .int .i64 0, .int .i64 0, .int .i64 0, .int .i64 0, .int .i64 0, .bool false, .string ⟨#[]⟩, .string ⟨#[]⟩, .slice none 0 0] 26)).heap[w5.heap.size]? = some (.cells #[.int .i64 0, .int .i64 0, .int .i64 0, .int .i64 0, .int .i64 0, .int .i64 0, .int .i64 0, .int .i64 0, .int .i64 0, .int .i64 0, .bool false, .string ⟨#[]⟩, .string ⟨#[]⟩, .slice none 0 0] 26 (0, 0)) := Cel.new w5 26 #[.int .i64 0, .int .i64 0, .int .i64 0, .int .i64 0, .int .i64 0, .int .i64 0, .int .i64 0, .int .i64 0, .int .i64 0, .int .i64 0, .bool false, .string ⟨#[]⟩, .string ⟨#[]⟩, .slice none 0 0]
      have one5 := o.cells_one va o.ids.length vc
      have hss5 : (#[.int .i64 0, .int .i64 0, .int .i64 0, .int .i64 0, .int .i64 0, .int .i64 0, .int .i64 0, .int .i64 0, .int .i64 0, .int .i64 0, .bool false, .string ⟨#[]⟩, .string ⟨#[]⟩, .slice none 0 0] : Array Value).size = (o.cells (.slice va o.ids.length vc)).size := by rw [Ov.cells_size]; rfl
      have hx5 := box_new w5 o (.slice va o.ids.length vc) _ hI5 #[.int .i64 0, .int .i64 0, .int .i64 0, .int .i64 0, .int .i64 0, .int .i64 0, .int .i64 0, .int .i64 0, .int .i64 0, .int .i64 0, .bool false, .string ⟨#[]⟩, .string ⟨#[]⟩, .slice none 0 0]
      have H5 := Lib.hid (And.intro ((H4.out.1.kept hb5).kept hx5.2) (And.intro hx5.1 (Below.then_ (Below.then_ H4.out.2 hb5) hx5.2)))
      clear H4 hI5 hb5 hx5 c1
      go_upto_region 8 with (with_reducible refine wpList_store_row rfl 26 _ _ rfl _ rfl _ rfl 26 _ hz5 (sizeOpt' _ _) hss5 one5 ?_)
      clear hz5 hss5
      generalize (w5.alloc (.cells #[.int .i64 0, .int .i64 0, .int .i64 0, .int .i64 0, .int .i64 0, .int .i64 0, .int .i64 0, .int .i64 0, .int .i64 0, .int .i64 0, .bool false, .string ⟨#[]⟩, .string ⟨#[]⟩, .slice none 0 0] 26)).setRow w5.heap.size (o.cells (.slice va o.ids.length vc)) = w6 at *
      generalize w5.heap.size = h at *
      go_wp2_with (fail)
      with_reducible refine (c2 _).mono ?_
      rintro e w7 ⟨p, rfl, hI7, hb7⟩
      obtain ⟨xa, xc, rfl⟩ := irow_form hI7
      have hz7 : (w7.alloc (.cells #[.int .i64 0, .int .i64 0, .int .i64 0, .int .i64 0, .int .i64 0, .int .i64 0, .int .i64 0, .int .i64 0, .int .i64 0, .int .i64 0, .bool false, .string ⟨#[]⟩, .string ⟨#[]⟩, .slice none 0 0] 26)).heap[w7.heap.size]? = some (.cells #[.int .i64 0, .int .i64 0, .int .i64 0, .int .i64 0, .int .i64 0, .int .i64 0, .int .i64 0, .int .i64 0, .int .i64 0, .int .i64 0, .bool false, .string ⟨#[]⟩, .string ⟨#[]⟩, .slice none 0 0] 26 (0, 0)) := Cel.new w7 26 #[.int .i64 0, .int .i64 0, .int .i64 0, .int .i64 0, .int .i64 0, .int .i64 0, .int .i64 0, .int .i64 0, .int .i64 0, .int .i64 0, .bool false, .string ⟨#[]⟩, .string ⟨#[]⟩, .slice none 0 0]
      have one7 := o.cells_one xa o.ids.length xc
      have hss7 : (#[.int .i64 0, .int .i64 0, .int .i64 0, .int .i64 0, .int .i64 0, .int .i64 0, .int .i64 0, .int .i64 0, .int .i64 0, .int .i64 0, .bool false, .string ⟨#[]⟩, .string ⟨#[]⟩, .slice none 0 0] : Array Value).size = (o.cells (.slice xa o.ids.length xc)).size := by rw [Ov.cells_size]; rfl
      have hx7 := box_new w7 o (.slice xa o.ids.length xc) _ hI7 #[.int .i64 0, .int .i64 0, .int .i64 0, .int .i64 0, .int .i64 0, .int .i64 0, .int .i64 0, .int .i64 0, .int .i64 0, .int .i64 0, .bool false, .string ⟨#[]⟩, .string ⟨#[]⟩, .slice none 0 0]
      have H7 : Hid (Box3 w _ g h w7.heap.size o (.slice ua o.ids.length uc) (.slice va o.ids.length vc) (.slice xa o.ids.length xc)) := Lib.hid (Box3.mk ((H5.out.1.kept hb7).kept hx7.2) ((H5.out.2.1.kept hb7).kept hx7.2) hx7.1 (Below.then_ (Below.then_ H5.out.2.2 hb7) hx7.2))
      clear H5 hI7 hb7 hx7 c2
      go_upto_region 9 with (with_reducible refine wpList_store_row rfl 26 _ _ rfl _ rfl _ rfl 26 _ hz7 (sizeOpt' _ _) hss7 one7 ?_)
      clear hz7 hss7
      generalize (w7.alloc (.cells #[.int .i64 0, .int .i64 0, .int .i64 0, .int .i64 0, .int .i64 0, .int .i64 0, .int .i64 0, .int .i64 0, .int .i64 0, .int .i64 0, .bool false, .string ⟨#[]⟩, .string ⟨#[]⟩, .slice none 0 0] 26)).setRow w7.heap.size (o.cells (.slice xa o.ids.length xc)) = w8 at *
      generalize w7.heap.size = k at *
      have k8 := H7.out
      have la := k8.a.c
      clear H7
      go_wp2_with (with_reducible refine wpList_load_row rfl 26 _ rfl _ rfl 26 _ (0, 0) _ la Try.underlying26 rfl (sizeOpt' _ _) ?_)
      with_reducible refine (cK _ k8.a.r).mono ?_
      rintro e w9 ⟨rfl, hb9⟩
      have k9 := k8.kept hb9
      clear la
      obtain ⟨-, ra, rb, rc⟩ := box3_all k9
      clear hb9 k8 cK
      go_wp2_with (fail)
      with_reducible refine (cS _ _ _ k9.b.r k9.a.r).mono ?_
      rintro e w10 ⟨rfl, hb10⟩
      have k10 := k9.kept hb10
      clear hb10 k9 cS ra rb rc
      obtain ⟨-, ra, rb, rc⟩ := box3_all k10
      go_wp2_with (fail)
      with_reducible refine (cT _ _ _ k10.c.r k10.a.r).mono ?_
      rintro e w11 ⟨rfl, hb11⟩
      have k11 := k10.kept hb11
      clear hb11 k10 cT ra rb rc
      obtain ⟨-, ra, rb, rc⟩ := box3_all k11
      go_wp2_with (fail)
      with_reducible refine (cZ _ k11.a.r).mono ?_
      rintro e w12 ⟨rfl, hb12⟩
      have HF := Lib.hid (Below.then_ k11.d hb12)
      clear hb12 k11 cZ ra rb rc
      go_wp2_with (fail)
      go_ret
      exact ⟨rfl, HF.out⟩
end Go.Proofs.Ytkpajakangaekab

