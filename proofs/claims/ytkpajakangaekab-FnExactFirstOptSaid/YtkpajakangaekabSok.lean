import Derived.Test.YtkpajakangaekabOtx
import Derived.Test.YtkpajakangaekabSre
import Derived.Test.YtkpajakangaekabSho
import Derived.Test.YtkpajakangaekabQuiet
import Derived.Test.YtkpajakangaekabTyn
import Derived.IntWalk
import Derived.Deep.Cut
namespace Go.Proofs.Ytkpajakangaekab
open Go.RowKit
attribute [-go_sem] loadCells loadCellsFrom

theorem twelve (l : List Bool) (h : l.length = 12) : ∃ h0 h1 h2 h3 h4 h5 h6 h7 h8 h9 h10 h11, l = [h0, h1, h2, h3, h4, h5, h6, h7, h8, h9, h10, h11] := by
  match l, h with
  | [h0, h1, h2, h3, h4, h5, h6, h7, h8, h9, h10, h11], _ => exact ⟨_, _, _, _, _, _, _, _, _, _, _, _, rfl⟩

theorem spec_rest (o : Ov) (v : Value) (sh : ByteArray) (n : Nat) (hn : sh.size = 2 * n) (hn8 : n ≤ 100) (w : World) (hv : Rd w v o.ids) (hl : o.ids.length ≤ 1048576) :
    Calls Try.prog 35 #[.agg (o.cells v), .string sh] w fun e w' => e = .returned (.bool (restB o (hasUp sh n))) ∧ Below w.heap.size w w' := by
  obtain ⟨va, vc, rfl, -⟩ := hv
  obtain ⟨h0, h1, h2, h3, h4, h5, h6, h7, h8, h9, h10, h11, hh⟩ := twelve (hasUp sh n) (hasUp_length sh n)
  rw [hh]
  exact rest_walk o va vc sh n hn hn8 w hl h0 h1 h2 h3 h4 h5 h6 h7 h8 h9 h10 h11 hh

/-- One field of an option: it fits. -/
def okAt (o : Ov) (x c : Int) : Bool :=
  match numL o x with
  | some n => !decide (numText n (wideOf c) = ⟨#[]⟩)
  | none => decide (((textL o x).size : Int) = wideOf c)

def letOf (sh : ByteArray) (k : Nat) : Int := ((sh[2 * k]!).toNat : Int)
def widOf (sh : ByteArray) (k : Nat) : Int := ((sh[2 * k + 1]!).toNat : Int)

def okUp (o : Ov) (sh : ByteArray) : Nat → Bool
  | 0 => true
  | k + 1 => okUp o sh k && okAt o (letOf sh k) (widOf sh k)

theorem okUp_no (o : Ov) (sh : ByteArray) (k m : Nat) (h : k < m) (hn : okAt o (letOf sh k) (widOf sh k) = false) : okUp o sh m = false := by
  induction m with
  | zero => omega
  | succ m ih =>
    unfold okUp
    by_cases hk : k = m
    · subst hk; rw [hn, Bool.and_false]
    · rw [ih (by omega), Bool.false_and]
theorem okUp_succ (o : Ov) (sh : ByteArray) (k : Nat) (h : okUp o sh k = true) (hn : okAt o (letOf sh k) (widOf sh k) = true) : okUp o sh (k + 1) = true := by
  unfold okUp; rw [h, hn]; rfl
theorem okUp_eq (o : Ov) (sh : ByteArray) (k : Nat) : okUp o sh (k + 1) = (okUp o sh k && okAt o (letOf sh k) (widOf sh k)) := rfl
theorem okUp_zero (o : Ov) (sh : ByteArray) : okUp o sh 0 = true := rfl

/-- One of the Ids fits. -/
def idAt (zs : List Int) (j : Nat) : Bool := decide (0 ≤ zs.getD j 0 ∧ zs.getD j 0 ≤ 255) && (decide (j = 0) || decide (zs.getD (j - 1) 0 < zs.getD j 0))

def idUp (zs : List Int) : Nat → Bool
  | 0 => true
  | j + 1 => idUp zs j && idAt zs j

theorem idUp_no (zs : List Int) (k m : Nat) (h : k < m) (hn : idAt zs k = false) : idUp zs m = false := by
  induction m with
  | zero => omega
  | succ m ih =>
    unfold idUp
    by_cases hk : k = m
    · subst hk; rw [hn, Bool.and_false]
    · rw [ih (by omega), Bool.false_and]
theorem idUp_succ (zs : List Int) (k : Nat) (h : idUp zs k = true) (hn : idAt zs k = true) : idUp zs (k + 1) = true := by
  unfold idUp; rw [h, hn]; rfl
theorem idUp_eq (zs : List Int) (k : Nat) : idUp zs (k + 1) = (idUp zs k && idAt zs k) := rfl
theorem idUp_zero (zs : List Int) : idUp zs 0 = true := rfl
attribute [irreducible] okUp idUp

/-- How many fields a shape has. -/
def shN (k : Int) : Nat := (shapeOf k).size / 2

theorem shape_even (k : Int) : (shapeOf k).size = 2 * shN k ∧ shN k ≤ 4 := by
  unfold shN shapeOf
  repeat' split
  all_goals exact ⟨by decide, by decide⟩

/-- What the model's OptOk answers. -/
def specOk (o : Ov) : Bool :=
  decide (1 ≤ o.kind ∧ o.kind ≤ 10) && !(restB o (hasUp (shapeOf o.kind) (shN o.kind)) || (decide (o.kind = 8) && !decide (1 ≤ (o.ids.length : Int) ∧ (o.ids.length : Int) ≤ 8))) && okUp o (shapeOf o.kind) (shN o.kind) && idUp o.ids o.ids.length

theorem ids_all {w W : World} {g b off i p vc : Nat} {o : Ov} (B : Box W g o (.slice (some ⟨b, off, none⟩) o.ids.length vc)) (hB : Below w.heap.size w W) (hi : i < o.ids.length) (hp : p < o.ids.length) :
    W.cell? ⟨g, 13, none⟩ = some (.slice (some ⟨b, off, none⟩) o.ids.length vc) ∧ W.cell? ⟨b, off + i, none⟩ = some (.int .i64 (o.ids[i]'hi)) ∧ W.cell? ⟨b, off + p, none⟩ = some (.int .i64 (o.ids[p]'hp)) ∧ Box W g o (.slice (some ⟨b, off, none⟩) o.ids.length vc) ∧ Below w.heap.size w W := by
  obtain ⟨a', c', he', hc'⟩ := B.r
  injection he' with e1 e2 e3
  subst e1
  obtain ⟨b', off', h, hcc⟩ := hc' (by omega)
  injection h with h
  injection h with h1 h2
  subst h1 h2
  exact ⟨(Cel.cell (show Cel _ g _ _ from B.c) 13).trans (o.ats _).2.2.2.2.2.2.2.2.2.2.2.2.2, hcc i hi, hcc p hp, B, hB⟩

theorem ids_keep {w W W' : World} {g b off i p vc : Nat} {x y : Int} {o : Ov} (h : W.cell? ⟨g, 13, none⟩ = some (.slice (some ⟨b, off, none⟩) o.ids.length vc) ∧ W.cell? ⟨b, off + i, none⟩ = some (.int .i64 x) ∧ W.cell? ⟨b, off + p, none⟩ = some (.int .i64 y) ∧ Box W g o (.slice (some ⟨b, off, none⟩) o.ids.length vc) ∧ Below w.heap.size w W)
    (hb : Below W.heap.size W W') :
    W'.cell? ⟨g, 13, none⟩ = some (.slice (some ⟨b, off, none⟩) o.ids.length vc) ∧ W'.cell? ⟨b, off + i, none⟩ = some (.int .i64 x) ∧ W'.cell? ⟨b, off + p, none⟩ = some (.int .i64 y) ∧ Box W' g o (.slice (some ⟨b, off, none⟩) o.ids.length vc) ∧ Below w.heap.size w W' :=
  ⟨by rw [hb.cell (World.block_lt_of_cell? _ _ h.1)]; exact h.1, by rw [hb.cell (World.block_lt_of_cell? _ _ h.2.1)]; exact h.2.1, by rw [hb.cell (World.block_lt_of_cell? _ _ h.2.2.1)]; exact h.2.2.1, h.2.2.2.1.kept hb, Below.then_ h.2.2.2.2 hb⟩

theorem ids_drew {w W : World} {g b off i p vc : Nat} {x y : Int} {o : Ov} (h : W.cell? ⟨g, 13, none⟩ = some (.slice (some ⟨b, off, none⟩) o.ids.length vc) ∧ W.cell? ⟨b, off + i, none⟩ = some (.int .i64 x) ∧ W.cell? ⟨b, off + p, none⟩ = some (.int .i64 y) ∧ Box W g o (.slice (some ⟨b, off, none⟩) o.ids.length vc) ∧ Below w.heap.size w W) :
    W.drew.cell? ⟨g, 13, none⟩ = some (.slice (some ⟨b, off, none⟩) o.ids.length vc) ∧ W.drew.cell? ⟨b, off + i, none⟩ = some (.int .i64 x) ∧ W.drew.cell? ⟨b, off + p, none⟩ = some (.int .i64 y) ∧ Box W.drew g o (.slice (some ⟨b, off, none⟩) o.ids.length vc) ∧ Below w.heap.size w W.drew :=
  ⟨h.1, h.2.1, h.2.2.1, ⟨h.2.2.2.1.c, h.2.2.2.1.r⟩, h.2.2.2.2.drew⟩

set_option linter.unusedSimpArgs false in
set_option maxRecDepth 100000 in
set_option maxHeartbeats 40000000 in
/-- Behind the first tests: the two loops. -/
theorem spec_ok_head (o : Ov) (v : Value) (w : World) (hv : Rd w v o.ids) (hn : o.ids.length ≤ 1048576) :
    Calls Try.prog 9 #[.agg (o.cells v)] w fun e w' => e = .returned (.bool (specOk o)) ∧ Below w.heap.size w w' := by
  have hB0 := below_new w (.cells (o.cells v) 26)
  have B0 : Box (w.alloc (.cells (o.cells v) 26)) w.heap.size o v := ⟨Cel.new w _ _, hv.below hB0⟩
  have c1 := fun W => spec_in o.kind 1 10 W
  generalize hr : specOk o = r
  have HR := Lib.hid hr
  clear hr
  have l0 := (Cel.cell (show Cel _ w.heap.size _ _ from B0.c) 0).trans (o.ats v).1
  by_cases h1 : 1 ≤ o.kind ∧ o.kind ≤ 10
  · rw [decide_eq_true h1] at c1
    obtain ⟨he, h4⟩ := shape_even o.kind
    have c2 := fun W => spec_shape o.kind h1.1 h1.2 W
    have c3 := fun W r => spec_rest o v (shapeOf o.kind) (shN o.kind) he (by omega) W r hn
    have HH := Lib.hid h1
    clear h1
    generalize hs1 : shapeOf o.kind = sh at *
    generalize hs2 : shN o.kind = n at *
    have HS := Lib.hid (And.intro hs1 hs2)
    clear hs1 hs2
    go_enter Try.func9, Try.ntmps9
    go_wp2_with (fail)
    with_reducible refine (c1 _).mono ?_
    rintro e w1 ⟨rfl, rfl⟩
    go_wp2_with (fail)
    with_reducible refine (c2 _).mono ?_
    rintro e w1 ⟨rfl, hb1⟩
    have B1 := B0.kept hb1
    have hB1 := Below.then_ hB0 hb1
    have l1 := (box_all (w := w) B1 hB1).2.1
    clear B0 hB0 hb1 c1 c2 l0
    obtain ⟨va, vc, rfl⟩ : ∃ x c, v = .slice x o.ids.length c := by obtain ⟨x, c, h, -⟩ := hv; exact ⟨x, c, h⟩
    generalize hrb : restB o (hasUp sh n) = rb at c3
    generalize hX : (rb || (decide (o.kind = 8) && !decide (1 ≤ (o.ids.length : Int) ∧ (o.ids.length : Int) ≤ 8))) = X
    have HX := Lib.hid (And.intro hrb hX)
    clear hrb hX hv
    go_upto_region 4 with (fail)
    go_cut [30] from 9 (fun s30 wx => s30 = .bool X ∧ Box wx w.heap.size o (.slice va o.ids.length vc) ∧ Below w.heap.size w wx)
    case first =>
      go_wp2_with (fail)
      with_reducible refine (c3 _ B1.r).mono ?_
      rintro e w2 ⟨rfl, hb2⟩
      have B2 := B1.kept hb2
      have hB2 := Below.then_ hB1 hb2
      have l0 := (Cel.cell (show Cel _ w.heap.size _ _ from B2.c) 0).trans (o.ats _).1
      have l13 := (Cel.cell (show Cel _ w.heap.size _ _ from B2.c) 13).trans (o.ats _).2.2.2.2.2.2.2.2.2.2.2.2.2
      have HF := Lib.hid (And.intro B2 hB2)
      clear B1 hB1 l1 hb2 c3 B2 hB2
      cases hrb : rb with
      | true =>
        have HB := Lib.hid hrb
        clear hrb
        go_wp2_with (fail)
        go_meet
        case rel => exact ⟨by rw [← HX.out.2, HB.out]; rfl, HF.out.1, HF.out.2⟩
      | false =>
        have HB := Lib.hid hrb
        clear hrb
        by_cases h8 : o.kind = 8
        · have H8 := Lib.hid h8
          rw [h8] at l0
          clear h8
          by_cases hl : 1 ≤ (o.ids.length : Int) ∧ (o.ids.length : Int) ≤ 8
          · have ci := fun W => spec_in (o.ids.length : Int) 1 8 W
            rw [decide_eq_true hl] at ci
            have HL := Lib.hid hl
            clear hl
            go_wp2_with (fail)
            with_reducible refine (ci _).mono ?_
            rintro e w3 ⟨rfl, rfl⟩
            go_wp2_with (fail)
            go_meet
            case rel => exact ⟨by rw [← HX.out.2, HB.out, decide_eq_true H8.out, decide_eq_true HL.out]; rfl, HF.out.1, HF.out.2⟩
          · have ci := fun W => spec_in (o.ids.length : Int) 1 8 W
            rw [decide_eq_false hl] at ci
            have HL := Lib.hid hl
            clear hl
            go_wp2_with (fail)
            with_reducible refine (ci _).mono ?_
            rintro e w3 ⟨rfl, rfl⟩
            go_wp2_with (fail)
            go_meet
            case rel => exact ⟨by rw [← HX.out.2, HB.out, decide_eq_true H8.out, decide_eq_false HL.out]; rfl, HF.out.1, HF.out.2⟩
        · have H8 := Lib.hid h8
          have k8 : (o.kind == 8) = false := by simpa using h8
          go_wp2_with (fail)
          go_meet
          case rel => exact ⟨by rw [← HX.out.2, HB.out, decide_eq_false H8.out]; rfl, HF.out.1, HF.out.2⟩
    case rest =>
      clear B1 hB1 l1 c3
      obtain ⟨rfl, Bx, hBx⟩ := hcut
      cases hX : X with
      | true =>
        have HT := Lib.hid hX
        clear hX
        go_wp2_with (fail)
        go_ret
        exact ⟨by rw [← HR.out]; unfold specOk; rw [HS.out.1, HS.out.2, HX.out.1, HX.out.2, HT.out]; simp, hBx⟩
      | false =>
        have HT := Lib.hid hX
        clear hX
        have HE := Lib.hid he
        clear he
        go_wp2_with (fail)
        go_loopw [4] (fun i wr => ∃ k x : Nat, x = 2 * k ∧ k ≤ n ∧ i = .int .i64 x ∧ okUp o sh k = true ∧ Box wr w.heap.size o (.slice va o.ids.length vc) ∧ Below w.heap.size w wr) (fun i _ => 8 - (intOf i).toNat)
        case atStart => exact ⟨0, 0, rfl, by omega, rfl, okUp_zero _ _, Bx, hBx⟩
        case round =>
          clear Bx hBx
          obtain ⟨k, x, hx, hk, rfl, hok, B, hB⟩ := hrel
          have he := HE.out
          have qb : (x : Int) ≤ 8 := by omega
          by_cases hlt : k < n
          · have q0 : (x : Int) + 1 < (sh.size : Int) := by omega
            have q1 : x < sh.size := by omega
            have q2 : x + 1 < sh.size := by omega
            have q3 : (0 : Int) ≤ (x : Int) ∧ (x : Int) < (sh.size : Int) := by omega
            have e2 : ((x : Int) + 1).toNat = x + 1 := by omega
            have hlet : letOf sh k = ((sh[x]'q1).toNat : Int) := by unfold letOf; rw [getElem!_pos sh (2 * k) (by omega)]; simp [hx]
            have hwid : widOf sh k = ((sh[x + 1]'q2).toNat : Int) := by unfold widOf; rw [getElem!_pos sh (2 * k + 1) (by omega)]; simp [hx]
            have hw255 : ((sh[x + 1]'q2).toNat : Int) ≤ 255 := by have := (sh[x + 1]'q2).toNat_lt; omega
            have hyes := fun h => okUp_succ o sh k hok h
            have hno := fun h => okUp_no o sh k n hlt h
            have cw := fun W => spec_wide ((sh[x + 1]'q2).toNat : Int) (by omega) hw255 W
            have cl := fun W => spec_numl o (.slice va o.ids.length vc) ((sh[x]'q1).toNat : Int) W
            have ctx := fun W => spec_textl o (.slice va o.ids.length vc) ((sh[x]'q1).toNat : Int) W
            have hat : okAt o (letOf sh k) (widOf sh k) = (match numL o ((sh[x]'q1).toNat : Int) with | some m => !decide (numText m (wideOf ((sh[x + 1]'q2).toNat : Int)) = ⟨#[]⟩) | none => decide (((textL o ((sh[x]'q1).toNat : Int)).size : Int) = wideOf ((sh[x + 1]'q2).toNat : Int))) := by rw [hlet, hwid]; rfl
            have HP := Lib.hid (And.intro hyes (And.intro hno hx))
            clear hyes hno hlet hwid hok hx he
            generalize wideOf ((sh[x + 1]'q2).toNat : Int) = wd at cw hat
            generalize textL o ((sh[x]'q1).toNat : Int) = tx at ctx hat
            have S0 := box_drew B hB
            clear B hB
            cases hnum : numL o ((sh[x]'q1).toNat : Int) with
            | some m =>
              rw [hnum] at cl hat
              simp only [Option.getD_some, Option.isSome_some] at cl hat
              have HA := Lib.hid hat
              clear hnum hat ctx
              have ct := fun W => spec_numTextA m wd W
              go_wp2_with (fail)
              go_region_held3 (fun W => Box W w.heap.size o (.slice va o.ids.length vc) ∧ (loadCells ⟨w.heap.size, 0, none⟩ 14).run Try.prog W = .ok (o.cells (.slice va o.ids.length vc)) W ∧ Below w.heap.size w W)
                (first | exact S0 | exact box_keep (by assumption) (by assumption) | go_keep)
                (first
                  | (go_at_call 36; (with_reducible refine (cl _).mono ?_); rintro e w3 ⟨rfl, hb3⟩))
              have S3 : Box w3 w.heap.size o (.slice va o.ids.length vc) ∧ (loadCells ⟨w.heap.size, 0, none⟩ 14).run Try.prog w3 = .ok (o.cells (.slice va o.ids.length vc)) w3 ∧ Below w.heap.size w w3 := by assumption
              clear S0 hb3 cl
              go_wp2_with (fail)
              with_reducible refine (cw _).mono ?_
              rintro e w4 ⟨rfl, rfl⟩
              go_wp2_with (fail)
              have S4 := box_drew S3.1 S3.2.2
              clear S3
              by_cases hz : numText m wd = ⟨#[]⟩
              · have z1 := empty_b1 (numText m wd)
                rw [decide_eq_true hz] at z1
                have z2 : (numText m wd).toList = [] := by simpa using z1
                have HZ := Lib.hid hz
                clear hz
                generalize numText m wd = nt at *
                refine wp_region_held_drew (S := fun W => Box W w.heap.size o (.slice va o.ids.length vc) ∧ (loadCells ⟨w.heap.size, 0, none⟩ 14).run Try.prog W = .ok (o.cells (.slice va o.ids.length vc)) W ∧ Below w.heap.size w W) (by kernel_rfl) S4 (fun hHeld => ?_)
                refine take_yes (i := 0) (oi := { dst := some 51, op := Op.move (Operand.tmp 6), type := 4, pos := "l06_options.go:89", after := #[], guard := none }) (v := .bool true) rfl (by kernel_rfl) (by kernel_rfl) (by kernel_rfl) (fun _ _ _ h => h) (by rfl) (fun w hSw => by (try dsimp only at hSw); go_simp) (by assumption) ?_
                try simp only [Act.put, List.setIfInBounds_toArray, List.set_cons_zero, List.set_cons_succ]
                refine take_yes (i := 1) (oi := { dst := some 52, op := Op.move (Operand.tmp 51), type := 4, pos := "l06_options.go:89", after := #[{ on := 0, ground := Ground.data }], guard := none }) (v := .bool true) rfl (by kernel_rfl) (by kernel_rfl) (by kernel_rfl) (fun _ _ _ h => h) (by rfl) (fun w hSw => by (try dsimp only at hSw); go_simp) (by assumption) ?_
                try simp only [Act.put, List.setIfInBounds_toArray, List.set_cons_zero, List.set_cons_succ]
                refine take_yes (i := 2) (oi := { dst := some 53, op := Op.move (Operand.tmp 5), type := 3, pos := "l06_options.go:89", after := #[{ on := 1, ground := Ground.guard }], guard := some (1, true) }) (v := .int .i64 m) rfl (by kernel_rfl) (by kernel_rfl) (by kernel_rfl) (fun _ _ _ h => h) (by rfl) (fun w hSw => by (try dsimp only at hSw); go_simp) (by assumption) ?_
                try simp only [Act.put, List.setIfInBounds_toArray, List.set_cons_zero, List.set_cons_succ]
                refine take_yes (i := 3) (oi := { dst := some 54, op := Op.move (Operand.tmp 7), type := 3, pos := "l06_options.go:89", after := #[{ on := 1, ground := Ground.guard }], guard := some (1, true) }) (v := .int .i64 wd) rfl (by kernel_rfl) (by kernel_rfl) (by kernel_rfl) (fun _ _ _ h => h) (by rfl) (fun w hSw => by (try dsimp only at hSw); go_simp) (by assumption) ?_
                try simp only [Act.put, List.setIfInBounds_toArray, List.set_cons_zero, List.set_cons_succ]
                refine wpAnyH_ready (rs := [4]) (by kernel_rfl) (by simp) ?_
                refine AllReadyH.cons (o := { dst := some 55, op := Op.call { callee := Callee.value (Operand.func 38), args := #[Operand.tmp 53, Operand.tmp 54], argTypes := #[3, 3] }, type := 9, pos := "l06_options.go:89", after := #[{ on := 2, ground := Ground.data }, { on := 3, ground := Ground.data }, { on := 1, ground := Ground.chain }, { on := 1, ground := Ground.guard }], guard := some (1, true) }) rfl (fun K hK => ?_) AllReadyH.nil
                go_simp
                with_reducible refine (ct _).mono ?_
                rintro e w5 ⟨rfl, hb5⟩
                refine hK.out _ _ (box_keep (by assumption) hb5) (fun hHeld => ?_)
                clear hK K
                try simp only [Act.put, List.setIfInBounds_toArray, List.set_cons_zero, List.set_cons_succ]
                refine take_yes (i := 5) (oi := { dst := some 56, op := Op.binOp BinOp.eql 9 (Operand.tmp 55) (Operand.const (Value.string { data := #[] })) 9, type := 4, pos := "l06_options.go:89", after := #[{ on := 4, ground := Ground.data }, { on := 1, ground := Ground.guard }], guard := some (1, true) }) (v := .bool true) rfl (by kernel_rfl) (by kernel_rfl) (by kernel_rfl) (fun _ _ _ h => h) (by rfl) (fun w hSw => by (try dsimp only at hSw); go_simp) (by assumption) ?_
                try simp only [Act.put, List.setIfInBounds_toArray, List.set_cons_zero, List.set_cons_succ]
                refine take_yes (i := 6) (oi := { dst := some 57, op := Op.pick (Operand.tmp 52) (Operand.tmp 56) (Operand.const (Value.bool false)), type := 4, pos := "l06_options.go:89", after := #[{ on := 1, ground := Ground.data }, { on := 5, ground := Ground.data }], guard := none }) (v := .bool true) rfl (by kernel_rfl) (by kernel_rfl) (by kernel_rfl) (fun _ _ _ h => h) (by rfl) (fun w hSw => by (try dsimp only at hSw); go_simp) (by assumption) ?_
                try simp only [Act.put, List.setIfInBounds_toArray, List.set_cons_zero, List.set_cons_succ]
                refine take_yes (i := 7) (oi := { dst := some 58, op := Op.move (Operand.tmp 57), type := 4, pos := "l06_options.go:89", after := #[{ on := 6, ground := Ground.data }, { on := 4, ground := Ground.chain }], guard := none }) (v := .bool true) rfl (by kernel_rfl) (by kernel_rfl) (by kernel_rfl) (fun _ _ _ h => h) (by rfl) (fun w hSw => by (try dsimp only at hSw); go_simp) (by assumption) ?_
                try simp only [Act.put, List.setIfInBounds_toArray, List.set_cons_zero, List.set_cons_succ]
                refine take_no (i := 8) (oi := { dst := some 59, op := Op.move (Operand.tmp 6), type := 4, pos := "l06_options.go:89", after := #[{ on := 7, ground := Ground.guard }], guard := some (7, false) }) rfl (by kernel_rfl) (by kernel_rfl) (by kernel_rfl) (fun _ _ _ h => h) (by rfl) (by assumption) ?_
                try simp only [Act.put, List.setIfInBounds_toArray, List.set_cons_zero, List.set_cons_succ]
                refine take_no (i := 9) (oi := { dst := some 60, op := Op.unOp UnOp.not 4 (Operand.tmp 59), type := 4, pos := "l06_options.go:89", after := #[{ on := 8, ground := Ground.data }, { on := 7, ground := Ground.guard }], guard := some (7, false) }) rfl (by kernel_rfl) (by kernel_rfl) (by kernel_rfl) (fun _ _ _ h => h) (by rfl) (by assumption) ?_
                try simp only [Act.put, List.setIfInBounds_toArray, List.set_cons_zero, List.set_cons_succ]
                refine take_no (i := 10) (oi := { dst := some 61, op := Op.move (Operand.tmp 60), type := 4, pos := "l06_options.go:89", after := #[{ on := 9, ground := Ground.data }, { on := 7, ground := Ground.chain }, { on := 7, ground := Ground.guard }], guard := some (7, false) }) rfl (by kernel_rfl) (by kernel_rfl) (by kernel_rfl) (fun _ _ _ h => h) (by rfl) (by assumption) ?_
                try simp only [Act.put, List.setIfInBounds_toArray, List.set_cons_zero, List.set_cons_succ]
                refine take_no (i := 11) (oi := { dst := some 62, op := Op.load 26 (Operand.tmp 1), type := 26, pos := "l06_options.go:89", after := #[{ on := 10, ground := Ground.guard }], guard := some (10, true) }) rfl (by kernel_rfl) (by kernel_rfl) (by kernel_rfl) (fun _ _ _ h => h) (by rfl) (by assumption) ?_
                try simp only [Act.put, List.setIfInBounds_toArray, List.set_cons_zero, List.set_cons_succ]
                refine take_no (i := 12) (oi := { dst := some 63, op := Op.move (Operand.tmp 3), type := 9, pos := "l06_options.go:89", after := #[{ on := 10, ground := Ground.guard }], guard := some (10, true) }) rfl (by kernel_rfl) (by kernel_rfl) (by kernel_rfl) (fun _ _ _ h => h) (by rfl) (by assumption) ?_
                try simp only [Act.put, List.setIfInBounds_toArray, List.set_cons_zero, List.set_cons_succ]
                refine take_no (i := 13) (oi := { dst := some 64, op := Op.move (Operand.tmp 4), type := 3, pos := "l06_options.go:89", after := #[{ on := 10, ground := Ground.guard }], guard := some (10, true) }) rfl (by kernel_rfl) (by kernel_rfl) (by kernel_rfl) (fun _ _ _ h => h) (by rfl) (by assumption) ?_
                try simp only [Act.put, List.setIfInBounds_toArray, List.set_cons_zero, List.set_cons_succ]
                refine take_no (i := 14) (oi := { dst := some 65, op := Op.index 9 (Operand.tmp 63) (Operand.tmp 64), type := 5, pos := "l06_options.go:89", after := #[{ on := 12, ground := Ground.data }, { on := 13, ground := Ground.data }, { on := 10, ground := Ground.guard }], guard := some (10, true) }) rfl (by kernel_rfl) (by kernel_rfl) (by kernel_rfl) (fun _ _ _ h => h) (by rfl) (by assumption) ?_
                try simp only [Act.put, List.setIfInBounds_toArray, List.set_cons_zero, List.set_cons_succ]
                refine take_no (i := 15) (oi := { dst := some 66, op := Op.call { callee := Callee.value (Operand.func 39), args := #[Operand.tmp 62, Operand.tmp 65], argTypes := #[26, 5] }, type := 9, pos := "l06_options.go:89", after := #[{ on := 11, ground := Ground.data }, { on := 14, ground := Ground.data }, { on := 10, ground := Ground.chain }, { on := 10, ground := Ground.guard }], guard := some (10, true) }) rfl (by kernel_rfl) (by kernel_rfl) (by kernel_rfl) (fun _ _ _ h => h) (by rfl) (by assumption) ?_
                try simp only [Act.put, List.setIfInBounds_toArray, List.set_cons_zero, List.set_cons_succ]
                refine take_no (i := 16) (oi := { dst := some 67, op := Op.call { callee := Callee.builtin Builtin.len, args := #[Operand.tmp 66], argTypes := #[9] }, type := 3, pos := "l06_options.go:89", after := #[{ on := 15, ground := Ground.data }, { on := 10, ground := Ground.guard }], guard := some (10, true) }) rfl (by kernel_rfl) (by kernel_rfl) (by kernel_rfl) (fun _ _ _ h => h) (by rfl) (by assumption) ?_
                try simp only [Act.put, List.setIfInBounds_toArray, List.set_cons_zero, List.set_cons_succ]
                refine take_no (i := 17) (oi := { dst := some 68, op := Op.move (Operand.tmp 7), type := 3, pos := "l06_options.go:89", after := #[{ on := 10, ground := Ground.guard }], guard := some (10, true) }) rfl (by kernel_rfl) (by kernel_rfl) (by kernel_rfl) (fun _ _ _ h => h) (by rfl) (by assumption) ?_
                try simp only [Act.put, List.setIfInBounds_toArray, List.set_cons_zero, List.set_cons_succ]
                refine take_no (i := 18) (oi := { dst := some 69, op := Op.binOp BinOp.neq 3 (Operand.tmp 67) (Operand.tmp 68) 3, type := 4, pos := "l06_options.go:89", after := #[{ on := 16, ground := Ground.data }, { on := 17, ground := Ground.data }, { on := 10, ground := Ground.guard }], guard := some (10, true) }) rfl (by kernel_rfl) (by kernel_rfl) (by kernel_rfl) (fun _ _ _ h => h) (by rfl) (by assumption) ?_
                try simp only [Act.put, List.setIfInBounds_toArray, List.set_cons_zero, List.set_cons_succ]
                refine take_no (i := 19) (oi := { dst := some 70, op := Op.pick (Operand.tmp 61) (Operand.tmp 69) (Operand.const (Value.bool false)), type := 4, pos := "l06_options.go:89", after := #[{ on := 10, ground := Ground.data }, { on := 18, ground := Ground.data }, { on := 7, ground := Ground.guard }], guard := some (7, false) }) rfl (by kernel_rfl) (by kernel_rfl) (by kernel_rfl) (fun _ _ _ h => h) (by rfl) (by assumption) ?_
                try simp only [Act.put, List.setIfInBounds_toArray, List.set_cons_zero, List.set_cons_succ]
                refine take_yes (i := 20) (oi := { dst := some 71, op := Op.pick (Operand.tmp 58) (Operand.const (Value.bool true)) (Operand.tmp 70), type := 4, pos := "l06_options.go:89", after := #[{ on := 7, ground := Ground.data }, { on := 19, ground := Ground.data }], guard := none }) (v := .bool true) rfl (by kernel_rfl) (by kernel_rfl) (by kernel_rfl) (fun _ _ _ h => h) (by rfl) (fun w hSw => by (try dsimp only at hSw); go_simp) (by assumption) ?_
                try simp only [Act.put, List.setIfInBounds_toArray, List.set_cons_zero, List.set_cons_succ]
                refine wpAnyH_done (by kernel_rfl) ?_ _
                have S5 : Box w5 w.heap.size o (.slice va o.ids.length vc) ∧ (loadCells ⟨w.heap.size, 0, none⟩ 14).run Try.prog w5 = .ok (o.cells (.slice va o.ids.length vc)) w5 ∧ Below w.heap.size w w5 := by assumption
                have hBf := S5.2.2
                clear S4 hb5 S5
                go_wp2_with (fail)
                go_ret
                exact ⟨by rw [← HR.out]; unfold specOk; rw [HS.out.1, HS.out.2, HP.out.2.1 (by rw [HA.out, decide_eq_true HZ.out]; rfl)]; simp, hBf⟩
              · have z1 := empty_b1 (numText m wd)
                rw [decide_eq_false hz] at z1
                have z2 : ¬ (numText m wd).toList = [] := fun h => by rw [h] at z1; cases z1
                have HZ := Lib.hid hz
                clear hz
                generalize numText m wd = nt at *
                refine wp_region_held_drew (S := fun W => Box W w.heap.size o (.slice va o.ids.length vc) ∧ (loadCells ⟨w.heap.size, 0, none⟩ 14).run Try.prog W = .ok (o.cells (.slice va o.ids.length vc)) W ∧ Below w.heap.size w W) (by kernel_rfl) S4 (fun hHeld => ?_)
                refine take_yes (i := 0) (oi := { dst := some 51, op := Op.move (Operand.tmp 6), type := 4, pos := "l06_options.go:89", after := #[], guard := none }) (v := .bool true) rfl (by kernel_rfl) (by kernel_rfl) (by kernel_rfl) (fun _ _ _ h => h) (by rfl) (fun w hSw => by (try dsimp only at hSw); go_simp) (by assumption) ?_
                try simp only [Act.put, List.setIfInBounds_toArray, List.set_cons_zero, List.set_cons_succ]
                refine take_yes (i := 1) (oi := { dst := some 52, op := Op.move (Operand.tmp 51), type := 4, pos := "l06_options.go:89", after := #[{ on := 0, ground := Ground.data }], guard := none }) (v := .bool true) rfl (by kernel_rfl) (by kernel_rfl) (by kernel_rfl) (fun _ _ _ h => h) (by rfl) (fun w hSw => by (try dsimp only at hSw); go_simp) (by assumption) ?_
                try simp only [Act.put, List.setIfInBounds_toArray, List.set_cons_zero, List.set_cons_succ]
                refine take_yes (i := 2) (oi := { dst := some 53, op := Op.move (Operand.tmp 5), type := 3, pos := "l06_options.go:89", after := #[{ on := 1, ground := Ground.guard }], guard := some (1, true) }) (v := .int .i64 m) rfl (by kernel_rfl) (by kernel_rfl) (by kernel_rfl) (fun _ _ _ h => h) (by rfl) (fun w hSw => by (try dsimp only at hSw); go_simp) (by assumption) ?_
                try simp only [Act.put, List.setIfInBounds_toArray, List.set_cons_zero, List.set_cons_succ]
                refine take_yes (i := 3) (oi := { dst := some 54, op := Op.move (Operand.tmp 7), type := 3, pos := "l06_options.go:89", after := #[{ on := 1, ground := Ground.guard }], guard := some (1, true) }) (v := .int .i64 wd) rfl (by kernel_rfl) (by kernel_rfl) (by kernel_rfl) (fun _ _ _ h => h) (by rfl) (fun w hSw => by (try dsimp only at hSw); go_simp) (by assumption) ?_
                try simp only [Act.put, List.setIfInBounds_toArray, List.set_cons_zero, List.set_cons_succ]
                refine wpAnyH_ready (rs := [4]) (by kernel_rfl) (by simp) ?_
                refine AllReadyH.cons (o := { dst := some 55, op := Op.call { callee := Callee.value (Operand.func 38), args := #[Operand.tmp 53, Operand.tmp 54], argTypes := #[3, 3] }, type := 9, pos := "l06_options.go:89", after := #[{ on := 2, ground := Ground.data }, { on := 3, ground := Ground.data }, { on := 1, ground := Ground.chain }, { on := 1, ground := Ground.guard }], guard := some (1, true) }) rfl (fun K hK => ?_) AllReadyH.nil
                go_simp
                with_reducible refine (ct _).mono ?_
                rintro e w5 ⟨rfl, hb5⟩
                refine hK.out _ _ (box_keep (by assumption) hb5) (fun hHeld => ?_)
                clear hK K
                try simp only [Act.put, List.setIfInBounds_toArray, List.set_cons_zero, List.set_cons_succ]
                refine take_yes (i := 5) (oi := { dst := some 56, op := Op.binOp BinOp.eql 9 (Operand.tmp 55) (Operand.const (Value.string { data := #[] })) 9, type := 4, pos := "l06_options.go:89", after := #[{ on := 4, ground := Ground.data }, { on := 1, ground := Ground.guard }], guard := some (1, true) }) (v := .bool false) rfl (by kernel_rfl) (by kernel_rfl) (by kernel_rfl) (fun _ _ _ h => h) (by rfl) (fun w hSw => by (try dsimp only at hSw); go_simp) (by assumption) ?_
                try simp only [Act.put, List.setIfInBounds_toArray, List.set_cons_zero, List.set_cons_succ]
                refine take_yes (i := 6) (oi := { dst := some 57, op := Op.pick (Operand.tmp 52) (Operand.tmp 56) (Operand.const (Value.bool false)), type := 4, pos := "l06_options.go:89", after := #[{ on := 1, ground := Ground.data }, { on := 5, ground := Ground.data }], guard := none }) (v := .bool false) rfl (by kernel_rfl) (by kernel_rfl) (by kernel_rfl) (fun _ _ _ h => h) (by rfl) (fun w hSw => by (try dsimp only at hSw); go_simp) (by assumption) ?_
                try simp only [Act.put, List.setIfInBounds_toArray, List.set_cons_zero, List.set_cons_succ]
                refine take_yes (i := 7) (oi := { dst := some 58, op := Op.move (Operand.tmp 57), type := 4, pos := "l06_options.go:89", after := #[{ on := 6, ground := Ground.data }, { on := 4, ground := Ground.chain }], guard := none }) (v := .bool false) rfl (by kernel_rfl) (by kernel_rfl) (by kernel_rfl) (fun _ _ _ h => h) (by rfl) (fun w hSw => by (try dsimp only at hSw); go_simp) (by assumption) ?_
                try simp only [Act.put, List.setIfInBounds_toArray, List.set_cons_zero, List.set_cons_succ]
                refine take_yes (i := 8) (oi := { dst := some 59, op := Op.move (Operand.tmp 6), type := 4, pos := "l06_options.go:89", after := #[{ on := 7, ground := Ground.guard }], guard := some (7, false) }) (v := .bool true) rfl (by kernel_rfl) (by kernel_rfl) (by kernel_rfl) (fun _ _ _ h => h) (by rfl) (fun w hSw => by (try dsimp only at hSw); go_simp) (by assumption) ?_
                try simp only [Act.put, List.setIfInBounds_toArray, List.set_cons_zero, List.set_cons_succ]
                refine take_yes (i := 9) (oi := { dst := some 60, op := Op.unOp UnOp.not 4 (Operand.tmp 59), type := 4, pos := "l06_options.go:89", after := #[{ on := 8, ground := Ground.data }, { on := 7, ground := Ground.guard }], guard := some (7, false) }) (v := .bool false) rfl (by kernel_rfl) (by kernel_rfl) (by kernel_rfl) (fun _ _ _ h => h) (by rfl) (fun w hSw => by (try dsimp only at hSw); go_simp) (by assumption) ?_
                try simp only [Act.put, List.setIfInBounds_toArray, List.set_cons_zero, List.set_cons_succ]
                refine take_yes (i := 10) (oi := { dst := some 61, op := Op.move (Operand.tmp 60), type := 4, pos := "l06_options.go:89", after := #[{ on := 9, ground := Ground.data }, { on := 7, ground := Ground.chain }, { on := 7, ground := Ground.guard }], guard := some (7, false) }) (v := .bool false) rfl (by kernel_rfl) (by kernel_rfl) (by kernel_rfl) (fun _ _ _ h => h) (by rfl) (fun w hSw => by (try dsimp only at hSw); go_simp) (by assumption) ?_
                try simp only [Act.put, List.setIfInBounds_toArray, List.set_cons_zero, List.set_cons_succ]
                refine take_no (i := 11) (oi := { dst := some 62, op := Op.load 26 (Operand.tmp 1), type := 26, pos := "l06_options.go:89", after := #[{ on := 10, ground := Ground.guard }], guard := some (10, true) }) rfl (by kernel_rfl) (by kernel_rfl) (by kernel_rfl) (fun _ _ _ h => h) (by rfl) (by assumption) ?_
                try simp only [Act.put, List.setIfInBounds_toArray, List.set_cons_zero, List.set_cons_succ]
                refine take_no (i := 12) (oi := { dst := some 63, op := Op.move (Operand.tmp 3), type := 9, pos := "l06_options.go:89", after := #[{ on := 10, ground := Ground.guard }], guard := some (10, true) }) rfl (by kernel_rfl) (by kernel_rfl) (by kernel_rfl) (fun _ _ _ h => h) (by rfl) (by assumption) ?_
                try simp only [Act.put, List.setIfInBounds_toArray, List.set_cons_zero, List.set_cons_succ]
                refine take_no (i := 13) (oi := { dst := some 64, op := Op.move (Operand.tmp 4), type := 3, pos := "l06_options.go:89", after := #[{ on := 10, ground := Ground.guard }], guard := some (10, true) }) rfl (by kernel_rfl) (by kernel_rfl) (by kernel_rfl) (fun _ _ _ h => h) (by rfl) (by assumption) ?_
                try simp only [Act.put, List.setIfInBounds_toArray, List.set_cons_zero, List.set_cons_succ]
                refine take_no (i := 14) (oi := { dst := some 65, op := Op.index 9 (Operand.tmp 63) (Operand.tmp 64), type := 5, pos := "l06_options.go:89", after := #[{ on := 12, ground := Ground.data }, { on := 13, ground := Ground.data }, { on := 10, ground := Ground.guard }], guard := some (10, true) }) rfl (by kernel_rfl) (by kernel_rfl) (by kernel_rfl) (fun _ _ _ h => h) (by rfl) (by assumption) ?_
                try simp only [Act.put, List.setIfInBounds_toArray, List.set_cons_zero, List.set_cons_succ]
                refine take_no (i := 15) (oi := { dst := some 66, op := Op.call { callee := Callee.value (Operand.func 39), args := #[Operand.tmp 62, Operand.tmp 65], argTypes := #[26, 5] }, type := 9, pos := "l06_options.go:89", after := #[{ on := 11, ground := Ground.data }, { on := 14, ground := Ground.data }, { on := 10, ground := Ground.chain }, { on := 10, ground := Ground.guard }], guard := some (10, true) }) rfl (by kernel_rfl) (by kernel_rfl) (by kernel_rfl) (fun _ _ _ h => h) (by rfl) (by assumption) ?_
                try simp only [Act.put, List.setIfInBounds_toArray, List.set_cons_zero, List.set_cons_succ]
                refine take_no (i := 16) (oi := { dst := some 67, op := Op.call { callee := Callee.builtin Builtin.len, args := #[Operand.tmp 66], argTypes := #[9] }, type := 3, pos := "l06_options.go:89", after := #[{ on := 15, ground := Ground.data }, { on := 10, ground := Ground.guard }], guard := some (10, true) }) rfl (by kernel_rfl) (by kernel_rfl) (by kernel_rfl) (fun _ _ _ h => h) (by rfl) (by assumption) ?_
                try simp only [Act.put, List.setIfInBounds_toArray, List.set_cons_zero, List.set_cons_succ]
                refine take_no (i := 17) (oi := { dst := some 68, op := Op.move (Operand.tmp 7), type := 3, pos := "l06_options.go:89", after := #[{ on := 10, ground := Ground.guard }], guard := some (10, true) }) rfl (by kernel_rfl) (by kernel_rfl) (by kernel_rfl) (fun _ _ _ h => h) (by rfl) (by assumption) ?_
                try simp only [Act.put, List.setIfInBounds_toArray, List.set_cons_zero, List.set_cons_succ]
                refine take_no (i := 18) (oi := { dst := some 69, op := Op.binOp BinOp.neq 3 (Operand.tmp 67) (Operand.tmp 68) 3, type := 4, pos := "l06_options.go:89", after := #[{ on := 16, ground := Ground.data }, { on := 17, ground := Ground.data }, { on := 10, ground := Ground.guard }], guard := some (10, true) }) rfl (by kernel_rfl) (by kernel_rfl) (by kernel_rfl) (fun _ _ _ h => h) (by rfl) (by assumption) ?_
                try simp only [Act.put, List.setIfInBounds_toArray, List.set_cons_zero, List.set_cons_succ]
                refine take_yes (i := 19) (oi := { dst := some 70, op := Op.pick (Operand.tmp 61) (Operand.tmp 69) (Operand.const (Value.bool false)), type := 4, pos := "l06_options.go:89", after := #[{ on := 10, ground := Ground.data }, { on := 18, ground := Ground.data }, { on := 7, ground := Ground.guard }], guard := some (7, false) }) (v := .bool false) rfl (by kernel_rfl) (by kernel_rfl) (by kernel_rfl) (fun _ _ _ h => h) (by rfl) (fun w hSw => by (try dsimp only at hSw); go_simp) (by assumption) ?_
                try simp only [Act.put, List.setIfInBounds_toArray, List.set_cons_zero, List.set_cons_succ]
                refine take_yes (i := 20) (oi := { dst := some 71, op := Op.pick (Operand.tmp 58) (Operand.const (Value.bool true)) (Operand.tmp 70), type := 4, pos := "l06_options.go:89", after := #[{ on := 7, ground := Ground.data }, { on := 19, ground := Ground.data }], guard := none }) (v := .bool false) rfl (by kernel_rfl) (by kernel_rfl) (by kernel_rfl) (fun _ _ _ h => h) (by rfl) (fun w hSw => by (try dsimp only at hSw); go_simp) (by assumption) ?_
                try simp only [Act.put, List.setIfInBounds_toArray, List.set_cons_zero, List.set_cons_succ]
                refine wpAnyH_done (by kernel_rfl) ?_ _
                have S5 : Box w5 w.heap.size o (.slice va o.ids.length vc) ∧ (loadCells ⟨w.heap.size, 0, none⟩ 14).run Try.prog w5 = .ok (o.cells (.slice va o.ids.length vc)) w5 ∧ Below w.heap.size w w5 := by assumption
                clear S4 hb5
                have HS5 := Lib.hid S5
                clear S5
                go_wp2_with (fail)
                go_roundw
                case rel => exact ⟨k + 1, x + 2, by have := HP.out.2.2; omega, by omega, by go_num, HP.out.1 (by rw [HA.out, decide_eq_false HZ.out]; rfl), HS5.out.1, HS5.out.2.2⟩
                case measure => have := HP.out.2.2; simp [intOf]; omega
            | none =>
              rw [hnum] at cl hat
              simp only [Option.getD_none, Option.isSome_none] at cl hat
              have HA := Lib.hid hat
              clear hnum hat
              go_wp2_with (fail)
              go_region_held3 (fun W => Box W w.heap.size o (.slice va o.ids.length vc) ∧ (loadCells ⟨w.heap.size, 0, none⟩ 14).run Try.prog W = .ok (o.cells (.slice va o.ids.length vc)) W ∧ Below w.heap.size w W)
                (first | exact S0 | exact box_keep (by assumption) (by assumption) | go_keep)
                (first
                  | (go_at_call 36; (with_reducible refine (cl _).mono ?_); rintro e w3 ⟨rfl, hb3⟩))
              have S3 : Box w3 w.heap.size o (.slice va o.ids.length vc) ∧ (loadCells ⟨w.heap.size, 0, none⟩ 14).run Try.prog w3 = .ok (o.cells (.slice va o.ids.length vc)) w3 ∧ Below w.heap.size w w3 := by assumption
              clear S0 hb3 cl
              go_wp2_with (fail)
              with_reducible refine (cw _).mono ?_
              rintro e w4 ⟨rfl, rfl⟩
              go_wp2_with (fail)
              have S4 := box_drew S3.1 S3.2.2
              clear S3
              by_cases hz : (tx.size : Int) = wd
              · have z1 : ((tx.size : Int) == wd) = true := by simpa using hz
                have HZ := Lib.hid hz
                refine wp_region_held_drew (S := fun W => Box W w.heap.size o (.slice va o.ids.length vc) ∧ (loadCells ⟨w.heap.size, 0, none⟩ 14).run Try.prog W = .ok (o.cells (.slice va o.ids.length vc)) W ∧ Below w.heap.size w W) (by kernel_rfl) S4 (fun hHeld => ?_)
                refine take_yes (i := 0) (oi := { dst := some 51, op := Op.move (Operand.tmp 6), type := 4, pos := "l06_options.go:89", after := #[], guard := none }) (v := .bool false) rfl (by kernel_rfl) (by kernel_rfl) (by kernel_rfl) (fun _ _ _ h => h) (by rfl) (fun w hSw => by (try dsimp only at hSw); go_simp) (by assumption) ?_
                try simp only [Act.put, List.setIfInBounds_toArray, List.set_cons_zero, List.set_cons_succ]
                refine take_yes (i := 1) (oi := { dst := some 52, op := Op.move (Operand.tmp 51), type := 4, pos := "l06_options.go:89", after := #[{ on := 0, ground := Ground.data }], guard := none }) (v := .bool false) rfl (by kernel_rfl) (by kernel_rfl) (by kernel_rfl) (fun _ _ _ h => h) (by rfl) (fun w hSw => by (try dsimp only at hSw); go_simp) (by assumption) ?_
                try simp only [Act.put, List.setIfInBounds_toArray, List.set_cons_zero, List.set_cons_succ]
                refine take_no (i := 2) (oi := { dst := some 53, op := Op.move (Operand.tmp 5), type := 3, pos := "l06_options.go:89", after := #[{ on := 1, ground := Ground.guard }], guard := some (1, true) }) rfl (by kernel_rfl) (by kernel_rfl) (by kernel_rfl) (fun _ _ _ h => h) (by rfl) (by assumption) ?_
                try simp only [Act.put, List.setIfInBounds_toArray, List.set_cons_zero, List.set_cons_succ]
                refine take_no (i := 3) (oi := { dst := some 54, op := Op.move (Operand.tmp 7), type := 3, pos := "l06_options.go:89", after := #[{ on := 1, ground := Ground.guard }], guard := some (1, true) }) rfl (by kernel_rfl) (by kernel_rfl) (by kernel_rfl) (fun _ _ _ h => h) (by rfl) (by assumption) ?_
                try simp only [Act.put, List.setIfInBounds_toArray, List.set_cons_zero, List.set_cons_succ]
                refine take_no (i := 4) (oi := { dst := some 55, op := Op.call { callee := Callee.value (Operand.func 38), args := #[Operand.tmp 53, Operand.tmp 54], argTypes := #[3, 3] }, type := 9, pos := "l06_options.go:89", after := #[{ on := 2, ground := Ground.data }, { on := 3, ground := Ground.data }, { on := 1, ground := Ground.chain }, { on := 1, ground := Ground.guard }], guard := some (1, true) }) rfl (by kernel_rfl) (by kernel_rfl) (by kernel_rfl) (fun _ _ _ h => h) (by rfl) (by assumption) ?_
                try simp only [Act.put, List.setIfInBounds_toArray, List.set_cons_zero, List.set_cons_succ]
                refine take_no (i := 5) (oi := { dst := some 56, op := Op.binOp BinOp.eql 9 (Operand.tmp 55) (Operand.const (Value.string { data := #[] })) 9, type := 4, pos := "l06_options.go:89", after := #[{ on := 4, ground := Ground.data }, { on := 1, ground := Ground.guard }], guard := some (1, true) }) rfl (by kernel_rfl) (by kernel_rfl) (by kernel_rfl) (fun _ _ _ h => h) (by rfl) (by assumption) ?_
                try simp only [Act.put, List.setIfInBounds_toArray, List.set_cons_zero, List.set_cons_succ]
                refine take_yes (i := 6) (oi := { dst := some 57, op := Op.pick (Operand.tmp 52) (Operand.tmp 56) (Operand.const (Value.bool false)), type := 4, pos := "l06_options.go:89", after := #[{ on := 1, ground := Ground.data }, { on := 5, ground := Ground.data }], guard := none }) (v := .bool false) rfl (by kernel_rfl) (by kernel_rfl) (by kernel_rfl) (fun _ _ _ h => h) (by rfl) (fun w hSw => by (try dsimp only at hSw); go_simp) (by assumption) ?_
                try simp only [Act.put, List.setIfInBounds_toArray, List.set_cons_zero, List.set_cons_succ]
                refine take_yes (i := 7) (oi := { dst := some 58, op := Op.move (Operand.tmp 57), type := 4, pos := "l06_options.go:89", after := #[{ on := 6, ground := Ground.data }, { on := 4, ground := Ground.chain }], guard := none }) (v := .bool false) rfl (by kernel_rfl) (by kernel_rfl) (by kernel_rfl) (fun _ _ _ h => h) (by rfl) (fun w hSw => by (try dsimp only at hSw); go_simp) (by assumption) ?_
                try simp only [Act.put, List.setIfInBounds_toArray, List.set_cons_zero, List.set_cons_succ]
                refine take_yes (i := 8) (oi := { dst := some 59, op := Op.move (Operand.tmp 6), type := 4, pos := "l06_options.go:89", after := #[{ on := 7, ground := Ground.guard }], guard := some (7, false) }) (v := .bool false) rfl (by kernel_rfl) (by kernel_rfl) (by kernel_rfl) (fun _ _ _ h => h) (by rfl) (fun w hSw => by (try dsimp only at hSw); go_simp) (by assumption) ?_
                try simp only [Act.put, List.setIfInBounds_toArray, List.set_cons_zero, List.set_cons_succ]
                refine take_yes (i := 9) (oi := { dst := some 60, op := Op.unOp UnOp.not 4 (Operand.tmp 59), type := 4, pos := "l06_options.go:89", after := #[{ on := 8, ground := Ground.data }, { on := 7, ground := Ground.guard }], guard := some (7, false) }) (v := .bool true) rfl (by kernel_rfl) (by kernel_rfl) (by kernel_rfl) (fun _ _ _ h => h) (by rfl) (fun w hSw => by (try dsimp only at hSw); go_simp) (by assumption) ?_
                try simp only [Act.put, List.setIfInBounds_toArray, List.set_cons_zero, List.set_cons_succ]
                refine take_yes (i := 10) (oi := { dst := some 61, op := Op.move (Operand.tmp 60), type := 4, pos := "l06_options.go:89", after := #[{ on := 9, ground := Ground.data }, { on := 7, ground := Ground.chain }, { on := 7, ground := Ground.guard }], guard := some (7, false) }) (v := .bool true) rfl (by kernel_rfl) (by kernel_rfl) (by kernel_rfl) (fun _ _ _ h => h) (by rfl) (fun w hSw => by (try dsimp only at hSw); go_simp) (by assumption) ?_
                try simp only [Act.put, List.setIfInBounds_toArray, List.set_cons_zero, List.set_cons_succ]
                refine take_yes (i := 11) (oi := { dst := some 62, op := Op.load 26 (Operand.tmp 1), type := 26, pos := "l06_options.go:89", after := #[{ on := 10, ground := Ground.guard }], guard := some (10, true) }) (v := .agg (o.cells (.slice va o.ids.length vc))) rfl (by kernel_rfl) (by kernel_rfl) (by kernel_rfl) (fun _ _ _ h => h) (by rfl) (fun w hSw => by (try dsimp only at hSw); go_simp) (by assumption) ?_
                try simp only [Act.put, List.setIfInBounds_toArray, List.set_cons_zero, List.set_cons_succ]
                refine take_yes (i := 12) (oi := { dst := some 63, op := Op.move (Operand.tmp 3), type := 9, pos := "l06_options.go:89", after := #[{ on := 10, ground := Ground.guard }], guard := some (10, true) }) (v := .string sh) rfl (by kernel_rfl) (by kernel_rfl) (by kernel_rfl) (fun _ _ _ h => h) (by rfl) (fun w hSw => by (try dsimp only at hSw); go_simp) (by assumption) ?_
                try simp only [Act.put, List.setIfInBounds_toArray, List.set_cons_zero, List.set_cons_succ]
                refine take_yes (i := 13) (oi := { dst := some 64, op := Op.move (Operand.tmp 4), type := 3, pos := "l06_options.go:89", after := #[{ on := 10, ground := Ground.guard }], guard := some (10, true) }) (v := .int .i64 (x : Int)) rfl (by kernel_rfl) (by kernel_rfl) (by kernel_rfl) (fun _ _ _ h => h) (by rfl) (fun w hSw => by (try dsimp only at hSw); go_simp) (by assumption) ?_
                try simp only [Act.put, List.setIfInBounds_toArray, List.set_cons_zero, List.set_cons_succ]
                refine take_yes (i := 14) (oi := { dst := some 65, op := Op.index 9 (Operand.tmp 63) (Operand.tmp 64), type := 5, pos := "l06_options.go:89", after := #[{ on := 12, ground := Ground.data }, { on := 13, ground := Ground.data }, { on := 10, ground := Ground.guard }], guard := some (10, true) }) (v := .int .u8 ((sh[x]'q1).toNat : Int)) rfl (by kernel_rfl) (by kernel_rfl) (by kernel_rfl) (fun _ _ _ h => h) (by rfl) (fun w hSw => by (try dsimp only at hSw); go_simp) (by assumption) ?_
                try simp only [Act.put, List.setIfInBounds_toArray, List.set_cons_zero, List.set_cons_succ]
                refine take_yes (i := 17) (oi := { dst := some 68, op := Op.move (Operand.tmp 7), type := 3, pos := "l06_options.go:89", after := #[{ on := 10, ground := Ground.guard }], guard := some (10, true) }) (v := .int .i64 wd) rfl (by kernel_rfl) (by kernel_rfl) (by kernel_rfl) (fun _ _ _ h => h) (by rfl) (fun w hSw => by (try dsimp only at hSw); go_simp) (by assumption) ?_
                try simp only [Act.put, List.setIfInBounds_toArray, List.set_cons_zero, List.set_cons_succ]
                refine wpAnyH_ready (rs := [15]) (by kernel_rfl) (by simp) ?_
                refine AllReadyH.cons (o := { dst := some 66, op := Op.call { callee := Callee.value (Operand.func 39), args := #[Operand.tmp 62, Operand.tmp 65], argTypes := #[26, 5] }, type := 9, pos := "l06_options.go:89", after := #[{ on := 11, ground := Ground.data }, { on := 14, ground := Ground.data }, { on := 10, ground := Ground.chain }, { on := 10, ground := Ground.guard }], guard := some (10, true) }) rfl (fun K hK => ?_) AllReadyH.nil
                go_simp
                with_reducible refine (ctx _).mono ?_
                rintro e w5 ⟨rfl, hb5⟩
                refine hK.out _ _ (box_keep (by assumption) hb5) (fun hHeld => ?_)
                clear hK K
                try simp only [Act.put, List.setIfInBounds_toArray, List.set_cons_zero, List.set_cons_succ]
                refine take_yes (i := 16) (oi := { dst := some 67, op := Op.call { callee := Callee.builtin Builtin.len, args := #[Operand.tmp 66], argTypes := #[9] }, type := 3, pos := "l06_options.go:89", after := #[{ on := 15, ground := Ground.data }, { on := 10, ground := Ground.guard }], guard := some (10, true) }) (v := .int .i64 (tx.size : Int)) rfl (by kernel_rfl) (by kernel_rfl) (by kernel_rfl) (fun _ _ _ h => h) (by rfl) (fun w hSw => by (try dsimp only at hSw); go_simp) (by assumption) ?_
                try simp only [Act.put, List.setIfInBounds_toArray, List.set_cons_zero, List.set_cons_succ]
                refine take_yes (i := 18) (oi := { dst := some 69, op := Op.binOp BinOp.neq 3 (Operand.tmp 67) (Operand.tmp 68) 3, type := 4, pos := "l06_options.go:89", after := #[{ on := 16, ground := Ground.data }, { on := 17, ground := Ground.data }, { on := 10, ground := Ground.guard }], guard := some (10, true) }) (v := .bool false) rfl (by kernel_rfl) (by kernel_rfl) (by kernel_rfl) (fun _ _ _ h => h) (by rfl) (fun w hSw => by (try dsimp only at hSw); go_simp) (by assumption) ?_
                try simp only [Act.put, List.setIfInBounds_toArray, List.set_cons_zero, List.set_cons_succ]
                refine take_yes (i := 19) (oi := { dst := some 70, op := Op.pick (Operand.tmp 61) (Operand.tmp 69) (Operand.const (Value.bool false)), type := 4, pos := "l06_options.go:89", after := #[{ on := 10, ground := Ground.data }, { on := 18, ground := Ground.data }, { on := 7, ground := Ground.guard }], guard := some (7, false) }) (v := .bool false) rfl (by kernel_rfl) (by kernel_rfl) (by kernel_rfl) (fun _ _ _ h => h) (by rfl) (fun w hSw => by (try dsimp only at hSw); go_simp) (by assumption) ?_
                try simp only [Act.put, List.setIfInBounds_toArray, List.set_cons_zero, List.set_cons_succ]
                refine take_yes (i := 20) (oi := { dst := some 71, op := Op.pick (Operand.tmp 58) (Operand.const (Value.bool true)) (Operand.tmp 70), type := 4, pos := "l06_options.go:89", after := #[{ on := 7, ground := Ground.data }, { on := 19, ground := Ground.data }], guard := none }) (v := .bool false) rfl (by kernel_rfl) (by kernel_rfl) (by kernel_rfl) (fun _ _ _ h => h) (by rfl) (fun w hSw => by (try dsimp only at hSw); go_simp) (by assumption) ?_
                try simp only [Act.put, List.setIfInBounds_toArray, List.set_cons_zero, List.set_cons_succ]
                refine wpAnyH_done (by kernel_rfl) ?_ _
                have S5 : Box w5 w.heap.size o (.slice va o.ids.length vc) ∧ (loadCells ⟨w.heap.size, 0, none⟩ 14).run Try.prog w5 = .ok (o.cells (.slice va o.ids.length vc)) w5 ∧ Below w.heap.size w w5 := by assumption
                clear S4 hb5
                have HS5 := Lib.hid S5
                clear S5
                go_wp2_with (fail)
                go_roundw
                case rel => exact ⟨k + 1, x + 2, by have := HP.out.2.2; omega, by omega, by go_num, HP.out.1 (by rw [HA.out, decide_eq_true HZ.out]), HS5.out.1, HS5.out.2.2⟩
                case measure => have := HP.out.2.2; simp [intOf]; omega
              · have z1 : ((tx.size : Int) == wd) = false := by simpa using hz
                have HZ := Lib.hid hz
                refine wp_region_held_drew (S := fun W => Box W w.heap.size o (.slice va o.ids.length vc) ∧ (loadCells ⟨w.heap.size, 0, none⟩ 14).run Try.prog W = .ok (o.cells (.slice va o.ids.length vc)) W ∧ Below w.heap.size w W) (by kernel_rfl) S4 (fun hHeld => ?_)
                refine take_yes (i := 0) (oi := { dst := some 51, op := Op.move (Operand.tmp 6), type := 4, pos := "l06_options.go:89", after := #[], guard := none }) (v := .bool false) rfl (by kernel_rfl) (by kernel_rfl) (by kernel_rfl) (fun _ _ _ h => h) (by rfl) (fun w hSw => by (try dsimp only at hSw); go_simp) (by assumption) ?_
                try simp only [Act.put, List.setIfInBounds_toArray, List.set_cons_zero, List.set_cons_succ]
                refine take_yes (i := 1) (oi := { dst := some 52, op := Op.move (Operand.tmp 51), type := 4, pos := "l06_options.go:89", after := #[{ on := 0, ground := Ground.data }], guard := none }) (v := .bool false) rfl (by kernel_rfl) (by kernel_rfl) (by kernel_rfl) (fun _ _ _ h => h) (by rfl) (fun w hSw => by (try dsimp only at hSw); go_simp) (by assumption) ?_
                try simp only [Act.put, List.setIfInBounds_toArray, List.set_cons_zero, List.set_cons_succ]
                refine take_no (i := 2) (oi := { dst := some 53, op := Op.move (Operand.tmp 5), type := 3, pos := "l06_options.go:89", after := #[{ on := 1, ground := Ground.guard }], guard := some (1, true) }) rfl (by kernel_rfl) (by kernel_rfl) (by kernel_rfl) (fun _ _ _ h => h) (by rfl) (by assumption) ?_
                try simp only [Act.put, List.setIfInBounds_toArray, List.set_cons_zero, List.set_cons_succ]
                refine take_no (i := 3) (oi := { dst := some 54, op := Op.move (Operand.tmp 7), type := 3, pos := "l06_options.go:89", after := #[{ on := 1, ground := Ground.guard }], guard := some (1, true) }) rfl (by kernel_rfl) (by kernel_rfl) (by kernel_rfl) (fun _ _ _ h => h) (by rfl) (by assumption) ?_
                try simp only [Act.put, List.setIfInBounds_toArray, List.set_cons_zero, List.set_cons_succ]
                refine take_no (i := 4) (oi := { dst := some 55, op := Op.call { callee := Callee.value (Operand.func 38), args := #[Operand.tmp 53, Operand.tmp 54], argTypes := #[3, 3] }, type := 9, pos := "l06_options.go:89", after := #[{ on := 2, ground := Ground.data }, { on := 3, ground := Ground.data }, { on := 1, ground := Ground.chain }, { on := 1, ground := Ground.guard }], guard := some (1, true) }) rfl (by kernel_rfl) (by kernel_rfl) (by kernel_rfl) (fun _ _ _ h => h) (by rfl) (by assumption) ?_
                try simp only [Act.put, List.setIfInBounds_toArray, List.set_cons_zero, List.set_cons_succ]
                refine take_no (i := 5) (oi := { dst := some 56, op := Op.binOp BinOp.eql 9 (Operand.tmp 55) (Operand.const (Value.string { data := #[] })) 9, type := 4, pos := "l06_options.go:89", after := #[{ on := 4, ground := Ground.data }, { on := 1, ground := Ground.guard }], guard := some (1, true) }) rfl (by kernel_rfl) (by kernel_rfl) (by kernel_rfl) (fun _ _ _ h => h) (by rfl) (by assumption) ?_
                try simp only [Act.put, List.setIfInBounds_toArray, List.set_cons_zero, List.set_cons_succ]
                refine take_yes (i := 6) (oi := { dst := some 57, op := Op.pick (Operand.tmp 52) (Operand.tmp 56) (Operand.const (Value.bool false)), type := 4, pos := "l06_options.go:89", after := #[{ on := 1, ground := Ground.data }, { on := 5, ground := Ground.data }], guard := none }) (v := .bool false) rfl (by kernel_rfl) (by kernel_rfl) (by kernel_rfl) (fun _ _ _ h => h) (by rfl) (fun w hSw => by (try dsimp only at hSw); go_simp) (by assumption) ?_
                try simp only [Act.put, List.setIfInBounds_toArray, List.set_cons_zero, List.set_cons_succ]
                refine take_yes (i := 7) (oi := { dst := some 58, op := Op.move (Operand.tmp 57), type := 4, pos := "l06_options.go:89", after := #[{ on := 6, ground := Ground.data }, { on := 4, ground := Ground.chain }], guard := none }) (v := .bool false) rfl (by kernel_rfl) (by kernel_rfl) (by kernel_rfl) (fun _ _ _ h => h) (by rfl) (fun w hSw => by (try dsimp only at hSw); go_simp) (by assumption) ?_
                try simp only [Act.put, List.setIfInBounds_toArray, List.set_cons_zero, List.set_cons_succ]
                refine take_yes (i := 8) (oi := { dst := some 59, op := Op.move (Operand.tmp 6), type := 4, pos := "l06_options.go:89", after := #[{ on := 7, ground := Ground.guard }], guard := some (7, false) }) (v := .bool false) rfl (by kernel_rfl) (by kernel_rfl) (by kernel_rfl) (fun _ _ _ h => h) (by rfl) (fun w hSw => by (try dsimp only at hSw); go_simp) (by assumption) ?_
                try simp only [Act.put, List.setIfInBounds_toArray, List.set_cons_zero, List.set_cons_succ]
                refine take_yes (i := 9) (oi := { dst := some 60, op := Op.unOp UnOp.not 4 (Operand.tmp 59), type := 4, pos := "l06_options.go:89", after := #[{ on := 8, ground := Ground.data }, { on := 7, ground := Ground.guard }], guard := some (7, false) }) (v := .bool true) rfl (by kernel_rfl) (by kernel_rfl) (by kernel_rfl) (fun _ _ _ h => h) (by rfl) (fun w hSw => by (try dsimp only at hSw); go_simp) (by assumption) ?_
                try simp only [Act.put, List.setIfInBounds_toArray, List.set_cons_zero, List.set_cons_succ]
                refine take_yes (i := 10) (oi := { dst := some 61, op := Op.move (Operand.tmp 60), type := 4, pos := "l06_options.go:89", after := #[{ on := 9, ground := Ground.data }, { on := 7, ground := Ground.chain }, { on := 7, ground := Ground.guard }], guard := some (7, false) }) (v := .bool true) rfl (by kernel_rfl) (by kernel_rfl) (by kernel_rfl) (fun _ _ _ h => h) (by rfl) (fun w hSw => by (try dsimp only at hSw); go_simp) (by assumption) ?_
                try simp only [Act.put, List.setIfInBounds_toArray, List.set_cons_zero, List.set_cons_succ]
                refine take_yes (i := 11) (oi := { dst := some 62, op := Op.load 26 (Operand.tmp 1), type := 26, pos := "l06_options.go:89", after := #[{ on := 10, ground := Ground.guard }], guard := some (10, true) }) (v := .agg (o.cells (.slice va o.ids.length vc))) rfl (by kernel_rfl) (by kernel_rfl) (by kernel_rfl) (fun _ _ _ h => h) (by rfl) (fun w hSw => by (try dsimp only at hSw); go_simp) (by assumption) ?_
                try simp only [Act.put, List.setIfInBounds_toArray, List.set_cons_zero, List.set_cons_succ]
                refine take_yes (i := 12) (oi := { dst := some 63, op := Op.move (Operand.tmp 3), type := 9, pos := "l06_options.go:89", after := #[{ on := 10, ground := Ground.guard }], guard := some (10, true) }) (v := .string sh) rfl (by kernel_rfl) (by kernel_rfl) (by kernel_rfl) (fun _ _ _ h => h) (by rfl) (fun w hSw => by (try dsimp only at hSw); go_simp) (by assumption) ?_
                try simp only [Act.put, List.setIfInBounds_toArray, List.set_cons_zero, List.set_cons_succ]
                refine take_yes (i := 13) (oi := { dst := some 64, op := Op.move (Operand.tmp 4), type := 3, pos := "l06_options.go:89", after := #[{ on := 10, ground := Ground.guard }], guard := some (10, true) }) (v := .int .i64 (x : Int)) rfl (by kernel_rfl) (by kernel_rfl) (by kernel_rfl) (fun _ _ _ h => h) (by rfl) (fun w hSw => by (try dsimp only at hSw); go_simp) (by assumption) ?_
                try simp only [Act.put, List.setIfInBounds_toArray, List.set_cons_zero, List.set_cons_succ]
                refine take_yes (i := 14) (oi := { dst := some 65, op := Op.index 9 (Operand.tmp 63) (Operand.tmp 64), type := 5, pos := "l06_options.go:89", after := #[{ on := 12, ground := Ground.data }, { on := 13, ground := Ground.data }, { on := 10, ground := Ground.guard }], guard := some (10, true) }) (v := .int .u8 ((sh[x]'q1).toNat : Int)) rfl (by kernel_rfl) (by kernel_rfl) (by kernel_rfl) (fun _ _ _ h => h) (by rfl) (fun w hSw => by (try dsimp only at hSw); go_simp) (by assumption) ?_
                try simp only [Act.put, List.setIfInBounds_toArray, List.set_cons_zero, List.set_cons_succ]
                refine take_yes (i := 17) (oi := { dst := some 68, op := Op.move (Operand.tmp 7), type := 3, pos := "l06_options.go:89", after := #[{ on := 10, ground := Ground.guard }], guard := some (10, true) }) (v := .int .i64 wd) rfl (by kernel_rfl) (by kernel_rfl) (by kernel_rfl) (fun _ _ _ h => h) (by rfl) (fun w hSw => by (try dsimp only at hSw); go_simp) (by assumption) ?_
                try simp only [Act.put, List.setIfInBounds_toArray, List.set_cons_zero, List.set_cons_succ]
                refine wpAnyH_ready (rs := [15]) (by kernel_rfl) (by simp) ?_
                refine AllReadyH.cons (o := { dst := some 66, op := Op.call { callee := Callee.value (Operand.func 39), args := #[Operand.tmp 62, Operand.tmp 65], argTypes := #[26, 5] }, type := 9, pos := "l06_options.go:89", after := #[{ on := 11, ground := Ground.data }, { on := 14, ground := Ground.data }, { on := 10, ground := Ground.chain }, { on := 10, ground := Ground.guard }], guard := some (10, true) }) rfl (fun K hK => ?_) AllReadyH.nil
                go_simp
                with_reducible refine (ctx _).mono ?_
                rintro e w5 ⟨rfl, hb5⟩
                refine hK.out _ _ (box_keep (by assumption) hb5) (fun hHeld => ?_)
                clear hK K
                try simp only [Act.put, List.setIfInBounds_toArray, List.set_cons_zero, List.set_cons_succ]
                refine take_yes (i := 16) (oi := { dst := some 67, op := Op.call { callee := Callee.builtin Builtin.len, args := #[Operand.tmp 66], argTypes := #[9] }, type := 3, pos := "l06_options.go:89", after := #[{ on := 15, ground := Ground.data }, { on := 10, ground := Ground.guard }], guard := some (10, true) }) (v := .int .i64 (tx.size : Int)) rfl (by kernel_rfl) (by kernel_rfl) (by kernel_rfl) (fun _ _ _ h => h) (by rfl) (fun w hSw => by (try dsimp only at hSw); go_simp) (by assumption) ?_
                try simp only [Act.put, List.setIfInBounds_toArray, List.set_cons_zero, List.set_cons_succ]
                refine take_yes (i := 18) (oi := { dst := some 69, op := Op.binOp BinOp.neq 3 (Operand.tmp 67) (Operand.tmp 68) 3, type := 4, pos := "l06_options.go:89", after := #[{ on := 16, ground := Ground.data }, { on := 17, ground := Ground.data }, { on := 10, ground := Ground.guard }], guard := some (10, true) }) (v := .bool true) rfl (by kernel_rfl) (by kernel_rfl) (by kernel_rfl) (fun _ _ _ h => h) (by rfl) (fun w hSw => by (try dsimp only at hSw); go_simp) (by assumption) ?_
                try simp only [Act.put, List.setIfInBounds_toArray, List.set_cons_zero, List.set_cons_succ]
                refine take_yes (i := 19) (oi := { dst := some 70, op := Op.pick (Operand.tmp 61) (Operand.tmp 69) (Operand.const (Value.bool false)), type := 4, pos := "l06_options.go:89", after := #[{ on := 10, ground := Ground.data }, { on := 18, ground := Ground.data }, { on := 7, ground := Ground.guard }], guard := some (7, false) }) (v := .bool true) rfl (by kernel_rfl) (by kernel_rfl) (by kernel_rfl) (fun _ _ _ h => h) (by rfl) (fun w hSw => by (try dsimp only at hSw); go_simp) (by assumption) ?_
                try simp only [Act.put, List.setIfInBounds_toArray, List.set_cons_zero, List.set_cons_succ]
                refine take_yes (i := 20) (oi := { dst := some 71, op := Op.pick (Operand.tmp 58) (Operand.const (Value.bool true)) (Operand.tmp 70), type := 4, pos := "l06_options.go:89", after := #[{ on := 7, ground := Ground.data }, { on := 19, ground := Ground.data }], guard := none }) (v := .bool true) rfl (by kernel_rfl) (by kernel_rfl) (by kernel_rfl) (fun _ _ _ h => h) (by rfl) (fun w hSw => by (try dsimp only at hSw); go_simp) (by assumption) ?_
                try simp only [Act.put, List.setIfInBounds_toArray, List.set_cons_zero, List.set_cons_succ]
                refine wpAnyH_done (by kernel_rfl) ?_ _
                have S5 : Box w5 w.heap.size o (.slice va o.ids.length vc) ∧ (loadCells ⟨w.heap.size, 0, none⟩ 14).run Try.prog w5 = .ok (o.cells (.slice va o.ids.length vc)) w5 ∧ Below w.heap.size w w5 := by assumption
                have hBf := S5.2.2
                clear S4 hb5 S5
                go_wp2_with (fail)
                go_ret
                exact ⟨by rw [← HR.out]; unfold specOk; rw [HS.out.1, HS.out.2, HP.out.2.1 (by rw [HA.out, decide_eq_false HZ.out])]; simp, hBf⟩
          · obtain rfl : k = n := by omega
            have q0 : ¬ ((x : Int) + 1 < (sh.size : Int)) := by omega
            clear he hx
            have HO := Lib.hid hok
            clear hok
            go_wp2_with (fail)
            go_loopw [8] (fun j wi => ∃ i : Nat, i ≤ o.ids.length ∧ j = .int .i64 i ∧ idUp o.ids i = true ∧ Box wi w.heap.size o (.slice va o.ids.length vc) ∧ Below w.heap.size w wi) (fun j _ => o.ids.length - (intOf j).toNat)
            case atStart => exact ⟨0, by omega, rfl, idUp_zero _, B, hB⟩
            case round =>
              clear B hB
              obtain ⟨i, hi, rfl, hup, B, hB⟩ := hrel
              have l13 := (Cel.cell (show Cel _ w.heap.size _ _ from B.c) 13).trans (o.ats _).2.2.2.2.2.2.2.2.2.2.2.2.2
              by_cases hit : i < o.ids.length
              · have q4 : (i : Int) < (o.ids.length : Int) := by omega
                have q5 : (0 : Int) ≤ (i : Int) := by omega
                obtain ⟨b, off, rfl⟩ : ∃ b off, va = some ⟨b, off, none⟩ := by
                  obtain ⟨a', c', he', hc'⟩ := B.r
                  injection he' with e1 e2 e3
                  obtain ⟨b, off, h, -⟩ := hc' (by omega)
                  exact ⟨b, off, e1.trans h⟩
                have hyes := fun h => idUp_succ o.ids i hup h
                have hno := fun h => idUp_no o.ids i o.ids.length hit h
                have hgi : o.ids.getD i 0 = o.ids[i]'hit := by rw [List.getD, List.getElem?_eq_getElem hit]; rfl
                have HP := Lib.hid (And.intro hyes hno)
                clear hyes hno hup
                obtain ⟨p, hp, hpi⟩ : ∃ p, p < o.ids.length ∧ (i = 0 ∧ p = 0 ∨ i = p + 1) := by
                  cases i with
                  | zero => exact ⟨0, hit, .inl ⟨rfl, rfl⟩⟩
                  | succ p => exact ⟨p, by omega, .inr rfl⟩
                obtain ⟨k13, hxi, hyp, -, -⟩ := ids_all B hB hit hp
                have HBB := Lib.hid (And.intro B hB)
                have hgp : o.ids.getD p 0 = o.ids[p]'hp := by rw [List.getD, List.getElem?_eq_getElem hp]; rfl
                have hat : idAt o.ids i = (decide (0 ≤ o.ids[i]'hit ∧ o.ids[i]'hit ≤ 255) && (decide (i = 0) || decide (o.ids.getD (i - 1) 0 < o.ids[i]'hit))) := by unfold idAt; rw [hgi]
                generalize o.ids[i]'hit = x at *
                generalize o.ids[p]'hp = y at *
                have ci := fun W => spec_in x 0 255 W
                clear B hB hgi l13
                by_cases hx : 0 ≤ x ∧ x ≤ 255
                · rw [decide_eq_true hx] at ci hat
                  have HX2 := Lib.hid hx
                  clear hx
                  rcases hpi with ⟨hi0, hp0⟩ | hip
                  · have q6 : ¬ (0 : Int) < (i : Int) := by omega
                    have q8 : ¬ (0 : Nat) < i := by omega
                    have hat : idAt o.ids i = true := by rw [hat, decide_eq_true hi0]; rfl
                    clear hi0 hp0
                    have HA := Lib.hid hat
                    clear hat hgp
                    go_wp2_with (fail)
                    go_quiet ((go_at_call 33; with_reducible exact q_first (q_none ci)))
                    go_wp2_with (fail)
                    go_roundw
                    case rel => exact ⟨i + 1, by omega, by go_num, HP.out.1 HA.out, ⟨HBB.out.1.c, HBB.out.1.r⟩, ⟨HBB.out.2.os, HBB.out.2.tape, HBB.out.2.output, HBB.out.2.size, HBB.out.2.block⟩⟩
                    case measure => simp [intOf]; omega
                  · have hi1 : i - 1 = p := by omega
                    rw [hi1, hgp] at hat
                    have e1 : IntKind.i64.wrap ((i : Int) - 1) = (p : Int) := by rw [IntWalk.i64_in _ (by omega)]; omega
                    have e2 : (i : Int) - 1 = (p : Int) := by omega
                    have q6 : (0 : Int) < (i : Int) := by omega
                    have q8 : (0 : Nat) < i := by omega
                    have q7 : (0 : Int) ≤ (p : Int) ∧ (p : Int) < (o.ids.length : Int) := by omega
                    have HA := Lib.hid (And.intro hat hip)
                    clear hat hgp hi1 hip
                    by_cases hyx : y < x
                    · have k1 : decide (x ≤ y) = false := decide_eq_false (by omega)
                      have k2 : ¬ x ≤ y := by omega
                      have HY := Lib.hid hyx
                      clear hyx
                      go_wp2_with (fail)
                      go_quiet ((go_at_call 33; with_reducible exact q_first (q_none ci)))
                      go_wp2_with (fail)
                      go_roundw
                      case rel => exact ⟨i + 1, by omega, by go_num, HP.out.1 (by rw [HA.out.1, decide_eq_true HY.out]; simp), ⟨HBB.out.1.c, HBB.out.1.r⟩, ⟨HBB.out.2.os, HBB.out.2.tape, HBB.out.2.output, HBB.out.2.size, HBB.out.2.block⟩⟩
                      case measure => simp [intOf]; omega
                    · have k1 : decide (x ≤ y) = true := decide_eq_true (by omega)
                      have k2 : x ≤ y := by omega
                      have HY := Lib.hid hyx
                      clear hyx
                      go_wp2_with (fail)
                      go_quiet ((go_at_call 33; with_reducible exact q_first (q_none ci)))
                      go_wp2_with (fail)
                      go_ret
                      exact ⟨by rw [← HR.out]; unfold specOk; rw [HP.out.2 (by have := HA.out.2; have := HY.out; rw [HA.out.1, decide_eq_false (show ¬ y < x by omega), decide_eq_false (show ¬ i = 0 by omega)]; rfl)]; simp, ⟨HBB.out.2.os, HBB.out.2.tape, HBB.out.2.output, HBB.out.2.size, HBB.out.2.block⟩⟩
                · rw [decide_eq_false hx] at ci hat
                  have HA := Lib.hid hat
                  clear hat hgp hpi
                  go_wp2_with (fail)
                  go_quiet ((go_at_call 33; with_reducible exact q_first (q_none ci)))
                  go_wp2_with (fail)
                  go_ret
                  exact ⟨by rw [← HR.out]; unfold specOk; rw [HP.out.2 (by rw [HA.out]; rfl)]; simp, ⟨HBB.out.2.os, HBB.out.2.tape, HBB.out.2.output, HBB.out.2.size, HBB.out.2.block⟩⟩
              · obtain rfl : i = o.ids.length := by omega
                have q4 : ¬ ((o.ids.length : Int) < (o.ids.length : Int)) := by omega
                have HU := Lib.hid hup
                clear hup
                go_wp2_with (fail)
                go_ret
                exact ⟨by rw [← HR.out]; unfold specOk; rw [HS.out.1, HS.out.2, HX.out.1, HX.out.2, HT.out, HO.out, HU.out, decide_eq_true HH.out]; rfl, hB⟩
  · rw [decide_eq_false h1] at c1
    have HH := Lib.hid h1
    clear h1
    go_enter Try.func9, Try.ntmps9
    go_wp2_with (fail)
    with_reducible refine (c1 _).mono ?_
    rintro e w1 ⟨rfl, rfl⟩
    go_wp2_with (fail)
    go_ret
    exact ⟨by rw [← HR.out]; unfold specOk; rw [decide_eq_false HH.out]; rfl, hB0⟩
end Go.Proofs.Ytkpajakangaekab
