import Derived.Test.YtigmldponhobhaaOto
import Derived.Test.YtigmldponhobhaaOeq
import Derived.Test.YtigmldponhobhaaOsz
import Derived.Deep.RegionHeld3
import Derived.Deep.Cut
namespace Go.Proofs.Ytigmldponhobhaa
open Go.RowKit

theorem Cel.loadRow {W : World} {g : Nat} {t : TypeId} {cs : Array Value} (h : Cel W g t cs) {P : Program} (n : Nat) (hn : cs.size = n) :
    (loadCells ⟨g, 0, none⟩ n).run P W = .ok cs W := by
  subst hn
  have := run_loadCells_list (P := P) W ⟨g, 0, none⟩ cs.toList (fun j v hv => by
    have hadd : (⟨g, 0, none⟩ : Addr).add j = ⟨g, j, none⟩ := by unfold Addr.add; split <;> simp_all
    rw [hadd, cell_of_row _ _ j cs t (0, 0) h]
    simpa using hv)
  rw [Array.toArray_toList] at this
  simpa only [Array.length_toList] using this

attribute [-go_sem] loadCells loadCellsFrom

theorem szOv_in (o : Ov) (l : Int) (h : ¬ szOv o l < 0) : 0 ≤ szOv o l ∧ szOv o l ≤ l ∧ (o.ids.length : Int) ≤ l ∧ (o.key.size : Int) ≤ l ∧ (o.mark.size : Int) ≤ l := by
  unfold szOv at *
  split at h
  · rename_i hx
    rw [if_pos hx]
    omega
  · omega

/-- A new variable, and what is stored in it. -/
theorem new_row (W : World) (t : TypeId) (old cs : Array Value) : Cel ((W.alloc (.cells old t)).setRow W.heap.size cs) W.heap.size t cs ∧ Below W.heap.size W ((W.alloc (.cells old t)).setRow W.heap.size cs) := by
  refine ⟨(Cel.new W t old).row cs, ?_⟩
  have hB := (Below.refl W.heap.size W).alloc (Nat.le_refl _) (.cells old t)
  exact ⟨hB.os, hB.tape, hB.output, by rw [show ∀ (W : World) g cs, (W.setRow g cs).heap.size = W.heap.size from fun W g cs => by simp [World.setRow]]; exact hB.size, fun k hk => by
    show ((World.heap _).modify _ _)[k]? = _
    rw [Array.getElem?_modify, if_neg (by omega)]
    exact hB.block k hk⟩

theorem zeroOpt (W : World) : (W.alloc (.cells #[.int .i64 0, .int .i64 0, .int .i64 0, .int .i64 0, .int .i64 0, .int .i64 0, .int .i64 0, .int .i64 0, .int .i64 0, .int .i64 0, .bool false, .string ⟨#[]⟩, .string ⟨#[]⟩, .slice none 0 0] 26)).heap[W.heap.size]? = some (.cells #[.int .i64 0, .int .i64 0, .int .i64 0, .int .i64 0, .int .i64 0, .int .i64 0, .int .i64 0, .int .i64 0, .int .i64 0, .int .i64 0, .bool false, .string ⟨#[]⟩, .string ⟨#[]⟩, .slice none 0 0] 26 (0, 0)) := Cel.new _ _ _

theorem sizeArg (o : Ov) (v : Value) : (Try.prog.info? 34).map (·.size) = some (o.cells v).size := by rw [Ov.cells_size]; kernel_rfl

/-- What stays while a law goes on: the options that came in, as they lie in their blocks. -/
structure Two (W : World) (g0 g1 : Nat) (a b : Ov) (v u : Value) : Prop where
  c0 : W.heap[g0]? = some (.cells (a.cells v) 34 (0, 0))
  c1 : W.heap[g1]? = some (.cells (b.cells u) 34 (0, 0))
  r0 : Rd W v a.ids
  r1 : Rd W u b.ids

theorem Two.kept {W W' : World} {g0 g1 : Nat} {a b : Ov} {v u : Value} (h : Two W g0 g1 a b v u) (hb : Below W.heap.size W W') : Two W' g0 g1 a b v u :=
  ⟨Cel.kept (show Cel W g0 _ _ from h.c0) hb, Cel.kept (show Cel W g1 _ _ from h.c1) hb, h.r0.below hb, h.r1.below hb⟩

theorem to_one (o : Ov) (v : Value) (w : World) (hv : Rd w v o.ids) (hn : o.ids.length ≤ 1048576) :
    Calls Try.prog 20 #[.agg (o.cells v)] w fun e w' => ∃ (a : Option Addr) (c : Nat), e = .returned (.agg (o.cells (.slice a o.ids.length c))) ∧ IRow w' w.heap.size w'.heap.size (.slice a o.ids.length c) o.ids ∧ Below w.heap.size w w' :=
  (to_opt o v w hv hn).mono fun e w' ⟨v', he, hi, hb⟩ => by
    obtain ⟨a, c, rfl, -⟩ := hi.rd
    exact ⟨a, c, he, hi, hb⟩

theorem two_all {w W : World} {g0 g1 : Nat} {a b : Ov} {v u : Value} (h : Two W g0 g1 a b v u) (hb : Below w.heap.size w W) :
    Two W g0 g1 a b v u ∧ (loadCells ⟨g0, 0, none⟩ 14).run Try.prog W = .ok (a.cells v) W ∧ (loadCells ⟨g1, 0, none⟩ 14).run Try.prog W = .ok (b.cells u) W ∧ Below w.heap.size w W :=
  ⟨h, Cel.loadRow (show Cel W g0 _ _ from h.c0) 14 (Ov.cells_size _ _), Cel.loadRow (show Cel W g1 _ _ from h.c1) 14 (Ov.cells_size _ _), hb⟩

theorem two_keep3 {w W : World} {g0 g1 : Nat} {a b : Ov} {v u : Value} (h : Two W g0 g1 a b v u ∧ Below w.heap.size w W) :
    Two W.drew g0 g1 a b v u ∧ (loadCells ⟨g0, 0, none⟩ 14).run Try.prog W.drew = .ok (a.cells v) W.drew ∧ (loadCells ⟨g1, 0, none⟩ 14).run Try.prog W.drew = .ok (b.cells u) W.drew ∧ Below w.heap.size w W.drew :=
  two_all ⟨h.1.c0, h.1.c1, h.1.r0, h.1.r1⟩ h.2.drew

theorem two_keep {w W W' : World} {g0 g1 : Nat} {a b : Ov} {v u : Value} (h : Two W g0 g1 a b v u ∧ (loadCells ⟨g0, 0, none⟩ 14).run Try.prog W = .ok (a.cells v) W ∧ (loadCells ⟨g1, 0, none⟩ 14).run Try.prog W = .ok (b.cells u) W ∧ Below w.heap.size w W) (hb : Below W.heap.size W W') :
    Two W' g0 g1 a b v u ∧ (loadCells ⟨g0, 0, none⟩ 14).run Try.prog W' = .ok (a.cells v) W' ∧ (loadCells ⟨g1, 0, none⟩ 14).run Try.prog W' = .ok (b.cells u) W' ∧ Below w.heap.size w W' :=
  two_all (h.1.kept hb) (Below.then_ h.2.2.2 hb)

/-- An option of the call's own. -/
structure Own (W : World) (g : Nat) (o : Ov) (x : Value) : Prop where
  c : W.heap[g]? = some (.cells (o.cells x) 26 (0, 0))
  r : Rd W x o.ids

theorem Own.kept {W W' : World} {g : Nat} {o : Ov} {x : Value} (h : Own W g o x) (hb : Below W.heap.size W W') : Own W' g o x :=
  ⟨Cel.kept (show Cel W g _ _ from h.c) hb, h.r.below hb⟩

theorem own_new {W w : World} {o : Ov} {x : Value} {old : Array Value} (hx : IRow W w.heap.size W.heap.size x o.ids) : Own ((W.alloc (.cells old 26)).setRow W.heap.size (o.cells x)) W.heap.size o x :=
  ⟨(new_row W _ old _).1, (hx.keep (new_row W 26 old (o.cells x)).2 (Nat.le_refl _)).rd⟩

theorem eight_all {w W : World} {g0 g1 g2 g3 : Nat} {a b : Ov} {v u x y : Value} (h : Two W g0 g1 a b v u) (hb : Below w.heap.size w W) (hx : Own W g2 a x) (hy : Own W g3 b y) :
    Two W g0 g1 a b v u ∧ (loadCells ⟨g0, 0, none⟩ 14).run Try.prog W = .ok (a.cells v) W ∧ (loadCells ⟨g1, 0, none⟩ 14).run Try.prog W = .ok (b.cells u) W ∧ Below w.heap.size w W ∧ Own W g2 a x ∧ Own W g3 b y ∧
      (loadCells ⟨g2, 0, none⟩ 14).run Try.prog W = .ok (a.cells x) W ∧ (loadCells ⟨g3, 0, none⟩ 14).run Try.prog W = .ok (b.cells y) W :=
  ⟨h, Cel.loadRow (show Cel W g0 _ _ from h.c0) 14 (Ov.cells_size _ _), Cel.loadRow (show Cel W g1 _ _ from h.c1) 14 (Ov.cells_size _ _), hb, hx, hy, Cel.loadRow (show Cel W g2 _ _ from hx.c) 14 (Ov.cells_size _ _), Cel.loadRow (show Cel W g3 _ _ from hy.c) 14 (Ov.cells_size _ _)⟩

theorem eight_keep {w W W' : World} {g0 g1 g2 g3 : Nat} {a b : Ov} {v u x y : Value}
    (h : Two W g0 g1 a b v u ∧ (loadCells ⟨g0, 0, none⟩ 14).run Try.prog W = .ok (a.cells v) W ∧ (loadCells ⟨g1, 0, none⟩ 14).run Try.prog W = .ok (b.cells u) W ∧ Below w.heap.size w W ∧ Own W g2 a x ∧ Own W g3 b y ∧
      (loadCells ⟨g2, 0, none⟩ 14).run Try.prog W = .ok (a.cells x) W ∧ (loadCells ⟨g3, 0, none⟩ 14).run Try.prog W = .ok (b.cells y) W) (hb : Below W.heap.size W W') :
    Two W' g0 g1 a b v u ∧ (loadCells ⟨g0, 0, none⟩ 14).run Try.prog W' = .ok (a.cells v) W' ∧ (loadCells ⟨g1, 0, none⟩ 14).run Try.prog W' = .ok (b.cells u) W' ∧ Below w.heap.size w W' ∧ Own W' g2 a x ∧ Own W' g3 b y ∧
      (loadCells ⟨g2, 0, none⟩ 14).run Try.prog W' = .ok (a.cells x) W' ∧ (loadCells ⟨g3, 0, none⟩ 14).run Try.prog W' = .ok (b.cells y) W' :=
  eight_all (h.1.kept hb) (Below.then_ h.2.2.2.1 hb) (h.2.2.2.2.1.kept hb) (h.2.2.2.2.2.1.kept hb)

theorem eight_drew {w W : World} {g0 g1 g2 g3 : Nat} {a b : Ov} {v u x y : Value}
    (h : Two W g0 g1 a b v u ∧ (loadCells ⟨g0, 0, none⟩ 14).run Try.prog W = .ok (a.cells v) W ∧ (loadCells ⟨g1, 0, none⟩ 14).run Try.prog W = .ok (b.cells u) W ∧ Below w.heap.size w W ∧ Own W g2 a x ∧ Own W g3 b y ∧
      (loadCells ⟨g2, 0, none⟩ 14).run Try.prog W = .ok (a.cells x) W ∧ (loadCells ⟨g3, 0, none⟩ 14).run Try.prog W = .ok (b.cells y) W) :
    Two W.drew g0 g1 a b v u ∧ (loadCells ⟨g0, 0, none⟩ 14).run Try.prog W.drew = .ok (a.cells v) W.drew ∧ (loadCells ⟨g1, 0, none⟩ 14).run Try.prog W.drew = .ok (b.cells u) W.drew ∧ Below w.heap.size w W.drew ∧ Own W.drew g2 a x ∧ Own W.drew g3 b y ∧
      (loadCells ⟨g2, 0, none⟩ 14).run Try.prog W.drew = .ok (a.cells x) W.drew ∧ (loadCells ⟨g3, 0, none⟩ 14).run Try.prog W.drew = .ok (b.cells y) W.drew :=
  eight_all ⟨h.1.c0, h.1.c1, h.1.r0, h.1.r1⟩ h.2.2.2.1.drew ⟨h.2.2.2.2.1.c, h.2.2.2.2.1.r⟩ ⟨h.2.2.2.2.2.1.c, h.2.2.2.2.2.1.r⟩

set_option maxHeartbeats 1000000 in
theorem sameopt_law (a b : Ov) (v u : Value) (w : World) (hv : Rd w v a.ids) (hu : Rd w u b.ids)
    (hk : a.key.size ≤ 9223372036854775807) (hm : a.mark.size ≤ 9223372036854775807) (hn : a.ids.length ≤ 9223372036854775807) (hk' : b.key.size ≤ 9223372036854775807) (hm' : b.mark.size ≤ 9223372036854775807) (hn' : b.ids.length ≤ 9223372036854775807) :
    Calls Try.prog 5 #[.agg (a.cells v), .agg (b.cells u)] w fun e w' => e = .returned (.bool true) ∧ Below w.heap.size w w' := by
  have hB1 : Below w.heap.size w ((w.alloc (.cells (a.cells v) 34)).alloc (.cells (b.cells u) 34)) := ((Below.refl _ _).alloc (Nat.le_refl _) _).alloc (by simp) _
  have S1 : Two ((w.alloc (.cells (a.cells v) 34)).alloc (.cells (b.cells u) 34)) w.heap.size (w.heap.size + 1) a b v u :=
    ⟨(Cel.new w _ _).alloc _, by have := Cel.new (w.alloc (.cells (a.cells v) 34)) 34 (b.cells u); rw [World.size_alloc] at this; exact this, hv.below hB1, hu.below hB1⟩
  obtain ⟨va, vc, rfl⟩ : ∃ x c, v = .slice x a.ids.length c := by obtain ⟨x, c, h, -⟩ := hv; exact ⟨x, c, h⟩
  obtain ⟨ua, uc, rfl⟩ : ∃ x c, u = .slice x b.ids.length c := by obtain ⟨x, c, h, -⟩ := hu; exact ⟨x, c, h⟩
  clear hv hu
  have l0 := S1.c0
  have l1 := S1.c1
  have z1 := sz_opt a (.slice va a.ids.length vc) 1048576 _ S1.r0 (by omega) (by omega) hk hm hn
  by_cases h1 : szOv a 1048576 < 0
  · generalize szOv a 1048576 = s1 at z1 h1
    go_enter Try.func5, Try.ntmps5
    go_wp2_with (with_reducible refine wpList_load_row rfl 34 _ rfl _ rfl 34 _ (0, 0) _ l0 Try.underlying34 rfl (sizeArg _ _) ?_)
    with_reducible refine z1.mono ?_
    rintro e w2 ⟨rfl, hb2⟩
    clear l0 l1 z1
    go_wp2_with (fail)
    go_ret
    exact ⟨rfl, hB1.trans (hb2.mono (by simp; omega))⟩
  · obtain ⟨s0, s2, s3, -, -⟩ := szOv_in a 1048576 h1
    generalize szOv a 1048576 = s1 at z1 h1 s0 s2
    have z2 := fun W r0 => sz_opt b (.slice ua b.ids.length uc) s1 W r0 s0 s2 hk' hm' hn'
    have z3 := szOv_in b s1
    generalize szOv b s1 = s4 at z2 z3
    go_enter Try.func5, Try.ntmps5
    go_wp2_with (with_reducible refine wpList_load_row rfl 34 _ rfl _ rfl 34 _ (0, 0) _ l0 Try.underlying34 rfl (sizeArg _ _) ?_)
    with_reducible refine z1.mono ?_
    rintro e w2 ⟨rfl, hb2⟩
    have S2 := S1.kept hb2
    have hB2 := hB1.trans (hb2.mono (by simp; omega))
    clear l0 l1 z1 hb2 S1 hB1
    have l1 := S2.c1
    generalize w.heap.size = g0 at S2 l1 ⊢
    generalize g0 + 1 = g1 at S2 l1 ⊢
    go_wp2_with (with_reducible refine wpList_load_row rfl 34 _ rfl _ rfl 34 _ (0, 0) _ l1 Try.underlying34 rfl (sizeArg _ _) ?_)
    with_reducible refine (z2 _ S2.r1).mono ?_
    rintro e w3 ⟨rfl, hb3⟩
    have S3 := S2.kept hb3
    have hB3 := hB2.trans (hb3.mono hB2.size)
    clear l1 z2 hb3 S2 hB2
    by_cases h4 : s4 < 0
    · clear z3
      go_wp2_with (fail)
      go_ret
      exact ⟨rfl, hB3⟩
    obtain ⟨-, -, s5, -, -⟩ := z3 (by omega)
    have cA := fun W (h : Two W g0 g1 a b (.slice va a.ids.length vc) (.slice ua b.ids.length uc)) => to_one a (.slice va a.ids.length vc) W h.r0 (by omega)
    have cB := fun W (h : Two W g0 g1 a b (.slice va a.ids.length vc) (.slice ua b.ids.length uc)) => to_one b (.slice ua b.ids.length uc) W h.r1 (by omega)
    have cS := fun v u W h1 h2 => spec_same a b v u W h1 h2 (by omega) (by omega)
    have hS := two_keep3 ⟨S3, hB3⟩
    clear z3
    go_wp2_with (fail)
    go_region_held3 (fun W => Two W g0 g1 a b (.slice va a.ids.length vc) (.slice ua b.ids.length uc) ∧ (loadCells ⟨g0, 0, none⟩ 14).run Try.prog W = .ok (a.cells (.slice va a.ids.length vc)) W ∧ (loadCells ⟨g1, 0, none⟩ 14).run Try.prog W = .ok (b.cells (.slice ua b.ids.length uc)) W ∧ Below w.heap.size w W)
      (first | exact hS | exact two_keep (by assumption) (by assumption) | go_keep)
      (first
        | (go_at_call 20; (with_reducible refine (cA _ ?_).mono ?_); (simp only [*]); rintro e w4 ⟨xa, xc, rfl, hx, hb4⟩)
        | (go_at_call 20; (with_reducible refine (cB _ ?_).mono ?_); (simp only [*]); rintro e w5 ⟨ya, yc, rfl, hy, hb5⟩)
        | (go_at_call 18; (with_reducible refine (cS _ _ _ ?_ ?_).mono ?_); (exact (hx.keep hb5 (Nat.le_refl _)).rd); (exact hy.rd); rintro e w6 ⟨rfl, hb6⟩))
    clear hS S3 hB3
    have S6 : Two w6 g0 g1 a b (.slice va a.ids.length vc) (.slice ua b.ids.length uc) ∧ (loadCells ⟨g0, 0, none⟩ 14).run Try.prog w6 = .ok (a.cells (.slice va a.ids.length vc)) w6 ∧ (loadCells ⟨g1, 0, none⟩ 14).run Try.prog w6 = .ok (b.cells (.slice ua b.ids.length uc)) w6 ∧ Below w.heap.size w w6 := by assumption
    obtain ⟨T6, f0, f1, B6⟩ := S6
    clear hx hy hb4 hb5 hb6
    go_wp2_with (fail)
    clear f0 f1
    with_reducible refine (cA _ T6).mono ?_
    rintro e w7 ⟨xa, xc, rfl, hx, hb⟩
    have own8 := own_new (old := #[.int .i64 0, .int .i64 0, .int .i64 0, .int .i64 0, .int .i64 0, .int .i64 0, .int .i64 0, .int .i64 0, .int .i64 0, .int .i64 0, .bool false, .string ⟨#[]⟩, .string ⟨#[]⟩, .slice none 0 0]) hx
    have hbn := (new_row w7 26 #[.int .i64 0, .int .i64 0, .int .i64 0, .int .i64 0, .int .i64 0, .int .i64 0, .int .i64 0, .int .i64 0, .int .i64 0, .int .i64 0, .bool false, .string ⟨#[]⟩, .string ⟨#[]⟩, .slice none 0 0] (a.cells (.slice xa a.ids.length xc))).2
    have T8 := (T6.kept hb).kept hbn
    have B8 := Below.then_ (Below.then_ B6 hb) hbn
    have one := a.cells_one xa a.ids.length xc
    have hz := zeroOpt w7
    have hss : (#[.int .i64 0, .int .i64 0, .int .i64 0, .int .i64 0, .int .i64 0, .int .i64 0, .int .i64 0, .int .i64 0, .int .i64 0, .int .i64 0, .bool false, .string ⟨#[]⟩, .string ⟨#[]⟩, .slice none 0 0] : Array Value).size = (a.cells (.slice xa a.ids.length xc)).size := by rw [Ov.cells_size]; rfl
    clear T6 B6 hb hbn hx
    go_upto_region 10 with (with_reducible refine wpList_store_row rfl 26 _ _ rfl _ rfl _ rfl 26 _ hz (sizeOpt' _ _) hss one ?_)
    clear hz one hss
    generalize (w7.alloc (.cells #[.int .i64 0, .int .i64 0, .int .i64 0, .int .i64 0, .int .i64 0, .int .i64 0, .int .i64 0, .int .i64 0, .int .i64 0, .int .i64 0, .bool false, .string ⟨#[]⟩, .string ⟨#[]⟩, .slice none 0 0] 26)).setRow w7.heap.size (a.cells (.slice xa a.ids.length xc)) = W8 at *
    generalize w7.heap.size = h8 at own8 ⊢
    have f1 := Cel.loadRow (P := Try.prog) (show Cel W8 g1 _ _ from T8.c1) 14 (Ov.cells_size _ _)
    go_wp2_with (fail)
    clear f1
    with_reducible refine (cB _ T8).mono ?_
    rintro e w9 ⟨ya, yc, rfl, hx, hb⟩
    have own10 := own_new (old := #[.int .i64 0, .int .i64 0, .int .i64 0, .int .i64 0, .int .i64 0, .int .i64 0, .int .i64 0, .int .i64 0, .int .i64 0, .int .i64 0, .bool false, .string ⟨#[]⟩, .string ⟨#[]⟩, .slice none 0 0]) hx
    have hbn := (new_row w9 26 #[.int .i64 0, .int .i64 0, .int .i64 0, .int .i64 0, .int .i64 0, .int .i64 0, .int .i64 0, .int .i64 0, .int .i64 0, .int .i64 0, .bool false, .string ⟨#[]⟩, .string ⟨#[]⟩, .slice none 0 0] (b.cells (.slice ya b.ids.length yc))).2
    have T10 := (T8.kept hb).kept hbn
    have B10 := Below.then_ (Below.then_ B8 hb) hbn
    have own8 := (own8.kept hb).kept hbn
    have one := b.cells_one ya b.ids.length yc
    have hz := zeroOpt w9
    have hss : (#[.int .i64 0, .int .i64 0, .int .i64 0, .int .i64 0, .int .i64 0, .int .i64 0, .int .i64 0, .int .i64 0, .int .i64 0, .int .i64 0, .bool false, .string ⟨#[]⟩, .string ⟨#[]⟩, .slice none 0 0] : Array Value).size = (b.cells (.slice ya b.ids.length yc)).size := by rw [Ov.cells_size]; rfl
    clear T8 B8 hb hbn hx
    go_upto_region 11 with (with_reducible refine wpList_store_row rfl 26 _ _ rfl _ rfl _ rfl 26 _ hz (sizeOpt' _ _) hss one ?_)
    clear hz one hss
    generalize (w9.alloc (.cells #[.int .i64 0, .int .i64 0, .int .i64 0, .int .i64 0, .int .i64 0, .int .i64 0, .int .i64 0, .int .i64 0, .int .i64 0, .int .i64 0, .bool false, .string ⟨#[]⟩, .string ⟨#[]⟩, .slice none 0 0] 26)).setRow w9.heap.size (b.cells (.slice ya b.ids.length yc)) = W10 at *
    generalize w9.heap.size = h10 at own10 ⊢
    obtain ⟨-, f0, f1, -, -, -, f2, f3⟩ := eight_all (w := w) T10 B10 own8 own10
    have cI := fun v u W h1 h2 => impl_same a b v u W h1 h2 (by omega) (by omega)
    go_wp2_with (fail)
    with_reducible refine (cI _ _ _ own8.r own10.r).mono ?_
    rintro e w11 ⟨rfl, hb11⟩
    have S11 := eight_all (w := w) (T10.kept hb11) (Below.then_ B10 hb11) (own8.kept hb11) (own10.kept hb11)
    have eA := fun u W (h1 : Own W h8 a (.slice xa a.ids.length xc)) h2 => eq_opt a (.slice xa a.ids.length xc) u W h1.r h2 (by omega)
    have eB := fun u W (h1 : Own W h10 b (.slice ya b.ids.length yc)) h2 => eq_opt b (.slice ya b.ids.length yc) u W h1.r h2 (by omega)
    clear f0 f1 f2 f3 T10 B10 own8 own10 hb11 cI cS
    generalize sameOv a b = sb
    go_wp2_with (fail)
    have S12 : Two w11.drew g0 g1 a b (.slice va a.ids.length vc) (.slice ua b.ids.length uc) ∧ (loadCells ⟨g0, 0, none⟩ 14).run Try.prog w11.drew = .ok (a.cells (.slice va a.ids.length vc)) w11.drew ∧ (loadCells ⟨g1, 0, none⟩ 14).run Try.prog w11.drew = .ok (b.cells (.slice ua b.ids.length uc)) w11.drew ∧ Below w.heap.size w w11.drew ∧ Own w11.drew h8 a (.slice xa a.ids.length xc) ∧ Own w11.drew h10 b (.slice ya b.ids.length yc) ∧ (loadCells ⟨h8, 0, none⟩ 14).run Try.prog w11.drew = .ok (a.cells (.slice xa a.ids.length xc)) w11.drew ∧ (loadCells ⟨h10, 0, none⟩ 14).run Try.prog w11.drew = .ok (b.cells (.slice ya b.ids.length yc)) w11.drew := eight_drew S11
    clear S11
    go_region_held3 (fun W => Two W g0 g1 a b (.slice va a.ids.length vc) (.slice ua b.ids.length uc) ∧ (loadCells ⟨g0, 0, none⟩ 14).run Try.prog W = .ok (a.cells (.slice va a.ids.length vc)) W ∧ (loadCells ⟨g1, 0, none⟩ 14).run Try.prog W = .ok (b.cells (.slice ua b.ids.length uc)) W ∧ Below w.heap.size w W ∧ Own W h8 a (.slice xa a.ids.length xc) ∧ Own W h10 b (.slice ya b.ids.length yc) ∧ (loadCells ⟨h8, 0, none⟩ 14).run Try.prog W = .ok (a.cells (.slice xa a.ids.length xc)) W ∧ (loadCells ⟨h10, 0, none⟩ 14).run Try.prog W = .ok (b.cells (.slice ya b.ids.length yc)) W)
      (first | exact S12 | exact eight_keep (by assumption) (by assumption) | go_keep)
      (first
        | (go_at_call 20; (with_reducible refine (cA _ ?_).mono ?_); (simp only [*]); rintro e w12 ⟨pa, pc, rfl, hp, hb12⟩)
        | (go_at_call 21; (with_reducible refine (eA _ _ ?_ ?_).mono ?_); (simp only [*]); (exact hp.rd); rintro e w13 ⟨rfl, hb13⟩))
    have S13 : Two w13 g0 g1 a b (.slice va a.ids.length vc) (.slice ua b.ids.length uc) ∧ (loadCells ⟨g0, 0, none⟩ 14).run Try.prog w13 = .ok (a.cells (.slice va a.ids.length vc)) w13 ∧ (loadCells ⟨g1, 0, none⟩ 14).run Try.prog w13 = .ok (b.cells (.slice ua b.ids.length uc)) w13 ∧ Below w.heap.size w w13 ∧ Own w13 h8 a (.slice xa a.ids.length xc) ∧ Own w13 h10 b (.slice ya b.ids.length yc) ∧ (loadCells ⟨h8, 0, none⟩ 14).run Try.prog w13 = .ok (a.cells (.slice xa a.ids.length xc)) w13 ∧ (loadCells ⟨h10, 0, none⟩ 14).run Try.prog w13 = .ok (b.cells (.slice ya b.ids.length yc)) w13 := by assumption
    clear S12 hp hb12 hb13
    go_wp2_with (fail)
    have S14 : Two w13.drew g0 g1 a b (.slice va a.ids.length vc) (.slice ua b.ids.length uc) ∧ (loadCells ⟨g0, 0, none⟩ 14).run Try.prog w13.drew = .ok (a.cells (.slice va a.ids.length vc)) w13.drew ∧ (loadCells ⟨g1, 0, none⟩ 14).run Try.prog w13.drew = .ok (b.cells (.slice ua b.ids.length uc)) w13.drew ∧ Below w.heap.size w w13.drew ∧ Own w13.drew h8 a (.slice xa a.ids.length xc) ∧ Own w13.drew h10 b (.slice ya b.ids.length yc) ∧ (loadCells ⟨h8, 0, none⟩ 14).run Try.prog w13.drew = .ok (a.cells (.slice xa a.ids.length xc)) w13.drew ∧ (loadCells ⟨h10, 0, none⟩ 14).run Try.prog w13.drew = .ok (b.cells (.slice ya b.ids.length yc)) w13.drew := eight_drew S13
    clear S13
    go_region_held3 (fun W => Two W g0 g1 a b (.slice va a.ids.length vc) (.slice ua b.ids.length uc) ∧ (loadCells ⟨g0, 0, none⟩ 14).run Try.prog W = .ok (a.cells (.slice va a.ids.length vc)) W ∧ (loadCells ⟨g1, 0, none⟩ 14).run Try.prog W = .ok (b.cells (.slice ua b.ids.length uc)) W ∧ Below w.heap.size w W ∧ Own W h8 a (.slice xa a.ids.length xc) ∧ Own W h10 b (.slice ya b.ids.length yc) ∧ (loadCells ⟨h8, 0, none⟩ 14).run Try.prog W = .ok (a.cells (.slice xa a.ids.length xc)) W ∧ (loadCells ⟨h10, 0, none⟩ 14).run Try.prog W = .ok (b.cells (.slice ya b.ids.length yc)) W)
      (first | exact S14 | exact eight_keep (by assumption) (by assumption) | go_keep)
      (first
        | (go_at_call 20; (with_reducible refine (cB _ ?_).mono ?_); (simp only [*]); rintro e w14 ⟨pa, pc, rfl, hp, hb14⟩)
        | (go_at_call 21; (with_reducible refine (eB _ _ ?_ ?_).mono ?_); (simp only [*]); (exact hp.rd); rintro e w15 ⟨rfl, hb15⟩))
    have S15 : Two w15 g0 g1 a b (.slice va a.ids.length vc) (.slice ua b.ids.length uc) ∧ (loadCells ⟨g0, 0, none⟩ 14).run Try.prog w15 = .ok (a.cells (.slice va a.ids.length vc)) w15 ∧ (loadCells ⟨g1, 0, none⟩ 14).run Try.prog w15 = .ok (b.cells (.slice ua b.ids.length uc)) w15 ∧ Below w.heap.size w w15 ∧ Own w15 h8 a (.slice xa a.ids.length xc) ∧ Own w15 h10 b (.slice ya b.ids.length yc) ∧ (loadCells ⟨h8, 0, none⟩ 14).run Try.prog w15 = .ok (a.cells (.slice xa a.ids.length xc)) w15 ∧ (loadCells ⟨h10, 0, none⟩ 14).run Try.prog w15 = .ok (b.cells (.slice ya b.ids.length yc)) w15 := by assumption
    have hBf := S15.2.2.2.1
    clear S14 hp hb14 hb15 S15
    go_wp2_with (fail)
    go_ret
    exact ⟨rfl, hBf⟩

theorem sameopt_core (a : Ov) (v : Value) (b : Ov) (u : Value) (w : World) (hv : Rd w v a.ids) (hk : a.key.size ≤ 9223372036854775807) (hm : a.mark.size ≤ 9223372036854775807) (hn : a.ids.length ≤ 9223372036854775807)
    (hu : Rd w u b.ids) (hk' : b.key.size ≤ 9223372036854775807) (hm' : b.mark.size ≤ 9223372036854775807) (hn' : b.ids.length ≤ 9223372036854775807) :
    Calls Try.prog 5 #[.agg (a.cells v), .agg (b.cells u)] w fun e w' => e = .returned (.bool true) ∧ Below w.heap.size w w' :=
  sameopt_law a b v u w hv hu hk hm hn hk' hm' hn'
end Go.Proofs.Ytigmldponhobhaa
