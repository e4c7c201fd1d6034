import Derived.Test.YtnikehgmopcocaaDoorFig
import Derived.Test.YtnikehgmopcocaaDoorCel
import Derived.Test.YtnikehgmopcocaaDoorQuiet
import Derived.Deep.DeepCutAuto
import Derived.Deep.RegionWith
namespace Go.Proofs.YtnikehgmopcocaaDoor
open Go.RowKit

/-- Two bytes in a block of their own, made a string. -/
theorem conv_two {W : World} {g : Nat} {a b : UInt8} (h : Cel W g 5 #[.int .u8 (a.toNat : Int), .int .u8 (b.toNat : Int)]) :
    (convert 22 9 (.slice (some ⟨g, 0, none⟩) 2 2)).run Tryd.prog W = .ok (.string ⟨#[a, b]⟩) W := by
  have h2 := run_convert_bytes_back (P := Tryd.prog) W 22 9 5 ⟨g, 0, none⟩ 2 [a, b] Tryd.underlying22 Tryd.underlying5 Tryd.underlying9 fun j hj => by
    have hadd : (⟨g, 0, none⟩ : Addr).add j = ⟨g, j, none⟩ := by unfold Addr.add; split <;> simp_all
    rw [hadd, h.cell j]
    match j, hj with
    | 0, _ => rfl
    | 1, _ => rfl
    | j + 2, hj => simp at hj; omega
  exact h2

/-- What of the world the standard library's texts need. -/
def FigW (W : World) (t0 t1 : TypeId) (p0 p1 : Value) : Prop :=
  Lib.TabIs Tryd.prog W "internal/strconv.uint64pow10" .u64 Lib.pow10Tab ∧ W.var? Tryd.prog "strconv.ErrSyntax" = some #[.iface t0 p0] ∧ W.var? Tryd.prog "strconv.ErrRange" = some #[.iface t1 p1]

theorem FigW.below {W W' : World} {t0 t1 : TypeId} {p0 p1 : Value} (h : FigW W t0 t1 p0 p1) (hb : Below W.heap.size W W') : FigW W' t0 t1 p0 p1 :=
  ⟨Lib.tabBelow_of_tabIs h.1 _ hb, var_below h.2.1 hb, var_below h.2.2 hb⟩

/-- Eight cells of one block. -/
def Eight (W : World) (g : Nat) (x0 x1 x2 x3 x4 x5 x6 x7 : Nat) : Prop :=
  W.cell? ⟨g, 0, none⟩ = some (.int .i64 (x0 : Int)) ∧ W.cell? ⟨g, 1, none⟩ = some (.int .i64 (x1 : Int)) ∧ W.cell? ⟨g, 2, none⟩ = some (.int .i64 (x2 : Int)) ∧ W.cell? ⟨g, 3, none⟩ = some (.int .i64 (x3 : Int)) ∧ W.cell? ⟨g, 4, none⟩ = some (.int .i64 (x4 : Int)) ∧ W.cell? ⟨g, 5, none⟩ = some (.int .i64 (x5 : Int)) ∧ W.cell? ⟨g, 6, none⟩ = some (.int .i64 (x6 : Int)) ∧ W.cell? ⟨g, 7, none⟩ = some (.int .i64 (x7 : Int))

theorem Eight.below {W W' : World} {g x0 x1 x2 x3 x4 x5 x6 x7 : Nat} (h : Eight W g x0 x1 x2 x3 x4 x5 x6 x7) (hb : Below W.heap.size W W') : Eight W' g x0 x1 x2 x3 x4 x5 x6 x7 := by
  obtain ⟨h0, h1, h2, h3, h4, h5, h6, h7⟩ := h
  have hlt := World.block_lt_of_cell? _ _ h0
  have hc := fun j => hb.cell (p := ⟨g, j, none⟩) hlt
  exact ⟨by rw [hc]; exact h0, by rw [hc]; exact h1, by rw [hc]; exact h2, by rw [hc]; exact h3, by rw [hc]; exact h4, by rw [hc]; exact h5, by rw [hc]; exact h6, by rw [hc]; exact h7⟩

theorem conv_kept {W W' : World} {a b : UInt8} (hb : Below (W.alloc (.cells #[.int .u8 (a.toNat : Int), .int .u8 (b.toNat : Int)] 5)).heap.size (W.alloc (.cells #[.int .u8 (a.toNat : Int), .int .u8 (b.toNat : Int)] 5)) W') :
    (convert 22 9 (.slice (some ⟨W.heap.size, 0, none⟩) 2 2)).run Tryd.prog W' = .ok (.string ⟨#[a, b]⟩) W' :=
  conv_two ((Cel.new _ _ _).kept hb)

theorem conv_new {W : World} {a b : UInt8} :
    (convert 22 9 (.slice (some ⟨W.heap.size, 0, none⟩) 2 2)).run Tryd.prog (W.alloc (.cells #[.int .u8 (a.toNat : Int), .int .u8 (b.toNat : Int)] 5)) = .ok (.string ⟨#[a, b]⟩) (W.alloc (.cells #[.int .u8 (a.toNat : Int), .int .u8 (b.toNat : Int)] 5)) :=
  conv_two (Cel.new _ _ _)

theorem eight_at1 {a W : World} {B g x0 x1 x2 x3 x4 x5 x6 x7 : Nat} (h : Eight a g x0 x1 x2 x3 x4 x5 x6 x7) (hb : Below B a.drew W) (hB : B = a.heap.size) : Eight W g x0 x1 x2 x3 x4 x5 x6 x7 := by
  subst hB
  exact Eight.below (W := a.drew) h hb

theorem eight_at2 {a W : World} {o : Obj} {B g x0 x1 x2 x3 x4 x5 x6 x7 : Nat} (h : Eight a g x0 x1 x2 x3 x4 x5 x6 x7) (hb : Below B (a.alloc o).drew W) (hB : B = a.heap.size + 1) : Eight W g x0 x1 x2 x3 x4 x5 x6 x7 := by
  refine Eight.below h ?_
  exact ((below_new a o).drew).trans (hb.mono (by omega))

theorem tab_new {w W : World} {k : IntKind} {zs : List Int} {nm : String} (h : Lib.TabIs Tryd.prog w nm k zs) (hb : Below w.heap.size w W) : Lib.TabIs Tryd.prog W nm k zs := Lib.tabBelow_of_tabIs h _ hb

theorem conv_keptd {W W' : World} {a b : UInt8} {B : Nat} (hb : Below B (W.alloc (.cells #[.int .u8 (a.toNat : Int), .int .u8 (b.toNat : Int)] 5)).drew W') (hB : B = W.heap.size + 1) :
    (convert 22 9 (.slice (some ⟨W.heap.size, 0, none⟩) 2 2)).run Tryd.prog W' = .ok (.string ⟨#[a, b]⟩) W' :=
  conv_two (Cel.below (W := (W.alloc (.cells #[.int .u8 (a.toNat : Int), .int .u8 (b.toNat : Int)] 5)).drew) (Cel.drew (Cel.new _ _ _)) hb (by omega))

theorem conv_newd {W : World} {a b : UInt8} :
    (convert 22 9 (.slice (some ⟨W.heap.size, 0, none⟩) 2 2)).run Tryd.prog (W.alloc (.cells #[.int .u8 (a.toNat : Int), .int .u8 (b.toNat : Int)] 5)).drew = .ok (.string ⟨#[a, b]⟩) (W.alloc (.cells #[.int .u8 (a.toNat : Int), .int .u8 (b.toNat : Int)] 5)).drew :=
  conv_two (Cel.drew (Cel.new _ _ _))

/-- The call came first, then the new block. -/
theorem fig_fin1 {a w1 w2 : World} {t0 t1 : TypeId} {p0 p1 : Value} {g x0 x1 x2 x3 x4 x5 x6 x7 : Nat} {s : ByteArray} {o : Obj} (hf : FigW w1 t0 t1 p0 p1) (hE : Eight w2 g x0 x1 x2 x3 x4 x5 x6 x7) (hb1 : Below a.heap.size a w1)
    (hb2 : Below w1.drew.heap.size w1.drew w2) : Value.string s = .string s ∧ FigW (w2.alloc o) t0 t1 p0 p1 ∧ Eight (w2.alloc o) g x0 x1 x2 x3 x4 x5 x6 x7 ∧ Below a.heap.size a (w2.alloc o) := by
  have hb : Below w1.heap.size w1 w2 := (Below.refl w1.heap.size w1).drew.trans hb2
  exact ⟨rfl, (hf.below hb).below (below_new _ _), hE.below (below_new _ _), Below.then_ (Below.then_ hb1 hb) (below_new _ _)⟩

/-- The new block came first, then the call. -/
theorem fig_fin2 {a w1 w2 : World} {t0 t1 : TypeId} {p0 p1 : Value} {B g x0 x1 x2 x3 x4 x5 x6 x7 : Nat} {s : ByteArray} {o : Obj} (hf : FigW w1 t0 t1 p0 p1) (hE : Eight w2 g x0 x1 x2 x3 x4 x5 x6 x7) (hb1 : Below a.heap.size a w1)
    (hb2 : Below B (w1.alloc o).drew w2) (hB : B = w1.heap.size + 1) : Value.string s = .string s ∧ FigW w2 t0 t1 p0 p1 ∧ Eight w2 g x0 x1 x2 x3 x4 x5 x6 x7 ∧ Below a.heap.size a w2 := by
  have hb : Below w1.heap.size w1 w2 := ((below_new w1 o).drew).trans (hb2.mono (by omega))
  exact ⟨rfl, hf.below hb, hE, Below.then_ hb1 hb⟩

theorem brought_bd (n l m : Int) (h : l ≤ m) : l ≤ brought n l m ∧ brought n l m ≤ m := by
  unfold brought
  repeat' split
  all_goals omega

theorem brought_again (n l m : Int) (h : l ≤ m) : brought (brought n l m) l m = brought n l m := by
  have := brought_bd n l m h
  generalize brought n l m = b at this
  unfold brought
  repeat' split
  all_goals omega

theorem itoa_small (n : Nat) (h : n < 10000) : (⟨(Lib.itoa (n : Int)).toArray⟩ : ByteArray).size ≤ 4 := by
  show (Lib.itoa (n : Int)).toArray.size ≤ 4
  rw [itoa_nat, List.size_toArray, Lib.decDigits_length]
  exact nDigits_le 4 n (by omega) (by omega)

set_option maxHeartbeats 2000000 in
set_option maxRecDepth 100000 in
theorem figures_law (v : Value) (w : World) (htab : Lib.TabIs Tryd.prog w "internal/strconv.uint64pow10" .u64 Lib.pow10Tab)
    (t0 t1 : TypeId) (p0 p1 : Value) (hv0 : w.var? Tryd.prog "strconv.ErrSyntax" = some #[.iface t0 p0]) (hv1 : w.var? Tryd.prog "strconv.ErrRange" = some #[.iface t1 p1]) (n : Nat) (hr : RdB w v n) :
    Calls Tryd.prog 3 #[v] w fun e w' => e = .returned (.bool true) ∧ Below w.heap.size w w' := by
  have cb := big_call v n w hr
  by_cases hn : 1048576 < n
  · rw [decide_eq_true hn] at cb
    clear hn hr
    go_enter Tryd.func3, Tryd.ntmps3
    go_wp2_with (go_at_call 5; refine cb.mono ?_; rintro e w1 ⟨rfl, rfl⟩)
    go_ret
    exact ⟨rfl, Below.refl _ _⟩
  · rw [decide_eq_false hn] at cb
    have cp := draw_places v n w hr (by omega)
    clear hn hr
    go_enter Tryd.func3, Tryd.ntmps3
    go_wp2_with (go_at_call 5; refine cb.mono ?_; rintro e w1 ⟨rfl, rfl⟩)
    with_reducible refine cp.mono ?_
    rintro e w1 ⟨g, cap, zs, rfl, hzl, hzb, hown, hb1⟩
    have hx : ∀ j, j < 12 → ∃ x : Nat, x < 10000 ∧ w1.cell? ⟨g, j, none⟩ = some (.int .i64 (x : Int)) := by
      intro j hj
      have h := hown.cells (g := g) rfl j (.int .i64 (zs[j]'(by omega))) (by rw [List.getElem?_map, List.getElem?_eq_getElem (by omega)]; rfl)
      have hb := hzb (zs[j]'(by omega)) (List.getElem_mem _)
      have hadd : (⟨g, 0, none⟩ : Addr).add j = ⟨g, j, none⟩ := by unfold Addr.add; split <;> simp_all
      rw [hadd] at h
      exact ⟨(zs[j]'(by omega)).toNat, by omega, by rw [h, Int.toNat_of_nonneg hb.1]⟩
    clear hown hzl hzb
    obtain ⟨x0, l0, d0⟩ := hx 0 (by omega)
    obtain ⟨x1, l1, d1⟩ := hx 1 (by omega)
    obtain ⟨x2, l2, d2⟩ := hx 2 (by omega)
    obtain ⟨x3, l3, d3⟩ := hx 3 (by omega)
    obtain ⟨x4, l4, d4⟩ := hx 4 (by omega)
    obtain ⟨x5, l5, d5⟩ := hx 5 (by omega)
    obtain ⟨x6, l6, d6⟩ := hx 6 (by omega)
    obtain ⟨x7, l7, d7⟩ := hx 7 (by omega)
    clear hx
    have E1 : Eight w1 g x0 x1 x2 x3 x4 x5 x6 x7 := ⟨d0, d1, d2, d3, d4, d5, d6, d7⟩
    have F1 : FigW w1 t0 t1 p0 p1 := ⟨Lib.tabBelow_of_tabIs htab _ hb1, var_below hv0 hb1, var_below hv1 hb1⟩
    clear d0 d1 d2 d3 d4 d5 d6 d7 htab hv0 hv1
    have c5 := fun W a => program_decimal (x5 : Int) (by omega) (by omega) W a
    have hs5 := itoa_small x5 l5
    generalize (⟨(Lib.itoa (x5 : Int)).toArray⟩ : ByteArray) = s5 at c5 hs5
    obtain ⟨b6, hb6⟩ : ∃ b : UInt8, (x6 : Int) % 256 = (b.toNat : Int) := ⟨UInt8.ofNat x6, by simp⟩
    obtain ⟨b7, hb7⟩ : ∃ b : UInt8, (x7 : Int) % 256 = (b.toNat : Int) := ⟨UInt8.ofNat x7, by simp⟩
    have hw6 : IntKind.u8.wrap (x6 : Int) = (b6.toNat : Int) := by rw [IntKind.wrap_u8', hb6]
    have hw7 : IntKind.u8.wrap (x7 : Int) = (b7.toNat : Int) := by rw [IntKind.wrap_u8', hb7]
    have hcn := fun W => conv_new (W := W) (a := b6) (b := b7)
    have hcd := fun W => conv_newd (W := W) (a := b6) (b := b7)
    have hsz : s5.size + (⟨#[b6, b7]⟩ : ByteArray).size ≤ 9223372036854775807 := by show s5.size + 2 ≤ _; omega
    have E1' := E1
    obtain ⟨-, -, -, -, -, d5, d6, d7⟩ := E1'
    have g5 := World.block_lt_of_cell? _ _ d5
    have T1 := F1.1
    go_upto_region 4 with fail
    go_cut [4] (fun s4 wx => s4 = .string (s5 ++ ⟨#[b6, b7]⟩) ∧ FigW wx t0 t1 p0 p1 ∧ Eight wx g x0 x1 x2 x3 x4 x5 x6 x7 ∧ Below w.heap.size w wx)
    case first =>
      go_region_with (first
        | (go_at_call 7; (with_reducible refine (c5 _ ?_).mono ?_); (first | exact T1 | exact tab_new T1 (below_new _ _).drew); rintro e w2 ⟨rfl, hb2⟩; (first | (have hE := eight_at1 E1 hb2 rfl) | (have hE := eight_at2 E1 hb2 (by simp); have hck := conv_keptd hb2 (by simp))); have hE2 := hE; obtain ⟨-, -, -, -, -, k5, k6, k7⟩ := hE2)
        )
      all_goals
        go_wp2_with (fail)
        go_meet
        first
          | exact fig_fin1 F1 hE hb1 hb2
          | exact fig_fin2 F1 hE hb1 hb2 (by simp)
    case rest =>
      clear E1 F1 d5 d6 d7 g5 T1 c5 hcn hcd hw6 hw7 hb6 hb7 hsz hb1
      obtain ⟨rfl, F2, E2, hB2⟩ := hcut
      have hT : (s5 ++ ⟨#[b6, b7]⟩ : ByteArray).size ≤ 6 := by rw [ByteArray.size_append]; show s5.size + 2 ≤ 6; omega
      generalize (s5 ++ ⟨#[b6, b7]⟩ : ByteArray) = T at hT ⊢
      have hz := hexText_size T
      have c8 := fun W => program_hex T W (by omega)
      have c9 := fun W => program_unhex (hexText T) W (by omega) (by omega)
      rw [unhex_hexText T (by omega)] at c9
      have hq : (((hexText T).size : Int) == 2 * (T.size : Int)) = true := by rw [hz]; simp
      have HQ := Lib.hid hq
      clear hz hq
      have hH : (hexText T).size ≤ 12 := by rw [hexText_size]; omega
      generalize hexText T = H at c8 c9 HQ hH
      go_wp2_with (fail)
      with_reducible refine (c8 _).mono ?_
      rintro e w3 ⟨rfl, hb3⟩
      go_wp2_with (fail)
      with_reducible refine (c9 _).mono ?_
      rintro e w4 ⟨rfl, hb4⟩
      have E4 := (E2.below hb3).below hb4
      have F4 := (F2.below hb3).below hb4
      have hB4 := Below.then_ (Below.then_ hB2 hb3) hb4
      clear E2 F2 hB2 hb3 hb4 c8 c9
      have E4' := E4
      obtain ⟨d0, d1, d2, d3, d4, -, -, -⟩ := E4'
      have e1 : IntKind.i64.wrap ((x0 : Int) * 10000) = (x0 : Int) * 10000 := IntWalk.i64_in _ (by omega)
      have e2 : IntKind.i64.wrap ((x0 : Int) * 10000 + (x1 : Int)) = (x0 : Int) * 10000 + (x1 : Int) := IntWalk.i64_in _ (by omega)
      go_wp2_with (fail)
      go_quiet (fail)
      go_wp2_with (fail)
      have F5 : FigW (w4.drewN nq) t0 t1 p0 p1 := F4
      have E5 : Eight (w4.drewN nq) g x0 x1 x2 x3 x4 x5 x6 x7 := E4
      have hB5 : Below w.heap.size w (w4.drewN nq) := ⟨hB4.os, hB4.tape, hB4.output, hB4.size, hB4.block⟩
      clear F4 E4 hB4 d0 d1 d2 d3 d4 e1 e2
      generalize w4.drewN nq = w5 at F5 E5 hB5 ⊢
      obtain ⟨N, hN, hN2⟩ : ∃ N : Nat, (x0 : Int) * 10000 + (x1 : Int) = (N : Int) ∧ N ≤ 1000000000 := ⟨x0 * 10000 + x1, by omega, by omega⟩
      rw [hN]
      clear hN
      have c7 := program_decimal (N : Int) (by omega) (by omega) w5 F5.1
      have hs7 : (⟨(Lib.itoa (N : Int)).toArray⟩ : ByteArray).size ≤ 1048576 := by
        show (Lib.itoa (N : Int)).toArray.size ≤ _
        rw [itoa_nat, List.size_toArray, Lib.decDigits_length]
        have := nDigits_le 10 N (by omega) (by omega)
        omega
      have hrd : Value.tuple #[.int .i64 (N : Int), .bool true] = rdEnd ⟨(Lib.itoa (N : Int)).toArray⟩ := rd_good hN2 (by rw [itoa_nat])
      have c10 := fun W a b c => program_rd ⟨(Lib.itoa (N : Int)).toArray⟩ W hs7 a t0 t1 p0 p1 b c
      rw [← hrd] at c10
      clear hrd hs7
      generalize (⟨(Lib.itoa (N : Int)).toArray⟩ : ByteArray) = S7 at c7 c10
      with_reducible refine c7.mono ?_
      rintro e w6 ⟨rfl, hb6⟩
      have F6 := F5.below hb6
      have E6 := E5.below hb6
      have hB6 := Below.then_ hB5 hb6
      clear F5 E5 hB5 hb6 c7
      go_wp2_with (fail)
      obtain ⟨f1, f2, f3⟩ := F6
      with_reducible refine (c10 _ f1 f2 f3).mono ?_
      rintro e w7 ⟨rfl, hb7⟩
      have E7 := E6.below hb7
      have hB7 := Below.then_ hB6 hb7
      clear E6 hB6 hb7 c10 f1 f2 f3
      obtain ⟨d0, d1, d2, d3, d4, -, -, -⟩ := E7
      have e3 : IntKind.i64.wrap ((x2 : Int) - 5000) = (x2 : Int) - 5000 := IntWalk.i64_in _ (by omega)
      have e4 : IntKind.i64.wrap (-(x3 : Int)) = -(x3 : Int) := IntWalk.i64_in _ (by omega)
      have cB := q_none fun W => brought_call ((x2 : Int) - 5000) (-(x3 : Int)) (x4 : Int) W
      have hb := brought_bd ((x2 : Int) - 5000) (-(x3 : Int)) (x4 : Int) (by omega)
      have hb2 := brought_again ((x2 : Int) - 5000) (-(x3 : Int)) (x4 : Int) (by omega)
      have cC := q_none fun W => brought_call (brought ((x2 : Int) - 5000) (-(x3 : Int)) (x4 : Int)) (-(x3 : Int)) (x4 : Int) W
      rw [hb2] at cC
      clear hb2
      generalize brought ((x2 : Int) - 5000) (-(x3 : Int)) (x4 : Int) = b at cB cC hb
      have q1 := HQ.out
      have q2 : IntKind.i64.wrap (2 * (T.size : Int)) = 2 * (T.size : Int) := IntWalk.i64_in _ (by omega)
      have q3 : -(x3 : Int) ≤ b := hb.1
      have q4 : b ≤ (x4 : Int) := hb.2
      go_wp2_with (fail)
      go_quiet ((go_at_call 11; with_reducible exact q_first cB))
      go_wp2_with (fail)
      go_quiet ((go_at_call 11; with_reducible first | exact q_next cC | exact q_first cC))
      go_wp2_with (fail)
      go_ret
      exact ⟨rfl, ⟨hB7.os, hB7.tape, hB7.output, hB7.size, hB7.block⟩⟩
end Go.Proofs.YtnikehgmopcocaaDoor
