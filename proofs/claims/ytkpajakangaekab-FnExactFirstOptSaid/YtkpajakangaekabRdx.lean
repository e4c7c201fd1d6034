import Derived.Test.YtkpajakangaekabMgK
import Derived.Test.YtkpajakangaekabMgO
import Derived.Test.YtkpajakangaekabOty
import Derived.Laws.ResultCell
namespace Go.Proofs.Ytkpajakangaekab
open Go.RowKit
attribute [-go_sem] loadCells loadCellsFrom

theorem Cel.result_tmp {W : World} {g : Nat} {t : TypeId} {cs : Array Value} {P : Program} (h : Cel W g t cs) {fn : Func} {p u : Tmp} {ty : TypeId} {d : TypeDesc} (hr : fn.results = #[.cell p ty, .tmp u]) (tmps : Array Value) (hp : tmps.getD p undef = .pointer (some ⟨g, 0, none⟩))
    (hu : P.underlying ty = some d) (hd : (match d with | .struct _ | .array _ _ => true | _ => false) = true) (hi : (P.info? ty).map (·.size) = some cs.size) : (results fn tmps).run P W = .ok (.tuple #[.agg cs, tmps.getD u undef]) W := by
  rw [results_cell_tmp hr, hp]
  simp [asAddr, run_loadVar_row W g t ty cs (0, 0) d h hu hd hi, Result.andThen]

def readOk (s : ByteArray) (a : Int) : Bool :=
  decide (¬ optTx (rdo s a) = ⟨#[]⟩ ∧ (0 ≤ a ∧ a + ((optTx (rdo s a)).size : Int) ≤ (s.size : Int)) ∧ s.extract a.toNat (a + ((optTx (rdo s a)).size : Int)).toNat = optTx (rdo s a))
def readO (s : ByteArray) (a : Int) : Ov := if readOk s a = true then rdo s a else Ov.zero
def readP (s : ByteArray) (a : Int) : Int := if readOk s a = true then a + ((optTx (rdo s a)).size : Int) else -1

theorem rdo_ids_le (s : ByteArray) (a : Int) : (rdo s a).ids.length ≤ 255 := by
  obtain ⟨n, hn, en⟩ := nAt_byte s (a + 1)
  by_cases h : 1 ≤ nAt s a 1 ∧ nAt s a 1 ≤ 10
  · have hc : nAt s a 1 = 1 ∨ nAt s a 1 = 2 ∨ nAt s a 1 = 3 ∨ nAt s a 1 = 4 ∨ nAt s a 1 = 5 ∨ nAt s a 1 = 6 ∨ nAt s a 1 = 7 ∨ nAt s a 1 = 8 ∨ nAt s a 1 = 9 ∨ nAt s a 1 = 10 := by omega
    rcases hc with hk | hk | hk | hk | hk | hk | hk | hk | hk | hk
    · rw [rdo_1 s a hk]; show ([] : List Int).length ≤ 255; decide
    · rw [rdo_2 s a hk]; show ([] : List Int).length ≤ 255; decide
    · rw [rdo_3 s a hk]; show ([] : List Int).length ≤ 255; decide
    · rw [rdo_4 s a hk]; show ([] : List Int).length ≤ 255; decide
    · rw [rdo_5 s a hk]; show ([] : List Int).length ≤ 255; decide
    · rw [rdo_6 s a hk]; show ([] : List Int).length ≤ 255; decide
    · rw [rdo_7 s a hk]; show ([] : List Int).length ≤ 255; decide
    · rw [rdo_8 s a hk]
      unfold rdo8
      rw [en]
      show (idsAt s (a + 2) n).length ≤ 255
      rw [idsAt_length]; exact hn
    · rw [rdo_9 s a hk]; show ([] : List Int).length ≤ 255; decide
    · rw [rdo_10 s a hk]; show ([] : List Int).length ≤ 255; decide
  · rw [rdo_0 s a h]; show ([] : List Int).length ≤ 255; decide

/-- What stays in the call: the result's block, the option that was read. -/
structure Rdt (w W : World) (g0 g2 : Nat) (o : Ov) (v : Value) : Prop where
  z : Cel W g0 26 #[.int .i64 0, .int .i64 0, .int .i64 0, .int .i64 0, .int .i64 0, .int .i64 0, .int .i64 0, .int .i64 0, .int .i64 0, .int .i64 0, .bool false, .string ⟨#[]⟩, .string ⟨#[]⟩, .slice none 0 0]
  c : Cel W g2 26 (o.cells v)
  r : IRow W (w.heap.size + 1) W.heap.size v o.ids
  b : Below w.heap.size w W

theorem Rdt.kept {w W W' : World} {g0 g2 : Nat} {o : Ov} {v : Value} (h : Rdt w W g0 g2 o v) (hb : Below W.heap.size W W') : Rdt w W' g0 g2 o v :=
  ⟨Cel.kept h.z hb, Cel.kept h.c hb, (h.r.keep hb (Nat.le_refl _)).wider (Nat.le_refl _) hb.size, Below.then_ h.b hb⟩

theorem below_setRow {B g : Nat} {w W : World} (h : Below B w W) (hg : B ≤ g) (cs : Array Value) : Below B w (W.setRow g cs) :=
  ⟨h.os, h.tape, h.output, by simpa [World.setRow] using h.size, fun k hk => by
    show ((World.heap _).modify _ _)[k]? = _
    rw [Array.getElem?_modify, if_neg (by omega)]
    exact h.block k hk⟩

theorem zeros_eq : Ov.zero.cells (.slice none 0 0) = #[.int .i64 0, .int .i64 0, .int .i64 0, .int .i64 0, .int .i64 0, .int .i64 0, .int .i64 0, .int .i64 0, .int .i64 0, .int .i64 0, .bool false, .string ⟨#[]⟩, .string ⟨#[]⟩, .slice none 0 0] := by unfold Ov.cells Ov.zero; rfl

theorem extract_bytes (x y : ByteArray) : (x.toList == y.toList) = decide (x = y) := by
  rw [Bool.eq_iff_iff, beq_iff_eq, decide_eq_true_eq]
  constructor
  · intro h
    rw [ByteArray.toList_eq, ByteArray.toList_eq] at h
    exact ByteArray.ext (Array.toList_inj.1 h)
  · rintro rfl; rfl

set_option maxRecDepth 100000 in
set_option maxHeartbeats 4000000 in
theorem impl_readOpt (s : ByteArray) (a : Int) (w : World) (hs : s.size ≤ 1048576) (ha : a ≤ 9223372036854775807) :
    Calls Try.prog 13 #[.string s, .int .i64 a] w fun e w' => ∃ v, e = .returned (.tuple #[.agg ((readO s a).cells v), .int .i64 (readP s a)]) ∧ IRow w' w.heap.size w'.heap.size v (readO s a).ids ∧ Below w.heap.size w w' := by
  have hB1 := below_new w (.cells #[.int .i64 0, .int .i64 0, .int .i64 0, .int .i64 0, .int .i64 0, .int .i64 0, .int .i64 0, .int .i64 0, .int .i64 0, .int .i64 0, .bool false, .string ⟨#[]⟩, .string ⟨#[]⟩, .slice none 0 0] 26)
  have hZ1 : Cel (w.alloc (.cells #[.int .i64 0, .int .i64 0, .int .i64 0, .int .i64 0, .int .i64 0, .int .i64 0, .int .i64 0, .int .i64 0, .int .i64 0, .int .i64 0, .bool false, .string ⟨#[]⟩, .string ⟨#[]⟩, .slice none 0 0] 26)) w.heap.size 26 #[.int .i64 0, .int .i64 0, .int .i64 0, .int .i64 0, .int .i64 0, .int .i64 0, .int .i64 0, .int .i64 0, .int .i64 0, .int .i64 0, .bool false, .string ⟨#[]⟩, .string ⟨#[]⟩, .slice none 0 0] := Cel.new _ _ _
  have hsz : (w.alloc (.cells #[.int .i64 0, .int .i64 0, .int .i64 0, .int .i64 0, .int .i64 0, .int .i64 0, .int .i64 0, .int .i64 0, .int .i64 0, .int .i64 0, .bool false, .string ⟨#[]⟩, .string ⟨#[]⟩, .slice none 0 0] 26)).heap.size = w.heap.size + 1 := by simp
  have hB2 := hB1.alloc hB1.size (.cells #[.string s, .int .i64 a] 67)
  have hZ2 := hZ1.alloc (.cells #[.string s, .int .i64 a] 67)
  have hR2 : Rdr ((w.alloc (.cells #[.int .i64 0, .int .i64 0, .int .i64 0, .int .i64 0, .int .i64 0, .int .i64 0, .int .i64 0, .int .i64 0, .int .i64 0, .int .i64 0, .bool false, .string ⟨#[]⟩, .string ⟨#[]⟩, .slice none 0 0] 26)).alloc (.cells #[.string s, .int .i64 a] 67)) (w.heap.size + 1) s a := by
    have := Cel.new (w.alloc (.cells #[.int .i64 0, .int .i64 0, .int .i64 0, .int .i64 0, .int .i64 0, .int .i64 0, .int .i64 0, .int .i64 0, .int .i64 0, .int .i64 0, .bool false, .string ⟨#[]⟩, .string ⟨#[]⟩, .slice none 0 0] 26)) 67 #[.string s, .int .i64 a]
    rw [hsz] at this
    exact this
  clear hB1 hZ1 hsz
  go_enter Try.func13, Try.ntmps13
  go_wp2_with (fail)
  generalize (w.alloc (.cells #[.int .i64 0, .int .i64 0, .int .i64 0, .int .i64 0, .int .i64 0, .int .i64 0, .int .i64 0, .int .i64 0, .int .i64 0, .int .i64 0, .bool false, .string ⟨#[]⟩, .string ⟨#[]⟩, .slice none 0 0] 26)).alloc (.cells #[.string s, .int .i64 a] 67) = W1 at *
  with_reducible refine (opt_read _ s a _ hR2 hs ha).mono ?_
  rintro e w2 ⟨X, v, rfl, cP, hv2, hb2⟩
  have hgl := Cel.lt hZ2
  have hZ3 : Cel w2 w.heap.size 26 #[.int .i64 0, .int .i64 0, .int .i64 0, .int .i64 0, .int .i64 0, .int .i64 0, .int .i64 0, .int .i64 0, .int .i64 0, .int .i64 0, .bool false, .string ⟨#[]⟩, .string ⟨#[]⟩, .slice none 0 0] := by
    show w2.heap[w.heap.size]? = _
    rw [hb2.at_ _ (by omega) hgl]; exact hZ2
  have hB3 := hB2.trans (hb2.bl.mono (by omega))
  have hv3 := hv2.wider (show w.heap.size + 1 ≤ W1.heap.size by have := Cel.lt hR2; omega) (Nat.le_refl _)
  clear hZ2 hR2 hB2 hb2 hv2 hgl
  have hle := rdo_ids_le s a
  obtain ⟨va, vc, rfl⟩ : ∃ x c, v = .slice x (rdo s a).ids.length c := by obtain ⟨x, c, h, -⟩ := hv3.rd; exact ⟨x, c, h⟩
  go_wp2_with (fail)
  with_reducible refine (cP _).mono ?_
  rintro e w3 ⟨rfl, hb3⟩
  have hZ4 := Cel.kept hZ3 hb3
  have hB4 := Below.then_ hB3 hb3
  have hv4 := (hv3.keep hb3 (Nat.le_refl _)).wider (Nat.le_refl _) hb3.size
  have hbn := (new_row w3 26 #[.int .i64 0, .int .i64 0, .int .i64 0, .int .i64 0, .int .i64 0, .int .i64 0, .int .i64 0, .int .i64 0, .int .i64 0, .int .i64 0, .bool false, .string ⟨#[]⟩, .string ⟨#[]⟩, .slice none 0 0] ((rdo s a).cells (.slice va (rdo s a).ids.length vc)))
  have T5 : Rdt w ((w3.alloc (.cells #[.int .i64 0, .int .i64 0, .int .i64 0, .int .i64 0, .int .i64 0, .int .i64 0, .int .i64 0, .int .i64 0, .int .i64 0, .int .i64 0, .bool false, .string ⟨#[]⟩, .string ⟨#[]⟩, .slice none 0 0] 26)).setRow w3.heap.size ((rdo s a).cells (.slice va (rdo s a).ids.length vc))) w.heap.size w3.heap.size (rdo s a) (.slice va (rdo s a).ids.length vc) :=
    ⟨Cel.kept hZ4 hbn.2, hbn.1, (hv4.keep hbn.2 (Nat.le_refl _)).wider (Nat.le_refl _) hbn.2.size, Below.then_ hB4 hbn.2⟩
  have one := (rdo s a).cells_one va (rdo s a).ids.length vc
  have hz := zeroOpt w3
  have hss : (#[.int .i64 0, .int .i64 0, .int .i64 0, .int .i64 0, .int .i64 0, .int .i64 0, .int .i64 0, .int .i64 0, .int .i64 0, .int .i64 0, .bool false, .string ⟨#[]⟩, .string ⟨#[]⟩, .slice none 0 0] : Array Value).size = ((rdo s a).cells (.slice va (rdo s a).ids.length vc)).size := by rw [Ov.cells_size]; rfl
  clear hZ3 hB3 hv3 hZ4 hB4 hv4 hbn cP hb3
  go_upto_region 3 with (with_reducible refine wpList_store_row rfl 26 _ _ rfl _ rfl _ rfl 26 _ hz (sizeOpt' _ _) hss one ?_)
  clear hz
  generalize (w3.alloc (.cells #[.int .i64 0, .int .i64 0, .int .i64 0, .int .i64 0, .int .i64 0, .int .i64 0, .int .i64 0, .int .i64 0, .int .i64 0, .int .i64 0, .bool false, .string ⟨#[]⟩, .string ⟨#[]⟩, .slice none 0 0] 26)).setRow w3.heap.size ((rdo s a).cells (.slice va (rdo s a).ids.length vc)) = W5 at *
  generalize w3.heap.size = g2 at T5 ⊢
  have f5 := Cel.loadRow T5.c 14 (Ov.cells_size _ _) (P := Try.prog)
  go_wp2_with (fail)
  with_reducible refine (impl_optText _ _ _ T5.r.rd (by omega)).mono ?_
  rintro e w6 ⟨rfl, hb6⟩
  have T6 := T5.kept hb6
  clear f5 T5 hb6
  have hok : readOk s a = decide (¬ optTx (rdo s a) = ⟨#[]⟩ ∧ (0 ≤ a ∧ a + ((optTx (rdo s a)).size : Int) ≤ (s.size : Int)) ∧ s.extract a.toNat (a + ((optTx (rdo s a)).size : Int)).toNat = optTx (rdo s a)) := rfl
  have hr1 : readO s a = if readOk s a = true then rdo s a else Ov.zero := rfl
  have hr2 : readP s a = if readOk s a = true then a + ((optTx (rdo s a)).size : Int) else -1 := rfl
  have e1 := empty_b1 (optTx (rdo s a))
  generalize optTx (rdo s a) = T at *
  by_cases hp : 0 ≤ a ∧ a + (T.size : Int) ≤ (s.size : Int)
  · have hpart : Part s a T.size := ⟨hp.1, by omega, hp.2⟩
    have ct := fun W => impl_text_yes s a T.size W (by omega) hpart
    generalize s.extract a.toNat (a + (T.size : Int)).toNat = F at *
    have e2 := extract_bytes F T
    go_wp2_with (fail)
    with_reducible refine (ct _).mono ?_
    rintro e w7 ⟨rfl, hb7⟩
    have T7 := T6.kept hb7
    have f7 := Cel.loadRow T7.c 14 (Ov.cells_size _ _) (P := Try.prog)
    clear T6 hb7 ct
    by_cases h1 : T = ⟨#[]⟩
    · rw [decide_eq_true h1] at e1
      have hn : readOk s a = false := by rw [hok, decide_eq_false (fun h => h.1 h1)]
      have e3 : T.toList = [] := by simpa using e1
      rw [hn] at hr1 hr2
      simp only [Bool.false_eq_true, if_false] at hr1 hr2
      have hz : w7.heap[w.heap.size]? = some (.cells #[.int .i64 0, .int .i64 0, .int .i64 0, .int .i64 0, .int .i64 0, .int .i64 0, .int .i64 0, .int .i64 0, .int .i64 0, .int .i64 0, .bool false, .string ⟨#[]⟩, .string ⟨#[]⟩, .slice none 0 0] 26 (0, 0)) := T7.z
      have hi0 : (Try.prog.info? 26).map (·.size) = some (#[.int .i64 0, .int .i64 0, .int .i64 0, .int .i64 0, .int .i64 0, .int .i64 0, .int .i64 0, .int .i64 0, .int .i64 0, .int .i64 0, .bool false, .string ⟨#[]⟩, .string ⟨#[]⟩, .slice none 0 0] : Array Value).size := by kernel_rfl
      have one0 : (#[.int .i64 0, .int .i64 0, .int .i64 0, .int .i64 0, .int .i64 0, .int .i64 0, .int .i64 0, .int .i64 0, .int .i64 0, .int .i64 0, .bool false, .string ⟨#[]⟩, .string ⟨#[]⟩, .slice none 0 0] : Array Value).all (·.oneCell') = true := by kernel_rfl
      go_upto_region 90 with (with_reducible refine wpList_store_row rfl 26 _ _ rfl w.heap.size rfl _ rfl 26 _ hz hi0 rfl one0 ?_)
      skip
      refine bodyPost_ret (Cel.result_tmp (g := w.heap.size) (t := 26) (cs := #[.int .i64 0, .int .i64 0, .int .i64 0, .int .i64 0, .int .i64 0, .int .i64 0, .int .i64 0, .int .i64 0, .int .i64 0, .int .i64 0, .bool false, .string ⟨#[]⟩, .string ⟨#[]⟩, .slice none 0 0]) ?hh rfl _ rfl Try.underlying26 rfl hi0) rfl ?zz
      case hh => exact Cel.row T7.z _
      case zz => rw [hr1, hr2]; exact ⟨.slice none 0 0, by rw [zeros_eq]; rfl, IRow.none, below_setRow T7.b (Nat.le_refl _) _⟩
    · rw [decide_eq_false h1] at e1
      by_cases h2 : F = T
      · have hn : readOk s a = true := by rw [hok, decide_eq_true ⟨h1, hp, h2⟩]
        subst h2
        have e3 : ¬ F.toList = [] := fun h => by rw [h] at e1; cases e1
        rw [hn] at hr1 hr2
        simp only [if_true] at hr1 hr2
        have hz : w7.heap[w.heap.size]? = some (.cells #[.int .i64 0, .int .i64 0, .int .i64 0, .int .i64 0, .int .i64 0, .int .i64 0, .int .i64 0, .int .i64 0, .int .i64 0, .int .i64 0, .bool false, .string ⟨#[]⟩, .string ⟨#[]⟩, .slice none 0 0] 26 (0, 0)) := T7.z
        go_upto_region 91 with (with_reducible refine wpList_store_row rfl 26 _ _ rfl w.heap.size rfl _ rfl 26 _ hz (sizeOpt' _ _) hss one ?_)
        skip
        refine bodyPost_ret (Cel.result_tmp (g := w.heap.size) (t := 26) (cs := (rdo s a).cells (.slice va (rdo s a).ids.length vc)) ?hh rfl _ rfl Try.underlying26 rfl (sizeOpt' _ _)) rfl ?zz
        case hh => exact Cel.row T7.z _
        case zz =>
          rw [hr1, hr2]
          refine ⟨(.slice va (rdo s a).ids.length vc), by go_num, ?_, below_setRow T7.b (Nat.le_refl _) _⟩
          refine (T7.r.keepAt (fun g hg => ?_)).wider (by omega) (by simp [World.setRow])
          have := T7.r.block g hg
          show (w7.heap.modify _ _)[g]? = _
          rw [Array.getElem?_modify, if_neg (by omega)]
      · have hn : readOk s a = false := by rw [hok, decide_eq_false (fun h => h2 h.2.2)]
        have e3 : ¬ T.toList = [] := fun h => by rw [h] at e1; cases e1
        rw [decide_eq_false h2] at e2
        have e4 : ¬ F.toList = T.toList := fun h => by rw [h] at e2; simp at e2
        rw [hn] at hr1 hr2
        simp only [Bool.false_eq_true, if_false] at hr1 hr2
        have hz : w7.heap[w.heap.size]? = some (.cells #[.int .i64 0, .int .i64 0, .int .i64 0, .int .i64 0, .int .i64 0, .int .i64 0, .int .i64 0, .int .i64 0, .int .i64 0, .int .i64 0, .bool false, .string ⟨#[]⟩, .string ⟨#[]⟩, .slice none 0 0] 26 (0, 0)) := T7.z
        have hi0 : (Try.prog.info? 26).map (·.size) = some (#[.int .i64 0, .int .i64 0, .int .i64 0, .int .i64 0, .int .i64 0, .int .i64 0, .int .i64 0, .int .i64 0, .int .i64 0, .int .i64 0, .bool false, .string ⟨#[]⟩, .string ⟨#[]⟩, .slice none 0 0] : Array Value).size := by kernel_rfl
        have one0 : (#[.int .i64 0, .int .i64 0, .int .i64 0, .int .i64 0, .int .i64 0, .int .i64 0, .int .i64 0, .int .i64 0, .int .i64 0, .int .i64 0, .bool false, .string ⟨#[]⟩, .string ⟨#[]⟩, .slice none 0 0] : Array Value).all (·.oneCell') = true := by kernel_rfl
        go_upto_region 90 with (with_reducible refine wpList_store_row rfl 26 _ _ rfl w.heap.size rfl _ rfl 26 _ hz hi0 rfl one0 ?_)
        skip
        refine bodyPost_ret (Cel.result_tmp (g := w.heap.size) (t := 26) (cs := #[.int .i64 0, .int .i64 0, .int .i64 0, .int .i64 0, .int .i64 0, .int .i64 0, .int .i64 0, .int .i64 0, .int .i64 0, .int .i64 0, .bool false, .string ⟨#[]⟩, .string ⟨#[]⟩, .slice none 0 0]) ?hh rfl _ rfl Try.underlying26 rfl hi0) rfl ?zz
        case hh => exact Cel.row T7.z _
        case zz => rw [hr1, hr2]; exact ⟨.slice none 0 0, by rw [zeros_eq]; rfl, IRow.none, below_setRow T7.b (Nat.le_refl _) _⟩
  · have hpart : ¬ Part s a T.size := fun h => hp ⟨h.1, h.2.2⟩
    have hn : readOk s a = false := by rw [hok, decide_eq_false (fun h => hp h.2.1)]
    have ct := fun W => impl_text_no s a T.size W (by omega) ha hpart
    go_wp2_with (fail)
    with_reducible refine (ct _).mono ?_
    rintro e w7 ⟨rfl, hb7⟩
    have T7 := T6.kept hb7
    clear T6 hb7 ct
    rw [hn] at hr1 hr2
    simp only [Bool.false_eq_true, if_false] at hr1 hr2
    have hz : w7.heap[w.heap.size]? = some (.cells #[.int .i64 0, .int .i64 0, .int .i64 0, .int .i64 0, .int .i64 0, .int .i64 0, .int .i64 0, .int .i64 0, .int .i64 0, .int .i64 0, .bool false, .string ⟨#[]⟩, .string ⟨#[]⟩, .slice none 0 0] 26 (0, 0)) := T7.z
    have hi0 : (Try.prog.info? 26).map (·.size) = some (#[.int .i64 0, .int .i64 0, .int .i64 0, .int .i64 0, .int .i64 0, .int .i64 0, .int .i64 0, .int .i64 0, .int .i64 0, .int .i64 0, .bool false, .string ⟨#[]⟩, .string ⟨#[]⟩, .slice none 0 0] : Array Value).size := by kernel_rfl
    have one0 : (#[.int .i64 0, .int .i64 0, .int .i64 0, .int .i64 0, .int .i64 0, .int .i64 0, .int .i64 0, .int .i64 0, .int .i64 0, .int .i64 0, .bool false, .string ⟨#[]⟩, .string ⟨#[]⟩, .slice none 0 0] : Array Value).all (·.oneCell') = true := by kernel_rfl
    go_upto_region 90 with (with_reducible refine wpList_store_row rfl 26 _ _ rfl w.heap.size rfl _ rfl 26 _ hz hi0 rfl one0 ?_)
    skip
    all_goals
      refine bodyPost_ret (Cel.result_tmp (g := w.heap.size) (t := 26) (cs := #[.int .i64 0, .int .i64 0, .int .i64 0, .int .i64 0, .int .i64 0, .int .i64 0, .int .i64 0, .int .i64 0, .int .i64 0, .int .i64 0, .bool false, .string ⟨#[]⟩, .string ⟨#[]⟩, .slice none 0 0]) ?hh rfl _ rfl Try.underlying26 rfl hi0) rfl ?zz
      case hh => exact Cel.row T7.z _
      case zz => rw [hr1, hr2]; exact ⟨.slice none 0 0, by rw [zeros_eq]; rfl, IRow.none, below_setRow T7.b (Nat.le_refl _) _⟩
end Go.Proofs.Ytkpajakangaekab
