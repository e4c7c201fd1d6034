import Derived.Test.YtkpajakangaekabOpo
import Derived.Test.YtkpajakangaekabPlo
import Derived.Test.YtkpajakangaekabOsi
import Derived.Test.YtkpajakangaekabOfi
import Derived.Test.YtkpajakangaekabRw
import Derived.Test.YtkpajakangaekabOgo
import Derived.Deep.RegionHeld3
namespace Go.Proofs.Ytkpajakangaekab
open Go.RowKit

theorem Cel.loadRow2 {W : World} {g : Nat} {t : TypeId} {cs : Array Value} (h : Cel W g t cs) {P : Program} (n : Nat) (hn : cs.size = n) :
    (loadCells ⟨g, 0, none⟩ n).run P W = .ok cs W := by
  subst hn
  have := run_loadCells_list (P := P) W ⟨g, 0, none⟩ cs.toList (fun j v hv => by
    have hadd : (⟨g, 0, none⟩ : Addr).add j = ⟨g, j, none⟩ := by unfold Addr.add; split <;> simp_all
    rw [hadd, cell_of_row _ _ j cs t (0, 0) h]
    simpa using hv)
  rw [Array.toArray_toList] at this
  simpa only [Array.length_toList] using this

attribute [-go_sem] loadCells loadCellsFrom

/-- An option of impl's in a block, its Ids readable. -/
structure Box (W : World) (g : Nat) (o : Ov) (v : Value) : Prop where
  c : W.heap[g]? = some (.cells (o.cells v) 26 (0, 0))
  r : Rd W v o.ids

theorem Box.kept {W W' : World} {g : Nat} {o : Ov} {v : Value} (h : Box W g o v) (hb : Below W.heap.size W W') : Box W' g o v :=
  ⟨Cel.kept (show Cel W g _ _ from h.c) hb, h.r.below hb⟩

theorem box_all {w W : World} {g : Nat} {o : Ov} {v : Value} (h : Box W g o v) (hb : Below w.heap.size w W) :
    Box W g o v ∧ (loadCells ⟨g, 0, none⟩ 14).run Try.prog W = .ok (o.cells v) W ∧ Below w.heap.size w W :=
  ⟨h, Cel.loadRow2 (show Cel W g _ _ from h.c) 14 (Ov.cells_size _ _), hb⟩

theorem box_keep {w W W' : World} {g : Nat} {o : Ov} {v : Value} (h : Box W g o v ∧ (loadCells ⟨g, 0, none⟩ 14).run Try.prog W = .ok (o.cells v) W ∧ Below w.heap.size w W) (hb : Below W.heap.size W W') :
    Box W' g o v ∧ (loadCells ⟨g, 0, none⟩ 14).run Try.prog W' = .ok (o.cells v) W' ∧ Below w.heap.size w W' :=
  box_all (h.1.kept hb) (Below.then_ h.2.2 hb)

theorem box_drew {w W : World} {g : Nat} {o : Ov} {v : Value} (h : Box W g o v) (hb : Below w.heap.size w W) :
    Box W.drew g o v ∧ (loadCells ⟨g, 0, none⟩ 14).run Try.prog W.drew = .ok (o.cells v) W.drew ∧ Below w.heap.size w W.drew :=
  box_all ⟨h.c, h.r⟩ hb.drew

theorem empty_b1 (s : ByteArray) : s.toList.isEmpty = decide (s = ⟨#[]⟩) := by
  rw [Bool.eq_iff_iff]
  simp only [List.isEmpty_iff, decide_eq_true_eq]
  constructor
  · intro h
    have h2 := ByteArray.toList_eq s
    rw [h] at h2
    exact ByteArray.ext (Array.toList_inj.1 h2.symm)
  · rintro rfl
    exact ByteArray.toList_eq _

theorem rowOf_le (xs : List ByteArray) : (rowOf xs).size ≤ (xs.map (·.size)).sum := by
  unfold rowOf
  split
  · show 0 ≤ _; omega
  · rw [joinOf_size]; omega

/-- What an option's text is, of its kind and its fields. -/
def headed (k : Int) (f : ByteArray) : ByteArray := if f = ⟨#[]⟩ then ⟨#[]⟩ else numText k 1 ++ numText f.size 1 ++ f
attribute [irreducible] headed
theorem headed_no (k : Int) : headed k ⟨#[]⟩ = ⟨#[]⟩ := by unfold headed; rw [if_pos rfl]
theorem headed_yes (k : Int) (f : ByteArray) (h : ¬ f = ⟨#[]⟩) : headed k f = numText k 1 ++ numText f.size 1 ++ f := by unfold headed; rw [if_neg h]

theorem rd_nil (W : World) : Rd W (.slice none 0 0) [] := ⟨none, 0, rfl, fun h => by simp at h⟩


/-! KINDS -/

theorem goneTx_le (zs : List Int) : (goneTx zs).size ≤ 1000 := by
  unfold goneTx
  split
  · rename_i h
    have h1 := rowOf_le (zs.map fun z => numText z 1)
    have h2 := sum_le (zs.map fun z => numText z 1) 6 (fun x hx => by obtain ⟨z, _, rfl⟩ := List.mem_map.1 hx; exact numTx_le z 1)
    rw [List.length_map] at h2
    omega
  · show 0 ≤ 1000; omega

set_option maxRecDepth 100000 in
set_option maxHeartbeats 1000000 in
theorem otx_1 (o : Ov) (v : Value) (w : World) (hv : Rd w v o.ids) (hn : o.ids.length ≤ 1048576) (hkd : o.kind = 1) :
    Calls Try.prog 8 #[.agg (o.cells v)] w fun e w' => e = .returned (.string (if sameOv (plain1 o) o = true then headed o.kind (ofSz o.key 8) else ⟨#[]⟩)) ∧ Below w.heap.size w w' := by
  have hB0 := below_new w (.cells (o.cells v) 26)
  have B0 : Box (w.alloc (.cells (o.cells v) 26)) w.heap.size o v := ⟨Cel.new w _ _, hv.below hB0⟩
  have l0 := (box_all (w := w) B0 hB0).2.1
  obtain ⟨va, vc, rfl⟩ : ∃ x c, v = .slice x o.ids.length c := by obtain ⟨x, c, h, -⟩ := hv; exact ⟨x, c, h⟩
  clear hv
  have c1 := fun W => opo_1 o (.slice va o.ids.length vc) W hkd
  have c2 := fun W => plo_1 o W
  have c3 := fun W (h : Box W w.heap.size o (.slice va o.ids.length vc)) => impl_same (plain1 o) o (.slice none 0 0) (.slice va o.ids.length vc) W (rd_nil W) h.r (by show 0 ≤ _; omega) hn
  have c4 := fun W => ft_capable o.key W
  have hnl := fun W => (show (binOp .eql 54 (.iface 85 (.agg #[.string o.key])) .nilIface).run Try.prog W = .ok (.bool false) W by kernel_rfl)
  have hme := fun (n : Nat) W => (show (method (n + 1) 85 (.agg #[.string o.key]) "loop.example/g00967/impl.fieldsText").run Try.prog W = .ok (99, .agg #[.string o.key]) W by kernel_rfl)
  have hF : (ofSz o.key 8).size ≤ 1000 := by have := ofSz_le o.key 8 (by omega); omega
  generalize ofSz o.key 8 = F at c4 hF ⊢
  generalize hr : (if sameOv (plain1 o) o = true then headed o.kind F else ⟨#[]⟩) = r
  have HRr := Lib.hid hr
  clear hkd hr
  go_enter Try.func8, Try.ntmps8
  go_wp2_with (fail)
  with_reducible refine (c1 _).mono ?_
  rintro e w1 ⟨rfl, hb1⟩
  have B1 := B0.kept hb1
  have hB1 := Below.then_ hB0 hb1
  have S1 := box_drew B1 hB1
  clear B0 hB0 l0 hb1 B1 hB1 c1
  go_wp2_with (fail)
  cases hs : sameOv (plain1 o) o with
  | false =>
    rw [hs] at c3
    have HS := Lib.hid hs
    clear hs
    go_region_held3 (fun W => Box W w.heap.size o (.slice va o.ids.length vc) ∧ (loadCells ⟨w.heap.size, 0, none⟩ 14).run Try.prog W = .ok (o.cells (.slice va o.ids.length vc)) W ∧ Below w.heap.size w W)
      (first | exact S1 | exact box_keep (by assumption) (by assumption) | go_keep)
      (first
        | (go_at_call 31; (with_reducible refine (c2 _).mono ?_); rintro e w2 ⟨rfl, hb2⟩)
        | (go_at_call 14; (with_reducible refine (c3 _ ?_).mono ?_); (simp only [*]); rintro e w3 ⟨rfl, hb3⟩))
    have hh : Box w3 w.heap.size o (.slice va o.ids.length vc) ∧ (loadCells ⟨w.heap.size, 0, none⟩ 14).run Try.prog w3 = .ok (o.cells (.slice va o.ids.length vc)) w3 ∧ Below w.heap.size w w3 := by assumption
    have hBf := hh.2.2
    clear S1 hh hb2 hb3
    go_wp2_with (fail)
    go_ret
    exact ⟨by rw [← HRr.out, HS.out]; rfl, hBf⟩
  | true =>
    rw [hs] at c3
    have HS := Lib.hid hs
    clear hs
    go_region_held3 (fun W => Box W w.heap.size o (.slice va o.ids.length vc) ∧ (loadCells ⟨w.heap.size, 0, none⟩ 14).run Try.prog W = .ok (o.cells (.slice va o.ids.length vc)) W ∧ Below w.heap.size w W)
      (first | exact S1 | exact box_keep (by assumption) (by assumption) | go_keep)
      (first
        | (go_at_call 31; (with_reducible refine (c2 _).mono ?_); rintro e w2 ⟨rfl, hb2⟩)
        | (go_at_call 14; (with_reducible refine (c3 _ ?_).mono ?_); (simp only [*]); rintro e w3 ⟨rfl, hb3⟩))
    have hh : Box w3 w.heap.size o (.slice va o.ids.length vc) ∧ (loadCells ⟨w.heap.size, 0, none⟩ 14).run Try.prog w3 = .ok (o.cells (.slice va o.ids.length vc)) w3 ∧ Below w.heap.size w w3 := by assumption
    obtain ⟨B3, -, hB3⟩ := hh
    clear S1 hb2 hb3 c2 c3
    go_wp2_with (fail)
    with_reducible refine (c4 _).mono ?_
    rintro e w4 ⟨rfl, hb4⟩
    have B4 := B3.kept hb4
    have hB4 := Below.then_ hB3 hb4
    have l0 := Cel.cell (show Cel w4 w.heap.size _ _ from B4.c) 0
    rw [(o.ats _).1] at l0
    clear B3 hB3 hb4 c4 hnl hme
    by_cases hz : F = ⟨#[]⟩
    · subst hz
      clear l0 B4
      go_wp2_with (fail)
      go_ret
      exact ⟨by rw [← HRr.out, HS.out, headed_no]; rfl, hB4⟩
    · have e1 := empty_b1 F
      rw [decide_eq_false hz] at e1
      have e2 : ¬ F.toList = [] := fun h => by rw [h] at e1; cases e1
      have hy := headed_yes o.kind F hz
      have HY := Lib.hid hy
      have z1 := numTx_le o.kind 1
      have z2 := numTx_le (F.size : Int) 1
      have cn1 := fun W => impl_numText o.kind 1 W
      have cn2 := fun W => impl_numText (F.size : Int) 1 W
      have HC := Lib.hid (show (numText o.kind 1 ++ numText (F.size : Int) 1 ++ F) = r by rw [← HRr.out, HS.out, if_pos rfl, hy])
      clear hz hy HY
      generalize numText o.kind 1 = n1 at *
      generalize numText (F.size : Int) 1 = n2 at *
      have q1 : n1.size + n2.size ≤ 9223372036854775807 := by omega
      have q2 : (n1 ++ n2).size + F.size ≤ 9223372036854775807 := by rw [ByteArray.size_append]; omega
      go_wp2_with (fail)
      with_reducible refine (cn1 _).mono ?_
      rintro e w5 ⟨rfl, hb5⟩
      have hB5 := Below.then_ hB4 hb5
      clear hB4 hb5 l0 B4
      go_wp2_with (fail)
      with_reducible refine (cn2 _).mono ?_
      rintro e w6 ⟨rfl, hb6⟩
      go_wp2_with (fail)
      go_ret
      exact ⟨by rw [← HC.out]; rfl, Below.then_ hB5 hb6⟩

set_option maxRecDepth 100000 in
set_option maxHeartbeats 1000000 in
theorem otx_2 (o : Ov) (v : Value) (w : World) (hv : Rd w v o.ids) (hn : o.ids.length ≤ 1048576) (hkd : o.kind = 2) :
    Calls Try.prog 8 #[.agg (o.cells v)] w fun e w' => e = .returned (.string (if sameOv (plain2 o) o = true then headed o.kind (rowOf [numText o.id 1, flagTx o.flag, numText o.token 4, numText o.nonce 4]) else ⟨#[]⟩)) ∧ Below w.heap.size w w' := by
  have hB0 := below_new w (.cells (o.cells v) 26)
  have B0 : Box (w.alloc (.cells (o.cells v) 26)) w.heap.size o v := ⟨Cel.new w _ _, hv.below hB0⟩
  have l0 := (box_all (w := w) B0 hB0).2.1
  obtain ⟨va, vc, rfl⟩ : ∃ x c, v = .slice x o.ids.length c := by obtain ⟨x, c, h, -⟩ := hv; exact ⟨x, c, h⟩
  clear hv
  have c1 := fun W => opo_2 o (.slice va o.ids.length vc) W hkd
  have c2 := fun W => plo_2 o W
  have c3 := fun W (h : Box W w.heap.size o (.slice va o.ids.length vc)) => impl_same (plain2 o) o (.slice none 0 0) (.slice va o.ids.length vc) W (rd_nil W) h.r (by show 0 ≤ _; omega) hn
  have c4 := fun W => ft_join o.id o.flag o.token o.nonce W
  have hnl := fun W => (show (binOp .eql 54 (.iface 87 (.agg #[.int .i64 o.id, .bool o.flag, .int .i64 o.token, .int .i64 o.nonce])) .nilIface).run Try.prog W = .ok (.bool false) W by kernel_rfl)
  have hme := fun (n : Nat) W => (show (method (n + 1) 87 (.agg #[.int .i64 o.id, .bool o.flag, .int .i64 o.token, .int .i64 o.nonce]) "loop.example/g00967/impl.fieldsText").run Try.prog W = .ok (101, .agg #[.int .i64 o.id, .bool o.flag, .int .i64 o.token, .int .i64 o.nonce]) W by kernel_rfl)
  have hF : (rowOf [numText o.id 1, flagTx o.flag, numText o.token 4, numText o.nonce 4]).size ≤ 1000 := by have h := rowOf_le [numText o.id 1, flagTx o.flag, numText o.token 4, numText o.nonce 4]; have b0 := numTx_le o.id 1; have b1 := flagTx_le o.flag; have b2 := numTx_le o.token 4; have b3 := numTx_le o.nonce 4; simp only [List.map_cons, List.map_nil, List.sum_cons, List.sum_nil] at h; omega
  generalize rowOf [numText o.id 1, flagTx o.flag, numText o.token 4, numText o.nonce 4] = F at c4 hF ⊢
  generalize hr : (if sameOv (plain2 o) o = true then headed o.kind F else ⟨#[]⟩) = r
  have HRr := Lib.hid hr
  clear hkd hr
  go_enter Try.func8, Try.ntmps8
  go_wp2_with (fail)
  with_reducible refine (c1 _).mono ?_
  rintro e w1 ⟨rfl, hb1⟩
  have B1 := B0.kept hb1
  have hB1 := Below.then_ hB0 hb1
  have S1 := box_drew B1 hB1
  clear B0 hB0 l0 hb1 B1 hB1 c1
  go_wp2_with (fail)
  cases hs : sameOv (plain2 o) o with
  | false =>
    rw [hs] at c3
    have HS := Lib.hid hs
    clear hs
    go_region_held3 (fun W => Box W w.heap.size o (.slice va o.ids.length vc) ∧ (loadCells ⟨w.heap.size, 0, none⟩ 14).run Try.prog W = .ok (o.cells (.slice va o.ids.length vc)) W ∧ Below w.heap.size w W)
      (first | exact S1 | exact box_keep (by assumption) (by assumption) | go_keep)
      (first
        | (go_at_call 31; (with_reducible refine (c2 _).mono ?_); rintro e w2 ⟨rfl, hb2⟩)
        | (go_at_call 14; (with_reducible refine (c3 _ ?_).mono ?_); (simp only [*]); rintro e w3 ⟨rfl, hb3⟩))
    have hh : Box w3 w.heap.size o (.slice va o.ids.length vc) ∧ (loadCells ⟨w.heap.size, 0, none⟩ 14).run Try.prog w3 = .ok (o.cells (.slice va o.ids.length vc)) w3 ∧ Below w.heap.size w w3 := by assumption
    have hBf := hh.2.2
    clear S1 hh hb2 hb3
    go_wp2_with (fail)
    go_ret
    exact ⟨by rw [← HRr.out, HS.out]; rfl, hBf⟩
  | true =>
    rw [hs] at c3
    have HS := Lib.hid hs
    clear hs
    go_region_held3 (fun W => Box W w.heap.size o (.slice va o.ids.length vc) ∧ (loadCells ⟨w.heap.size, 0, none⟩ 14).run Try.prog W = .ok (o.cells (.slice va o.ids.length vc)) W ∧ Below w.heap.size w W)
      (first | exact S1 | exact box_keep (by assumption) (by assumption) | go_keep)
      (first
        | (go_at_call 31; (with_reducible refine (c2 _).mono ?_); rintro e w2 ⟨rfl, hb2⟩)
        | (go_at_call 14; (with_reducible refine (c3 _ ?_).mono ?_); (simp only [*]); rintro e w3 ⟨rfl, hb3⟩))
    have hh : Box w3 w.heap.size o (.slice va o.ids.length vc) ∧ (loadCells ⟨w.heap.size, 0, none⟩ 14).run Try.prog w3 = .ok (o.cells (.slice va o.ids.length vc)) w3 ∧ Below w.heap.size w w3 := by assumption
    obtain ⟨B3, -, hB3⟩ := hh
    clear S1 hb2 hb3 c2 c3
    go_wp2_with (fail)
    with_reducible refine (c4 _).mono ?_
    rintro e w4 ⟨rfl, hb4⟩
    have B4 := B3.kept hb4
    have hB4 := Below.then_ hB3 hb4
    have l0 := Cel.cell (show Cel w4 w.heap.size _ _ from B4.c) 0
    rw [(o.ats _).1] at l0
    clear B3 hB3 hb4 c4 hnl hme
    by_cases hz : F = ⟨#[]⟩
    · subst hz
      clear l0 B4
      go_wp2_with (fail)
      go_ret
      exact ⟨by rw [← HRr.out, HS.out, headed_no]; rfl, hB4⟩
    · have e1 := empty_b1 F
      rw [decide_eq_false hz] at e1
      have e2 : ¬ F.toList = [] := fun h => by rw [h] at e1; cases e1
      have hy := headed_yes o.kind F hz
      have HY := Lib.hid hy
      have z1 := numTx_le o.kind 1
      have z2 := numTx_le (F.size : Int) 1
      have cn1 := fun W => impl_numText o.kind 1 W
      have cn2 := fun W => impl_numText (F.size : Int) 1 W
      have HC := Lib.hid (show (numText o.kind 1 ++ numText (F.size : Int) 1 ++ F) = r by rw [← HRr.out, HS.out, if_pos rfl, hy])
      clear hz hy HY
      generalize numText o.kind 1 = n1 at *
      generalize numText (F.size : Int) 1 = n2 at *
      have q1 : n1.size + n2.size ≤ 9223372036854775807 := by omega
      have q2 : (n1 ++ n2).size + F.size ≤ 9223372036854775807 := by rw [ByteArray.size_append]; omega
      go_wp2_with (fail)
      with_reducible refine (cn1 _).mono ?_
      rintro e w5 ⟨rfl, hb5⟩
      have hB5 := Below.then_ hB4 hb5
      clear hB4 hb5 l0 B4
      go_wp2_with (fail)
      with_reducible refine (cn2 _).mono ?_
      rintro e w6 ⟨rfl, hb6⟩
      go_wp2_with (fail)
      go_ret
      exact ⟨by rw [← HC.out]; rfl, Below.then_ hB5 hb6⟩

set_option maxRecDepth 100000 in
set_option maxHeartbeats 1000000 in
theorem otx_3 (o : Ov) (v : Value) (w : World) (hv : Rd w v o.ids) (hn : o.ids.length ≤ 1048576) (hkd : o.kind = 3) :
    Calls Try.prog 8 #[.agg (o.cells v)] w fun e w' => e = .returned (.string (if sameOv (plain3 o) o = true then headed o.kind (rowOf [numText o.id 1, flagTx o.flag, ofSz o.mark 8, numText o.nonce 4]) else ⟨#[]⟩)) ∧ Below w.heap.size w w' := by
  have hB0 := below_new w (.cells (o.cells v) 26)
  have B0 : Box (w.alloc (.cells (o.cells v) 26)) w.heap.size o v := ⟨Cel.new w _ _, hv.below hB0⟩
  have l0 := (box_all (w := w) B0 hB0).2.1
  obtain ⟨va, vc, rfl⟩ : ∃ x c, v = .slice x o.ids.length c := by obtain ⟨x, c, h, -⟩ := hv; exact ⟨x, c, h⟩
  clear hv
  have c1 := fun W => opo_3 o (.slice va o.ids.length vc) W hkd
  have c2 := fun W => plo_3 o W
  have c3 := fun W (h : Box W w.heap.size o (.slice va o.ids.length vc)) => impl_same (plain3 o) o (.slice none 0 0) (.slice va o.ids.length vc) W (rd_nil W) h.r (by show 0 ≤ _; omega) hn
  have c4 := fun W => ft_back o.id o.flag o.mark o.nonce W
  have hnl := fun W => (show (binOp .eql 54 (.iface 89 (.agg #[.int .i64 o.id, .bool o.flag, .string o.mark, .int .i64 o.nonce])) .nilIface).run Try.prog W = .ok (.bool false) W by kernel_rfl)
  have hme := fun (n : Nat) W => (show (method (n + 1) 89 (.agg #[.int .i64 o.id, .bool o.flag, .string o.mark, .int .i64 o.nonce]) "loop.example/g00967/impl.fieldsText").run Try.prog W = .ok (114, .agg #[.int .i64 o.id, .bool o.flag, .string o.mark, .int .i64 o.nonce]) W by kernel_rfl)
  have hF : (rowOf [numText o.id 1, flagTx o.flag, ofSz o.mark 8, numText o.nonce 4]).size ≤ 1000 := by have h := rowOf_le [numText o.id 1, flagTx o.flag, ofSz o.mark 8, numText o.nonce 4]; have b0 := numTx_le o.id 1; have b1 := flagTx_le o.flag; have b2 := ofSz8_le o.mark; have b3 := numTx_le o.nonce 4; simp only [List.map_cons, List.map_nil, List.sum_cons, List.sum_nil] at h; omega
  generalize rowOf [numText o.id 1, flagTx o.flag, ofSz o.mark 8, numText o.nonce 4] = F at c4 hF ⊢
  generalize hr : (if sameOv (plain3 o) o = true then headed o.kind F else ⟨#[]⟩) = r
  have HRr := Lib.hid hr
  clear hkd hr
  go_enter Try.func8, Try.ntmps8
  go_wp2_with (fail)
  with_reducible refine (c1 _).mono ?_
  rintro e w1 ⟨rfl, hb1⟩
  have B1 := B0.kept hb1
  have hB1 := Below.then_ hB0 hb1
  have S1 := box_drew B1 hB1
  clear B0 hB0 l0 hb1 B1 hB1 c1
  go_wp2_with (fail)
  cases hs : sameOv (plain3 o) o with
  | false =>
    rw [hs] at c3
    have HS := Lib.hid hs
    clear hs
    go_region_held3 (fun W => Box W w.heap.size o (.slice va o.ids.length vc) ∧ (loadCells ⟨w.heap.size, 0, none⟩ 14).run Try.prog W = .ok (o.cells (.slice va o.ids.length vc)) W ∧ Below w.heap.size w W)
      (first | exact S1 | exact box_keep (by assumption) (by assumption) | go_keep)
      (first
        | (go_at_call 31; (with_reducible refine (c2 _).mono ?_); rintro e w2 ⟨rfl, hb2⟩)
        | (go_at_call 14; (with_reducible refine (c3 _ ?_).mono ?_); (simp only [*]); rintro e w3 ⟨rfl, hb3⟩))
    have hh : Box w3 w.heap.size o (.slice va o.ids.length vc) ∧ (loadCells ⟨w.heap.size, 0, none⟩ 14).run Try.prog w3 = .ok (o.cells (.slice va o.ids.length vc)) w3 ∧ Below w.heap.size w w3 := by assumption
    have hBf := hh.2.2
    clear S1 hh hb2 hb3
    go_wp2_with (fail)
    go_ret
    exact ⟨by rw [← HRr.out, HS.out]; rfl, hBf⟩
  | true =>
    rw [hs] at c3
    have HS := Lib.hid hs
    clear hs
    go_region_held3 (fun W => Box W w.heap.size o (.slice va o.ids.length vc) ∧ (loadCells ⟨w.heap.size, 0, none⟩ 14).run Try.prog W = .ok (o.cells (.slice va o.ids.length vc)) W ∧ Below w.heap.size w W)
      (first | exact S1 | exact box_keep (by assumption) (by assumption) | go_keep)
      (first
        | (go_at_call 31; (with_reducible refine (c2 _).mono ?_); rintro e w2 ⟨rfl, hb2⟩)
        | (go_at_call 14; (with_reducible refine (c3 _ ?_).mono ?_); (simp only [*]); rintro e w3 ⟨rfl, hb3⟩))
    have hh : Box w3 w.heap.size o (.slice va o.ids.length vc) ∧ (loadCells ⟨w.heap.size, 0, none⟩ 14).run Try.prog w3 = .ok (o.cells (.slice va o.ids.length vc)) w3 ∧ Below w.heap.size w w3 := by assumption
    obtain ⟨B3, -, hB3⟩ := hh
    clear S1 hb2 hb3 c2 c3
    go_wp2_with (fail)
    with_reducible refine (c4 _).mono ?_
    rintro e w4 ⟨rfl, hb4⟩
    have B4 := B3.kept hb4
    have hB4 := Below.then_ hB3 hb4
    have l0 := Cel.cell (show Cel w4 w.heap.size _ _ from B4.c) 0
    rw [(o.ats _).1] at l0
    clear B3 hB3 hb4 c4 hnl hme
    by_cases hz : F = ⟨#[]⟩
    · subst hz
      clear l0 B4
      go_wp2_with (fail)
      go_ret
      exact ⟨by rw [← HRr.out, HS.out, headed_no]; rfl, hB4⟩
    · have e1 := empty_b1 F
      rw [decide_eq_false hz] at e1
      have e2 : ¬ F.toList = [] := fun h => by rw [h] at e1; cases e1
      have hy := headed_yes o.kind F hz
      have HY := Lib.hid hy
      have z1 := numTx_le o.kind 1
      have z2 := numTx_le (F.size : Int) 1
      have cn1 := fun W => impl_numText o.kind 1 W
      have cn2 := fun W => impl_numText (F.size : Int) 1 W
      have HC := Lib.hid (show (numText o.kind 1 ++ numText (F.size : Int) 1 ++ F) = r by rw [← HRr.out, HS.out, if_pos rfl, hy])
      clear hz hy HY
      generalize numText o.kind 1 = n1 at *
      generalize numText (F.size : Int) 1 = n2 at *
      have q1 : n1.size + n2.size ≤ 9223372036854775807 := by omega
      have q2 : (n1 ++ n2).size + F.size ≤ 9223372036854775807 := by rw [ByteArray.size_append]; omega
      go_wp2_with (fail)
      with_reducible refine (cn1 _).mono ?_
      rintro e w5 ⟨rfl, hb5⟩
      have hB5 := Below.then_ hB4 hb5
      clear hB4 hb5 l0 B4
      go_wp2_with (fail)
      with_reducible refine (cn2 _).mono ?_
      rintro e w6 ⟨rfl, hb6⟩
      go_wp2_with (fail)
      go_ret
      exact ⟨by rw [← HC.out]; rfl, Below.then_ hB5 hb6⟩

set_option maxRecDepth 100000 in
set_option maxHeartbeats 1000000 in
theorem otx_4 (o : Ov) (v : Value) (w : World) (hv : Rd w v o.ids) (hn : o.ids.length ≤ 1048576) (hkd : o.kind = 4) :
    Calls Try.prog 8 #[.agg (o.cells v)] w fun e w' => e = .returned (.string (if sameOv (plain4 o) o = true then headed o.kind (ofSz o.mark 20) else ⟨#[]⟩)) ∧ Below w.heap.size w w' := by
  have hB0 := below_new w (.cells (o.cells v) 26)
  have B0 : Box (w.alloc (.cells (o.cells v) 26)) w.heap.size o v := ⟨Cel.new w _ _, hv.below hB0⟩
  have l0 := (box_all (w := w) B0 hB0).2.1
  obtain ⟨va, vc, rfl⟩ : ∃ x c, v = .slice x o.ids.length c := by obtain ⟨x, c, h, -⟩ := hv; exact ⟨x, c, h⟩
  clear hv
  have c1 := fun W => opo_4 o (.slice va o.ids.length vc) W hkd
  have c2 := fun W => plo_4 o W
  have c3 := fun W (h : Box W w.heap.size o (.slice va o.ids.length vc)) => impl_same (plain4 o) o (.slice none 0 0) (.slice va o.ids.length vc) W (rd_nil W) h.r (by show 0 ≤ _; omega) hn
  have c4 := fun W => ft_done o.mark W
  have hnl := fun W => (show (binOp .eql 54 (.iface 91 (.agg #[.string o.mark])) .nilIface).run Try.prog W = .ok (.bool false) W by kernel_rfl)
  have hme := fun (n : Nat) W => (show (method (n + 1) 91 (.agg #[.string o.mark]) "loop.example/g00967/impl.fieldsText").run Try.prog W = .ok (115, .agg #[.string o.mark]) W by kernel_rfl)
  have hF : (ofSz o.mark 20).size ≤ 1000 := by have := ofSz_le o.mark 20 (by omega); omega
  generalize ofSz o.mark 20 = F at c4 hF ⊢
  generalize hr : (if sameOv (plain4 o) o = true then headed o.kind F else ⟨#[]⟩) = r
  have HRr := Lib.hid hr
  clear hkd hr
  go_enter Try.func8, Try.ntmps8
  go_wp2_with (fail)
  with_reducible refine (c1 _).mono ?_
  rintro e w1 ⟨rfl, hb1⟩
  have B1 := B0.kept hb1
  have hB1 := Below.then_ hB0 hb1
  have S1 := box_drew B1 hB1
  clear B0 hB0 l0 hb1 B1 hB1 c1
  go_wp2_with (fail)
  cases hs : sameOv (plain4 o) o with
  | false =>
    rw [hs] at c3
    have HS := Lib.hid hs
    clear hs
    go_region_held3 (fun W => Box W w.heap.size o (.slice va o.ids.length vc) ∧ (loadCells ⟨w.heap.size, 0, none⟩ 14).run Try.prog W = .ok (o.cells (.slice va o.ids.length vc)) W ∧ Below w.heap.size w W)
      (first | exact S1 | exact box_keep (by assumption) (by assumption) | go_keep)
      (first
        | (go_at_call 31; (with_reducible refine (c2 _).mono ?_); rintro e w2 ⟨rfl, hb2⟩)
        | (go_at_call 14; (with_reducible refine (c3 _ ?_).mono ?_); (simp only [*]); rintro e w3 ⟨rfl, hb3⟩))
    have hh : Box w3 w.heap.size o (.slice va o.ids.length vc) ∧ (loadCells ⟨w.heap.size, 0, none⟩ 14).run Try.prog w3 = .ok (o.cells (.slice va o.ids.length vc)) w3 ∧ Below w.heap.size w w3 := by assumption
    have hBf := hh.2.2
    clear S1 hh hb2 hb3
    go_wp2_with (fail)
    go_ret
    exact ⟨by rw [← HRr.out, HS.out]; rfl, hBf⟩
  | true =>
    rw [hs] at c3
    have HS := Lib.hid hs
    clear hs
    go_region_held3 (fun W => Box W w.heap.size o (.slice va o.ids.length vc) ∧ (loadCells ⟨w.heap.size, 0, none⟩ 14).run Try.prog W = .ok (o.cells (.slice va o.ids.length vc)) W ∧ Below w.heap.size w W)
      (first | exact S1 | exact box_keep (by assumption) (by assumption) | go_keep)
      (first
        | (go_at_call 31; (with_reducible refine (c2 _).mono ?_); rintro e w2 ⟨rfl, hb2⟩)
        | (go_at_call 14; (with_reducible refine (c3 _ ?_).mono ?_); (simp only [*]); rintro e w3 ⟨rfl, hb3⟩))
    have hh : Box w3 w.heap.size o (.slice va o.ids.length vc) ∧ (loadCells ⟨w.heap.size, 0, none⟩ 14).run Try.prog w3 = .ok (o.cells (.slice va o.ids.length vc)) w3 ∧ Below w.heap.size w w3 := by assumption
    obtain ⟨B3, -, hB3⟩ := hh
    clear S1 hb2 hb3 c2 c3
    go_wp2_with (fail)
    with_reducible refine (c4 _).mono ?_
    rintro e w4 ⟨rfl, hb4⟩
    have B4 := B3.kept hb4
    have hB4 := Below.then_ hB3 hb4
    have l0 := Cel.cell (show Cel w4 w.heap.size _ _ from B4.c) 0
    rw [(o.ats _).1] at l0
    clear B3 hB3 hb4 c4 hnl hme
    by_cases hz : F = ⟨#[]⟩
    · subst hz
      clear l0 B4
      go_wp2_with (fail)
      go_ret
      exact ⟨by rw [← HRr.out, HS.out, headed_no]; rfl, hB4⟩
    · have e1 := empty_b1 F
      rw [decide_eq_false hz] at e1
      have e2 : ¬ F.toList = [] := fun h => by rw [h] at e1; cases e1
      have hy := headed_yes o.kind F hz
      have HY := Lib.hid hy
      have z1 := numTx_le o.kind 1
      have z2 := numTx_le (F.size : Int) 1
      have cn1 := fun W => impl_numText o.kind 1 W
      have cn2 := fun W => impl_numText (F.size : Int) 1 W
      have HC := Lib.hid (show (numText o.kind 1 ++ numText (F.size : Int) 1 ++ F) = r by rw [← HRr.out, HS.out, if_pos rfl, hy])
      clear hz hy HY
      generalize numText o.kind 1 = n1 at *
      generalize numText (F.size : Int) 1 = n2 at *
      have q1 : n1.size + n2.size ≤ 9223372036854775807 := by omega
      have q2 : (n1 ++ n2).size + F.size ≤ 9223372036854775807 := by rw [ByteArray.size_append]; omega
      go_wp2_with (fail)
      with_reducible refine (cn1 _).mono ?_
      rintro e w5 ⟨rfl, hb5⟩
      have hB5 := Below.then_ hB4 hb5
      clear hB4 hb5 l0 B4
      go_wp2_with (fail)
      with_reducible refine (cn2 _).mono ?_
      rintro e w6 ⟨rfl, hb6⟩
      go_wp2_with (fail)
      go_ret
      exact ⟨by rw [← HC.out]; rfl, Below.then_ hB5 hb6⟩

set_option maxRecDepth 100000 in
set_option maxHeartbeats 1000000 in
theorem otx_5 (o : Ov) (v : Value) (w : World) (hv : Rd w v o.ids) (hn : o.ids.length ≤ 1048576) (hkd : o.kind = 5) :
    Calls Try.prog 8 #[.agg (o.cells v)] w fun e w' => e = .returned (.string (if sameOv (plain5 o) o = true then headed o.kind (rowOf [numText o.ack 6, numText o.seq 6, numText o.sub 4, numText o.len 2]) else ⟨#[]⟩)) ∧ Below w.heap.size w w' := by
  have hB0 := below_new w (.cells (o.cells v) 26)
  have B0 : Box (w.alloc (.cells (o.cells v) 26)) w.heap.size o v := ⟨Cel.new w _ _, hv.below hB0⟩
  have l0 := (box_all (w := w) B0 hB0).2.1
  obtain ⟨va, vc, rfl⟩ : ∃ x c, v = .slice x o.ids.length c := by obtain ⟨x, c, h, -⟩ := hv; exact ⟨x, c, h⟩
  clear hv
  have c1 := fun W => opo_5 o (.slice va o.ids.length vc) W hkd
  have c2 := fun W => plo_5 o W
  have c3 := fun W (h : Box W w.heap.size o (.slice va o.ids.length vc)) => impl_same (plain5 o) o (.slice none 0 0) (.slice va o.ids.length vc) W (rd_nil W) h.r (by show 0 ≤ _; omega) hn
  have c4 := fun W => ft_data o.ack o.seq o.sub o.len W
  have hnl := fun W => (show (binOp .eql 54 (.iface 93 (.agg #[.int .i64 o.ack, .int .i64 o.seq, .int .i64 o.sub, .int .i64 o.len])) .nilIface).run Try.prog W = .ok (.bool false) W by kernel_rfl)
  have hme := fun (n : Nat) W => (show (method (n + 1) 93 (.agg #[.int .i64 o.ack, .int .i64 o.seq, .int .i64 o.sub, .int .i64 o.len]) "loop.example/g00967/impl.fieldsText").run Try.prog W = .ok (116, .agg #[.int .i64 o.ack, .int .i64 o.seq, .int .i64 o.sub, .int .i64 o.len]) W by kernel_rfl)
  have hF : (rowOf [numText o.ack 6, numText o.seq 6, numText o.sub 4, numText o.len 2]).size ≤ 1000 := by have h := rowOf_le [numText o.ack 6, numText o.seq 6, numText o.sub 4, numText o.len 2]; have b0 := numTx_le o.ack 6; have b1 := numTx_le o.seq 6; have b2 := numTx_le o.sub 4; have b3 := numTx_le o.len 2; simp only [List.map_cons, List.map_nil, List.sum_cons, List.sum_nil] at h; omega
  generalize rowOf [numText o.ack 6, numText o.seq 6, numText o.sub 4, numText o.len 2] = F at c4 hF ⊢
  generalize hr : (if sameOv (plain5 o) o = true then headed o.kind F else ⟨#[]⟩) = r
  have HRr := Lib.hid hr
  clear hkd hr
  go_enter Try.func8, Try.ntmps8
  go_wp2_with (fail)
  with_reducible refine (c1 _).mono ?_
  rintro e w1 ⟨rfl, hb1⟩
  have B1 := B0.kept hb1
  have hB1 := Below.then_ hB0 hb1
  have S1 := box_drew B1 hB1
  clear B0 hB0 l0 hb1 B1 hB1 c1
  go_wp2_with (fail)
  cases hs : sameOv (plain5 o) o with
  | false =>
    rw [hs] at c3
    have HS := Lib.hid hs
    clear hs
    go_region_held3 (fun W => Box W w.heap.size o (.slice va o.ids.length vc) ∧ (loadCells ⟨w.heap.size, 0, none⟩ 14).run Try.prog W = .ok (o.cells (.slice va o.ids.length vc)) W ∧ Below w.heap.size w W)
      (first | exact S1 | exact box_keep (by assumption) (by assumption) | go_keep)
      (first
        | (go_at_call 31; (with_reducible refine (c2 _).mono ?_); rintro e w2 ⟨rfl, hb2⟩)
        | (go_at_call 14; (with_reducible refine (c3 _ ?_).mono ?_); (simp only [*]); rintro e w3 ⟨rfl, hb3⟩))
    have hh : Box w3 w.heap.size o (.slice va o.ids.length vc) ∧ (loadCells ⟨w.heap.size, 0, none⟩ 14).run Try.prog w3 = .ok (o.cells (.slice va o.ids.length vc)) w3 ∧ Below w.heap.size w w3 := by assumption
    have hBf := hh.2.2
    clear S1 hh hb2 hb3
    go_wp2_with (fail)
    go_ret
    exact ⟨by rw [← HRr.out, HS.out]; rfl, hBf⟩
  | true =>
    rw [hs] at c3
    have HS := Lib.hid hs
    clear hs
    go_region_held3 (fun W => Box W w.heap.size o (.slice va o.ids.length vc) ∧ (loadCells ⟨w.heap.size, 0, none⟩ 14).run Try.prog W = .ok (o.cells (.slice va o.ids.length vc)) W ∧ Below w.heap.size w W)
      (first | exact S1 | exact box_keep (by assumption) (by assumption) | go_keep)
      (first
        | (go_at_call 31; (with_reducible refine (c2 _).mono ?_); rintro e w2 ⟨rfl, hb2⟩)
        | (go_at_call 14; (with_reducible refine (c3 _ ?_).mono ?_); (simp only [*]); rintro e w3 ⟨rfl, hb3⟩))
    have hh : Box w3 w.heap.size o (.slice va o.ids.length vc) ∧ (loadCells ⟨w.heap.size, 0, none⟩ 14).run Try.prog w3 = .ok (o.cells (.slice va o.ids.length vc)) w3 ∧ Below w.heap.size w w3 := by assumption
    obtain ⟨B3, -, hB3⟩ := hh
    clear S1 hb2 hb3 c2 c3
    go_wp2_with (fail)
    with_reducible refine (c4 _).mono ?_
    rintro e w4 ⟨rfl, hb4⟩
    have B4 := B3.kept hb4
    have hB4 := Below.then_ hB3 hb4
    have l0 := Cel.cell (show Cel w4 w.heap.size _ _ from B4.c) 0
    rw [(o.ats _).1] at l0
    clear B3 hB3 hb4 c4 hnl hme
    by_cases hz : F = ⟨#[]⟩
    · subst hz
      clear l0 B4
      go_wp2_with (fail)
      go_ret
      exact ⟨by rw [← HRr.out, HS.out, headed_no]; rfl, hB4⟩
    · have e1 := empty_b1 F
      rw [decide_eq_false hz] at e1
      have e2 : ¬ F.toList = [] := fun h => by rw [h] at e1; cases e1
      have hy := headed_yes o.kind F hz
      have HY := Lib.hid hy
      have z1 := numTx_le o.kind 1
      have z2 := numTx_le (F.size : Int) 1
      have cn1 := fun W => impl_numText o.kind 1 W
      have cn2 := fun W => impl_numText (F.size : Int) 1 W
      have HC := Lib.hid (show (numText o.kind 1 ++ numText (F.size : Int) 1 ++ F) = r by rw [← HRr.out, HS.out, if_pos rfl, hy])
      clear hz hy HY
      generalize numText o.kind 1 = n1 at *
      generalize numText (F.size : Int) 1 = n2 at *
      have q1 : n1.size + n2.size ≤ 9223372036854775807 := by omega
      have q2 : (n1 ++ n2).size + F.size ≤ 9223372036854775807 := by rw [ByteArray.size_append]; omega
      go_wp2_with (fail)
      with_reducible refine (cn1 _).mono ?_
      rintro e w5 ⟨rfl, hb5⟩
      have hB5 := Below.then_ hB4 hb5
      clear hB4 hb5 l0 B4
      go_wp2_with (fail)
      with_reducible refine (cn2 _).mono ?_
      rintro e w6 ⟨rfl, hb6⟩
      go_wp2_with (fail)
      go_ret
      exact ⟨by rw [← HC.out]; rfl, Below.then_ hB5 hb6⟩

set_option maxRecDepth 100000 in
set_option maxHeartbeats 1000000 in
theorem otx_6 (o : Ov) (v : Value) (w : World) (hv : Rd w v o.ids) (hn : o.ids.length ≤ 1048576) (hkd : o.kind = 6) :
    Calls Try.prog 8 #[.agg (o.cells v)] w fun e w' => e = .returned (.string (if sameOv (plain6 o) o = true then headed o.kind (rowOf [numText o.id 1, numText o.addr 4, numText o.port 2, ofSz o.mark 8]) else ⟨#[]⟩)) ∧ Below w.heap.size w w' := by
  have hB0 := below_new w (.cells (o.cells v) 26)
  have B0 : Box (w.alloc (.cells (o.cells v) 26)) w.heap.size o v := ⟨Cel.new w _ _, hv.below hB0⟩
  have l0 := (box_all (w := w) B0 hB0).2.1
  obtain ⟨va, vc, rfl⟩ : ∃ x c, v = .slice x o.ids.length c := by obtain ⟨x, c, h, -⟩ := hv; exact ⟨x, c, h⟩
  clear hv
  have c1 := fun W => opo_6 o (.slice va o.ids.length vc) W hkd
  have c2 := fun W => plo_6 o W
  have c3 := fun W (h : Box W w.heap.size o (.slice va o.ids.length vc)) => impl_same (plain6 o) o (.slice none 0 0) (.slice va o.ids.length vc) W (rd_nil W) h.r (by show 0 ≤ _; omega) hn
  have c4 := fun W => ft_addr o.id o.addr o.port o.mark W
  have hnl := fun W => (show (binOp .eql 54 (.iface 95 (.agg #[.int .i64 o.id, .int .i64 o.addr, .int .i64 o.port, .string o.mark])) .nilIface).run Try.prog W = .ok (.bool false) W by kernel_rfl)
  have hme := fun (n : Nat) W => (show (method (n + 1) 95 (.agg #[.int .i64 o.id, .int .i64 o.addr, .int .i64 o.port, .string o.mark]) "loop.example/g00967/impl.fieldsText").run Try.prog W = .ok (117, .agg #[.int .i64 o.id, .int .i64 o.addr, .int .i64 o.port, .string o.mark]) W by kernel_rfl)
  have hF : (rowOf [numText o.id 1, numText o.addr 4, numText o.port 2, ofSz o.mark 8]).size ≤ 1000 := by have h := rowOf_le [numText o.id 1, numText o.addr 4, numText o.port 2, ofSz o.mark 8]; have b0 := numTx_le o.id 1; have b1 := numTx_le o.addr 4; have b2 := numTx_le o.port 2; have b3 := ofSz8_le o.mark; simp only [List.map_cons, List.map_nil, List.sum_cons, List.sum_nil] at h; omega
  generalize rowOf [numText o.id 1, numText o.addr 4, numText o.port 2, ofSz o.mark 8] = F at c4 hF ⊢
  generalize hr : (if sameOv (plain6 o) o = true then headed o.kind F else ⟨#[]⟩) = r
  have HRr := Lib.hid hr
  clear hkd hr
  go_enter Try.func8, Try.ntmps8
  go_wp2_with (fail)
  with_reducible refine (c1 _).mono ?_
  rintro e w1 ⟨rfl, hb1⟩
  have B1 := B0.kept hb1
  have hB1 := Below.then_ hB0 hb1
  have S1 := box_drew B1 hB1
  clear B0 hB0 l0 hb1 B1 hB1 c1
  go_wp2_with (fail)
  cases hs : sameOv (plain6 o) o with
  | false =>
    rw [hs] at c3
    have HS := Lib.hid hs
    clear hs
    go_region_held3 (fun W => Box W w.heap.size o (.slice va o.ids.length vc) ∧ (loadCells ⟨w.heap.size, 0, none⟩ 14).run Try.prog W = .ok (o.cells (.slice va o.ids.length vc)) W ∧ Below w.heap.size w W)
      (first | exact S1 | exact box_keep (by assumption) (by assumption) | go_keep)
      (first
        | (go_at_call 31; (with_reducible refine (c2 _).mono ?_); rintro e w2 ⟨rfl, hb2⟩)
        | (go_at_call 14; (with_reducible refine (c3 _ ?_).mono ?_); (simp only [*]); rintro e w3 ⟨rfl, hb3⟩))
    have hh : Box w3 w.heap.size o (.slice va o.ids.length vc) ∧ (loadCells ⟨w.heap.size, 0, none⟩ 14).run Try.prog w3 = .ok (o.cells (.slice va o.ids.length vc)) w3 ∧ Below w.heap.size w w3 := by assumption
    have hBf := hh.2.2
    clear S1 hh hb2 hb3
    go_wp2_with (fail)
    go_ret
    exact ⟨by rw [← HRr.out, HS.out]; rfl, hBf⟩
  | true =>
    rw [hs] at c3
    have HS := Lib.hid hs
    clear hs
    go_region_held3 (fun W => Box W w.heap.size o (.slice va o.ids.length vc) ∧ (loadCells ⟨w.heap.size, 0, none⟩ 14).run Try.prog W = .ok (o.cells (.slice va o.ids.length vc)) W ∧ Below w.heap.size w W)
      (first | exact S1 | exact box_keep (by assumption) (by assumption) | go_keep)
      (first
        | (go_at_call 31; (with_reducible refine (c2 _).mono ?_); rintro e w2 ⟨rfl, hb2⟩)
        | (go_at_call 14; (with_reducible refine (c3 _ ?_).mono ?_); (simp only [*]); rintro e w3 ⟨rfl, hb3⟩))
    have hh : Box w3 w.heap.size o (.slice va o.ids.length vc) ∧ (loadCells ⟨w.heap.size, 0, none⟩ 14).run Try.prog w3 = .ok (o.cells (.slice va o.ids.length vc)) w3 ∧ Below w.heap.size w w3 := by assumption
    obtain ⟨B3, -, hB3⟩ := hh
    clear S1 hb2 hb3 c2 c3
    go_wp2_with (fail)
    with_reducible refine (c4 _).mono ?_
    rintro e w4 ⟨rfl, hb4⟩
    have B4 := B3.kept hb4
    have hB4 := Below.then_ hB3 hb4
    have l0 := Cel.cell (show Cel w4 w.heap.size _ _ from B4.c) 0
    rw [(o.ats _).1] at l0
    clear B3 hB3 hb4 c4 hnl hme
    by_cases hz : F = ⟨#[]⟩
    · subst hz
      clear l0 B4
      go_wp2_with (fail)
      go_ret
      exact ⟨by rw [← HRr.out, HS.out, headed_no]; rfl, hB4⟩
    · have e1 := empty_b1 F
      rw [decide_eq_false hz] at e1
      have e2 : ¬ F.toList = [] := fun h => by rw [h] at e1; cases e1
      have hy := headed_yes o.kind F hz
      have HY := Lib.hid hy
      have z1 := numTx_le o.kind 1
      have z2 := numTx_le (F.size : Int) 1
      have cn1 := fun W => impl_numText o.kind 1 W
      have cn2 := fun W => impl_numText (F.size : Int) 1 W
      have HC := Lib.hid (show (numText o.kind 1 ++ numText (F.size : Int) 1 ++ F) = r by rw [← HRr.out, HS.out, if_pos rfl, hy])
      clear hz hy HY
      generalize numText o.kind 1 = n1 at *
      generalize numText (F.size : Int) 1 = n2 at *
      have q1 : n1.size + n2.size ≤ 9223372036854775807 := by omega
      have q2 : (n1 ++ n2).size + F.size ≤ 9223372036854775807 := by rw [ByteArray.size_append]; omega
      go_wp2_with (fail)
      with_reducible refine (cn1 _).mono ?_
      rintro e w5 ⟨rfl, hb5⟩
      have hB5 := Below.then_ hB4 hb5
      clear hB4 hb5 l0 B4
      go_wp2_with (fail)
      with_reducible refine (cn2 _).mono ?_
      rintro e w6 ⟨rfl, hb6⟩
      go_wp2_with (fail)
      go_ret
      exact ⟨by rw [← HC.out]; rfl, Below.then_ hB5 hb6⟩

set_option maxRecDepth 100000 in
set_option maxHeartbeats 1000000 in
theorem otx_7 (o : Ov) (v : Value) (w : World) (hv : Rd w v o.ids) (hn : o.ids.length ≤ 1048576) (hkd : o.kind = 7) :
    Calls Try.prog 8 #[.agg (o.cells v)] w fun e w' => e = .returned (.string (if sameOv (plain7 o) o = true then headed o.kind (rowOf [numText o.id 1, numText o.addr 4, numText o.port 2]) else ⟨#[]⟩)) ∧ Below w.heap.size w w' := by
  have hB0 := below_new w (.cells (o.cells v) 26)
  have B0 : Box (w.alloc (.cells (o.cells v) 26)) w.heap.size o v := ⟨Cel.new w _ _, hv.below hB0⟩
  have l0 := (box_all (w := w) B0 hB0).2.1
  obtain ⟨va, vc, rfl⟩ : ∃ x c, v = .slice x o.ids.length c := by obtain ⟨x, c, h, -⟩ := hv; exact ⟨x, c, h⟩
  clear hv
  have c1 := fun W => opo_7 o (.slice va o.ids.length vc) W hkd
  have c2 := fun W => plo_7 o W
  have c3 := fun W (h : Box W w.heap.size o (.slice va o.ids.length vc)) => impl_same (plain7 o) o (.slice none 0 0) (.slice va o.ids.length vc) W (rd_nil W) h.r (by show 0 ≤ _; omega) hn
  have c4 := fun W => ft_echo o.id o.addr o.port W
  have hnl := fun W => (show (binOp .eql 54 (.iface 97 (.agg #[.int .i64 o.id, .int .i64 o.addr, .int .i64 o.port])) .nilIface).run Try.prog W = .ok (.bool false) W by kernel_rfl)
  have hme := fun (n : Nat) W => (show (method (n + 1) 97 (.agg #[.int .i64 o.id, .int .i64 o.addr, .int .i64 o.port]) "loop.example/g00967/impl.fieldsText").run Try.prog W = .ok (118, .agg #[.int .i64 o.id, .int .i64 o.addr, .int .i64 o.port]) W by kernel_rfl)
  have hF : (rowOf [numText o.id 1, numText o.addr 4, numText o.port 2]).size ≤ 1000 := by have h := rowOf_le [numText o.id 1, numText o.addr 4, numText o.port 2]; have b0 := numTx_le o.id 1; have b1 := numTx_le o.addr 4; have b2 := numTx_le o.port 2; simp only [List.map_cons, List.map_nil, List.sum_cons, List.sum_nil] at h; omega
  generalize rowOf [numText o.id 1, numText o.addr 4, numText o.port 2] = F at c4 hF ⊢
  generalize hr : (if sameOv (plain7 o) o = true then headed o.kind F else ⟨#[]⟩) = r
  have HRr := Lib.hid hr
  clear hkd hr
  go_enter Try.func8, Try.ntmps8
  go_wp2_with (fail)
  with_reducible refine (c1 _).mono ?_
  rintro e w1 ⟨rfl, hb1⟩
  have B1 := B0.kept hb1
  have hB1 := Below.then_ hB0 hb1
  have S1 := box_drew B1 hB1
  clear B0 hB0 l0 hb1 B1 hB1 c1
  go_wp2_with (fail)
  cases hs : sameOv (plain7 o) o with
  | false =>
    rw [hs] at c3
    have HS := Lib.hid hs
    clear hs
    go_region_held3 (fun W => Box W w.heap.size o (.slice va o.ids.length vc) ∧ (loadCells ⟨w.heap.size, 0, none⟩ 14).run Try.prog W = .ok (o.cells (.slice va o.ids.length vc)) W ∧ Below w.heap.size w W)
      (first | exact S1 | exact box_keep (by assumption) (by assumption) | go_keep)
      (first
        | (go_at_call 31; (with_reducible refine (c2 _).mono ?_); rintro e w2 ⟨rfl, hb2⟩)
        | (go_at_call 14; (with_reducible refine (c3 _ ?_).mono ?_); (simp only [*]); rintro e w3 ⟨rfl, hb3⟩))
    have hh : Box w3 w.heap.size o (.slice va o.ids.length vc) ∧ (loadCells ⟨w.heap.size, 0, none⟩ 14).run Try.prog w3 = .ok (o.cells (.slice va o.ids.length vc)) w3 ∧ Below w.heap.size w w3 := by assumption
    have hBf := hh.2.2
    clear S1 hh hb2 hb3
    go_wp2_with (fail)
    go_ret
    exact ⟨by rw [← HRr.out, HS.out]; rfl, hBf⟩
  | true =>
    rw [hs] at c3
    have HS := Lib.hid hs
    clear hs
    go_region_held3 (fun W => Box W w.heap.size o (.slice va o.ids.length vc) ∧ (loadCells ⟨w.heap.size, 0, none⟩ 14).run Try.prog W = .ok (o.cells (.slice va o.ids.length vc)) W ∧ Below w.heap.size w W)
      (first | exact S1 | exact box_keep (by assumption) (by assumption) | go_keep)
      (first
        | (go_at_call 31; (with_reducible refine (c2 _).mono ?_); rintro e w2 ⟨rfl, hb2⟩)
        | (go_at_call 14; (with_reducible refine (c3 _ ?_).mono ?_); (simp only [*]); rintro e w3 ⟨rfl, hb3⟩))
    have hh : Box w3 w.heap.size o (.slice va o.ids.length vc) ∧ (loadCells ⟨w.heap.size, 0, none⟩ 14).run Try.prog w3 = .ok (o.cells (.slice va o.ids.length vc)) w3 ∧ Below w.heap.size w w3 := by assumption
    obtain ⟨B3, -, hB3⟩ := hh
    clear S1 hb2 hb3 c2 c3
    go_wp2_with (fail)
    with_reducible refine (c4 _).mono ?_
    rintro e w4 ⟨rfl, hb4⟩
    have B4 := B3.kept hb4
    have hB4 := Below.then_ hB3 hb4
    have l0 := Cel.cell (show Cel w4 w.heap.size _ _ from B4.c) 0
    rw [(o.ats _).1] at l0
    clear B3 hB3 hb4 c4 hnl hme
    by_cases hz : F = ⟨#[]⟩
    · subst hz
      clear l0 B4
      go_wp2_with (fail)
      go_ret
      exact ⟨by rw [← HRr.out, HS.out, headed_no]; rfl, hB4⟩
    · have e1 := empty_b1 F
      rw [decide_eq_false hz] at e1
      have e2 : ¬ F.toList = [] := fun h => by rw [h] at e1; cases e1
      have hy := headed_yes o.kind F hz
      have HY := Lib.hid hy
      have z1 := numTx_le o.kind 1
      have z2 := numTx_le (F.size : Int) 1
      have cn1 := fun W => impl_numText o.kind 1 W
      have cn2 := fun W => impl_numText (F.size : Int) 1 W
      have HC := Lib.hid (show (numText o.kind 1 ++ numText (F.size : Int) 1 ++ F) = r by rw [← HRr.out, HS.out, if_pos rfl, hy])
      clear hz hy HY
      generalize numText o.kind 1 = n1 at *
      generalize numText (F.size : Int) 1 = n2 at *
      have q1 : n1.size + n2.size ≤ 9223372036854775807 := by omega
      have q2 : (n1 ++ n2).size + F.size ≤ 9223372036854775807 := by rw [ByteArray.size_append]; omega
      go_wp2_with (fail)
      with_reducible refine (cn1 _).mono ?_
      rintro e w5 ⟨rfl, hb5⟩
      have hB5 := Below.then_ hB4 hb5
      clear hB4 hb5 l0 B4
      go_wp2_with (fail)
      with_reducible refine (cn2 _).mono ?_
      rintro e w6 ⟨rfl, hb6⟩
      go_wp2_with (fail)
      go_ret
      exact ⟨by rw [← HC.out]; rfl, Below.then_ hB5 hb6⟩

set_option maxRecDepth 100000 in
set_option maxHeartbeats 1000000 in
theorem otx_8 (o : Ov) (v : Value) (w : World) (hv : Rd w v o.ids) (hn : o.ids.length ≤ 1048576) (hkd : o.kind = 8) :
    Calls Try.prog 8 #[.agg (o.cells v)] w fun e w' => e = .returned (.string (if sameOv (plain8 o) o = true then headed o.kind (goneTx o.ids) else ⟨#[]⟩)) ∧ Below w.heap.size w w' := by
  have hB0 := below_new w (.cells (o.cells v) 26)
  have B0 : Box (w.alloc (.cells (o.cells v) 26)) w.heap.size o v := ⟨Cel.new w _ _, hv.below hB0⟩
  have l0 := (box_all (w := w) B0 hB0).2.1
  obtain ⟨va, vc, rfl⟩ : ∃ x c, v = .slice x o.ids.length c := by obtain ⟨x, c, h, -⟩ := hv; exact ⟨x, c, h⟩
  clear hv
  have c1 := fun W => opo_8 o va o.ids.length vc W hkd
  have c2 := fun W => plo_8 o va o.ids.length vc W
  have c3 := fun W (h : Box W w.heap.size o (.slice va o.ids.length vc)) => impl_same (plain8 o) o (.slice va o.ids.length vc) (.slice va o.ids.length vc) W h.r h.r hn hn
  have c4 := fun W (h : Box W w.heap.size o (.slice va o.ids.length vc)) => ft_gone (.slice va o.ids.length vc) o.ids W h.r hn
  have hnl := fun W => (show (binOp .eql 54 (.iface 99 (.agg #[.slice va o.ids.length vc])) .nilIface).run Try.prog W = .ok (.bool false) W by kernel_rfl)
  have hme := fun (n : Nat) W => (show (method (n + 1) 99 (.agg #[.slice va o.ids.length vc]) "loop.example/g00967/impl.fieldsText").run Try.prog W = .ok (119, .agg #[.slice va o.ids.length vc]) W by kernel_rfl)
  have hF : (goneTx o.ids).size ≤ 1000 := goneTx_le o.ids
  generalize goneTx o.ids = F at c4 hF ⊢
  generalize hr : (if sameOv (plain8 o) o = true then headed o.kind F else ⟨#[]⟩) = r
  have HRr := Lib.hid hr
  clear hkd hr
  go_enter Try.func8, Try.ntmps8
  go_wp2_with (fail)
  with_reducible refine (c1 _).mono ?_
  rintro e w1 ⟨rfl, hb1⟩
  have B1 := B0.kept hb1
  have hB1 := Below.then_ hB0 hb1
  have S1 := box_drew B1 hB1
  clear B0 hB0 l0 hb1 B1 hB1 c1
  go_wp2_with (fail)
  cases hs : sameOv (plain8 o) o with
  | false =>
    rw [hs] at c3
    have HS := Lib.hid hs
    clear hs
    go_region_held3 (fun W => Box W w.heap.size o (.slice va o.ids.length vc) ∧ (loadCells ⟨w.heap.size, 0, none⟩ 14).run Try.prog W = .ok (o.cells (.slice va o.ids.length vc)) W ∧ Below w.heap.size w W)
      (first | exact S1 | exact box_keep (by assumption) (by assumption) | go_keep)
      (first
        | (go_at_call 31; (with_reducible refine (c2 _).mono ?_); rintro e w2 ⟨rfl, hb2⟩)
        | (go_at_call 14; (with_reducible refine (c3 _ ?_).mono ?_); (simp only [*]); rintro e w3 ⟨rfl, hb3⟩))
    have hh : Box w3 w.heap.size o (.slice va o.ids.length vc) ∧ (loadCells ⟨w.heap.size, 0, none⟩ 14).run Try.prog w3 = .ok (o.cells (.slice va o.ids.length vc)) w3 ∧ Below w.heap.size w w3 := by assumption
    have hBf := hh.2.2
    clear S1 hh hb2 hb3
    go_wp2_with (fail)
    go_ret
    exact ⟨by rw [← HRr.out, HS.out]; rfl, hBf⟩
  | true =>
    rw [hs] at c3
    have HS := Lib.hid hs
    clear hs
    go_region_held3 (fun W => Box W w.heap.size o (.slice va o.ids.length vc) ∧ (loadCells ⟨w.heap.size, 0, none⟩ 14).run Try.prog W = .ok (o.cells (.slice va o.ids.length vc)) W ∧ Below w.heap.size w W)
      (first | exact S1 | exact box_keep (by assumption) (by assumption) | go_keep)
      (first
        | (go_at_call 31; (with_reducible refine (c2 _).mono ?_); rintro e w2 ⟨rfl, hb2⟩)
        | (go_at_call 14; (with_reducible refine (c3 _ ?_).mono ?_); (simp only [*]); rintro e w3 ⟨rfl, hb3⟩))
    have hh : Box w3 w.heap.size o (.slice va o.ids.length vc) ∧ (loadCells ⟨w.heap.size, 0, none⟩ 14).run Try.prog w3 = .ok (o.cells (.slice va o.ids.length vc)) w3 ∧ Below w.heap.size w w3 := by assumption
    obtain ⟨B3, -, hB3⟩ := hh
    clear S1 hb2 hb3 c2 c3
    go_wp2_with (fail)
    with_reducible refine (c4 _ B3).mono ?_
    rintro e w4 ⟨rfl, hb4⟩
    have B4 := B3.kept hb4
    have hB4 := Below.then_ hB3 hb4
    have l0 := Cel.cell (show Cel w4 w.heap.size _ _ from B4.c) 0
    rw [(o.ats _).1] at l0
    clear B3 hB3 hb4 c4 hnl hme
    by_cases hz : F = ⟨#[]⟩
    · subst hz
      clear l0 B4
      go_wp2_with (fail)
      go_ret
      exact ⟨by rw [← HRr.out, HS.out, headed_no]; rfl, hB4⟩
    · have e1 := empty_b1 F
      rw [decide_eq_false hz] at e1
      have e2 : ¬ F.toList = [] := fun h => by rw [h] at e1; cases e1
      have hy := headed_yes o.kind F hz
      have HY := Lib.hid hy
      have z1 := numTx_le o.kind 1
      have z2 := numTx_le (F.size : Int) 1
      have cn1 := fun W => impl_numText o.kind 1 W
      have cn2 := fun W => impl_numText (F.size : Int) 1 W
      have HC := Lib.hid (show (numText o.kind 1 ++ numText (F.size : Int) 1 ++ F) = r by rw [← HRr.out, HS.out, if_pos rfl, hy])
      clear hz hy HY
      generalize numText o.kind 1 = n1 at *
      generalize numText (F.size : Int) 1 = n2 at *
      have q1 : n1.size + n2.size ≤ 9223372036854775807 := by omega
      have q2 : (n1 ++ n2).size + F.size ≤ 9223372036854775807 := by rw [ByteArray.size_append]; omega
      go_wp2_with (fail)
      with_reducible refine (cn1 _).mono ?_
      rintro e w5 ⟨rfl, hb5⟩
      have hB5 := Below.then_ hB4 hb5
      clear hB4 hb5 l0 B4
      go_wp2_with (fail)
      with_reducible refine (cn2 _).mono ?_
      rintro e w6 ⟨rfl, hb6⟩
      go_wp2_with (fail)
      go_ret
      exact ⟨by rw [← HC.out]; rfl, Below.then_ hB5 hb6⟩

set_option maxRecDepth 100000 in
set_option maxHeartbeats 1000000 in
theorem otx_9 (o : Ov) (v : Value) (w : World) (hv : Rd w v o.ids) (hn : o.ids.length ≤ 1048576) (hkd : o.kind = 9) :
    Calls Try.prog 8 #[.agg (o.cells v)] w fun e w' => e = .returned (.string (if sameOv (plain9 o) o = true then headed o.kind (numText o.seq 6) else ⟨#[]⟩)) ∧ Below w.heap.size w w' := by
  have hB0 := below_new w (.cells (o.cells v) 26)
  have B0 : Box (w.alloc (.cells (o.cells v) 26)) w.heap.size o v := ⟨Cel.new w _ _, hv.below hB0⟩
  have l0 := (box_all (w := w) B0 hB0).2.1
  obtain ⟨va, vc, rfl⟩ : ∃ x c, v = .slice x o.ids.length c := by obtain ⟨x, c, h, -⟩ := hv; exact ⟨x, c, h⟩
  clear hv
  have c1 := fun W => opo_9 o (.slice va o.ids.length vc) W hkd
  have c2 := fun W => plo_9 o W
  have c3 := fun W (h : Box W w.heap.size o (.slice va o.ids.length vc)) => impl_same (plain9 o) o (.slice none 0 0) (.slice va o.ids.length vc) W (rd_nil W) h.r (by show 0 ≤ _; omega) hn
  have c4 := fun W => ft_fail o.seq W
  have hnl := fun W => (show (binOp .eql 54 (.iface 101 (.agg #[.int .i64 o.seq])) .nilIface).run Try.prog W = .ok (.bool false) W by kernel_rfl)
  have hme := fun (n : Nat) W => (show (method (n + 1) 101 (.agg #[.int .i64 o.seq]) "loop.example/g00967/impl.fieldsText").run Try.prog W = .ok (121, .agg #[.int .i64 o.seq]) W by kernel_rfl)
  have hF : (numText o.seq 6).size ≤ 1000 := by have := numTx_le o.seq 6; omega
  generalize numText o.seq 6 = F at c4 hF ⊢
  generalize hr : (if sameOv (plain9 o) o = true then headed o.kind F else ⟨#[]⟩) = r
  have HRr := Lib.hid hr
  clear hkd hr
  go_enter Try.func8, Try.ntmps8
  go_wp2_with (fail)
  with_reducible refine (c1 _).mono ?_
  rintro e w1 ⟨rfl, hb1⟩
  have B1 := B0.kept hb1
  have hB1 := Below.then_ hB0 hb1
  have S1 := box_drew B1 hB1
  clear B0 hB0 l0 hb1 B1 hB1 c1
  go_wp2_with (fail)
  cases hs : sameOv (plain9 o) o with
  | false =>
    rw [hs] at c3
    have HS := Lib.hid hs
    clear hs
    go_region_held3 (fun W => Box W w.heap.size o (.slice va o.ids.length vc) ∧ (loadCells ⟨w.heap.size, 0, none⟩ 14).run Try.prog W = .ok (o.cells (.slice va o.ids.length vc)) W ∧ Below w.heap.size w W)
      (first | exact S1 | exact box_keep (by assumption) (by assumption) | go_keep)
      (first
        | (go_at_call 31; (with_reducible refine (c2 _).mono ?_); rintro e w2 ⟨rfl, hb2⟩)
        | (go_at_call 14; (with_reducible refine (c3 _ ?_).mono ?_); (simp only [*]); rintro e w3 ⟨rfl, hb3⟩))
    have hh : Box w3 w.heap.size o (.slice va o.ids.length vc) ∧ (loadCells ⟨w.heap.size, 0, none⟩ 14).run Try.prog w3 = .ok (o.cells (.slice va o.ids.length vc)) w3 ∧ Below w.heap.size w w3 := by assumption
    have hBf := hh.2.2
    clear S1 hh hb2 hb3
    go_wp2_with (fail)
    go_ret
    exact ⟨by rw [← HRr.out, HS.out]; rfl, hBf⟩
  | true =>
    rw [hs] at c3
    have HS := Lib.hid hs
    clear hs
    go_region_held3 (fun W => Box W w.heap.size o (.slice va o.ids.length vc) ∧ (loadCells ⟨w.heap.size, 0, none⟩ 14).run Try.prog W = .ok (o.cells (.slice va o.ids.length vc)) W ∧ Below w.heap.size w W)
      (first | exact S1 | exact box_keep (by assumption) (by assumption) | go_keep)
      (first
        | (go_at_call 31; (with_reducible refine (c2 _).mono ?_); rintro e w2 ⟨rfl, hb2⟩)
        | (go_at_call 14; (with_reducible refine (c3 _ ?_).mono ?_); (simp only [*]); rintro e w3 ⟨rfl, hb3⟩))
    have hh : Box w3 w.heap.size o (.slice va o.ids.length vc) ∧ (loadCells ⟨w.heap.size, 0, none⟩ 14).run Try.prog w3 = .ok (o.cells (.slice va o.ids.length vc)) w3 ∧ Below w.heap.size w w3 := by assumption
    obtain ⟨B3, -, hB3⟩ := hh
    clear S1 hb2 hb3 c2 c3
    go_wp2_with (fail)
    with_reducible refine (c4 _).mono ?_
    rintro e w4 ⟨rfl, hb4⟩
    have B4 := B3.kept hb4
    have hB4 := Below.then_ hB3 hb4
    have l0 := Cel.cell (show Cel w4 w.heap.size _ _ from B4.c) 0
    rw [(o.ats _).1] at l0
    clear B3 hB3 hb4 c4 hnl hme
    by_cases hz : F = ⟨#[]⟩
    · subst hz
      clear l0 B4
      go_wp2_with (fail)
      go_ret
      exact ⟨by rw [← HRr.out, HS.out, headed_no]; rfl, hB4⟩
    · have e1 := empty_b1 F
      rw [decide_eq_false hz] at e1
      have e2 : ¬ F.toList = [] := fun h => by rw [h] at e1; cases e1
      have hy := headed_yes o.kind F hz
      have HY := Lib.hid hy
      have z1 := numTx_le o.kind 1
      have z2 := numTx_le (F.size : Int) 1
      have cn1 := fun W => impl_numText o.kind 1 W
      have cn2 := fun W => impl_numText (F.size : Int) 1 W
      have HC := Lib.hid (show (numText o.kind 1 ++ numText (F.size : Int) 1 ++ F) = r by rw [← HRr.out, HS.out, if_pos rfl, hy])
      clear hz hy HY
      generalize numText o.kind 1 = n1 at *
      generalize numText (F.size : Int) 1 = n2 at *
      have q1 : n1.size + n2.size ≤ 9223372036854775807 := by omega
      have q2 : (n1 ++ n2).size + F.size ≤ 9223372036854775807 := by rw [ByteArray.size_append]; omega
      go_wp2_with (fail)
      with_reducible refine (cn1 _).mono ?_
      rintro e w5 ⟨rfl, hb5⟩
      have hB5 := Below.then_ hB4 hb5
      clear hB4 hb5 l0 B4
      go_wp2_with (fail)
      with_reducible refine (cn2 _).mono ?_
      rintro e w6 ⟨rfl, hb6⟩
      go_wp2_with (fail)
      go_ret
      exact ⟨by rw [← HC.out]; rfl, Below.then_ hB5 hb6⟩

set_option maxRecDepth 100000 in
set_option maxHeartbeats 1000000 in
theorem otx_10 (o : Ov) (v : Value) (w : World) (hv : Rd w v o.ids) (hn : o.ids.length ≤ 1048576) (hkd : o.kind = 10) :
    Calls Try.prog 8 #[.agg (o.cells v)] w fun e w' => e = .returned (.string (if sameOv (plain10 o) o = true then headed o.kind (ofSz o.key 8) else ⟨#[]⟩)) ∧ Below w.heap.size w w' := by
  have hB0 := below_new w (.cells (o.cells v) 26)
  have B0 : Box (w.alloc (.cells (o.cells v) 26)) w.heap.size o v := ⟨Cel.new w _ _, hv.below hB0⟩
  have l0 := (box_all (w := w) B0 hB0).2.1
  obtain ⟨va, vc, rfl⟩ : ∃ x c, v = .slice x o.ids.length c := by obtain ⟨x, c, h, -⟩ := hv; exact ⟨x, c, h⟩
  clear hv
  have c1 := fun W => opo_10 o (.slice va o.ids.length vc) W hkd
  have c2 := fun W => plo_10 o W
  have c3 := fun W (h : Box W w.heap.size o (.slice va o.ids.length vc)) => impl_same (plain10 o) o (.slice none 0 0) (.slice va o.ids.length vc) W (rd_nil W) h.r (by show 0 ≤ _; omega) hn
  have c4 := fun W => ft_close o.key W
  have hnl := fun W => (show (binOp .eql 54 (.iface 102 (.agg #[.string o.key])) .nilIface).run Try.prog W = .ok (.bool false) W by kernel_rfl)
  have hme := fun (n : Nat) W => (show (method (n + 1) 102 (.agg #[.string o.key]) "loop.example/g00967/impl.fieldsText").run Try.prog W = .ok (122, .agg #[.string o.key]) W by kernel_rfl)
  have hF : (ofSz o.key 8).size ≤ 1000 := by have := ofSz_le o.key 8 (by omega); omega
  generalize ofSz o.key 8 = F at c4 hF ⊢
  generalize hr : (if sameOv (plain10 o) o = true then headed o.kind F else ⟨#[]⟩) = r
  have HRr := Lib.hid hr
  clear hkd hr
  go_enter Try.func8, Try.ntmps8
  go_wp2_with (fail)
  with_reducible refine (c1 _).mono ?_
  rintro e w1 ⟨rfl, hb1⟩
  have B1 := B0.kept hb1
  have hB1 := Below.then_ hB0 hb1
  have S1 := box_drew B1 hB1
  clear B0 hB0 l0 hb1 B1 hB1 c1
  go_wp2_with (fail)
  cases hs : sameOv (plain10 o) o with
  | false =>
    rw [hs] at c3
    have HS := Lib.hid hs
    clear hs
    go_region_held3 (fun W => Box W w.heap.size o (.slice va o.ids.length vc) ∧ (loadCells ⟨w.heap.size, 0, none⟩ 14).run Try.prog W = .ok (o.cells (.slice va o.ids.length vc)) W ∧ Below w.heap.size w W)
      (first | exact S1 | exact box_keep (by assumption) (by assumption) | go_keep)
      (first
        | (go_at_call 31; (with_reducible refine (c2 _).mono ?_); rintro e w2 ⟨rfl, hb2⟩)
        | (go_at_call 14; (with_reducible refine (c3 _ ?_).mono ?_); (simp only [*]); rintro e w3 ⟨rfl, hb3⟩))
    have hh : Box w3 w.heap.size o (.slice va o.ids.length vc) ∧ (loadCells ⟨w.heap.size, 0, none⟩ 14).run Try.prog w3 = .ok (o.cells (.slice va o.ids.length vc)) w3 ∧ Below w.heap.size w w3 := by assumption
    have hBf := hh.2.2
    clear S1 hh hb2 hb3
    go_wp2_with (fail)
    go_ret
    exact ⟨by rw [← HRr.out, HS.out]; rfl, hBf⟩
  | true =>
    rw [hs] at c3
    have HS := Lib.hid hs
    clear hs
    go_region_held3 (fun W => Box W w.heap.size o (.slice va o.ids.length vc) ∧ (loadCells ⟨w.heap.size, 0, none⟩ 14).run Try.prog W = .ok (o.cells (.slice va o.ids.length vc)) W ∧ Below w.heap.size w W)
      (first | exact S1 | exact box_keep (by assumption) (by assumption) | go_keep)
      (first
        | (go_at_call 31; (with_reducible refine (c2 _).mono ?_); rintro e w2 ⟨rfl, hb2⟩)
        | (go_at_call 14; (with_reducible refine (c3 _ ?_).mono ?_); (simp only [*]); rintro e w3 ⟨rfl, hb3⟩))
    have hh : Box w3 w.heap.size o (.slice va o.ids.length vc) ∧ (loadCells ⟨w.heap.size, 0, none⟩ 14).run Try.prog w3 = .ok (o.cells (.slice va o.ids.length vc)) w3 ∧ Below w.heap.size w w3 := by assumption
    obtain ⟨B3, -, hB3⟩ := hh
    clear S1 hb2 hb3 c2 c3
    go_wp2_with (fail)
    with_reducible refine (c4 _).mono ?_
    rintro e w4 ⟨rfl, hb4⟩
    have B4 := B3.kept hb4
    have hB4 := Below.then_ hB3 hb4
    have l0 := Cel.cell (show Cel w4 w.heap.size _ _ from B4.c) 0
    rw [(o.ats _).1] at l0
    clear B3 hB3 hb4 c4 hnl hme
    by_cases hz : F = ⟨#[]⟩
    · subst hz
      clear l0 B4
      go_wp2_with (fail)
      go_ret
      exact ⟨by rw [← HRr.out, HS.out, headed_no]; rfl, hB4⟩
    · have e1 := empty_b1 F
      rw [decide_eq_false hz] at e1
      have e2 : ¬ F.toList = [] := fun h => by rw [h] at e1; cases e1
      have hy := headed_yes o.kind F hz
      have HY := Lib.hid hy
      have z1 := numTx_le o.kind 1
      have z2 := numTx_le (F.size : Int) 1
      have cn1 := fun W => impl_numText o.kind 1 W
      have cn2 := fun W => impl_numText (F.size : Int) 1 W
      have HC := Lib.hid (show (numText o.kind 1 ++ numText (F.size : Int) 1 ++ F) = r by rw [← HRr.out, HS.out, if_pos rfl, hy])
      clear hz hy HY
      generalize numText o.kind 1 = n1 at *
      generalize numText (F.size : Int) 1 = n2 at *
      have q1 : n1.size + n2.size ≤ 9223372036854775807 := by omega
      have q2 : (n1 ++ n2).size + F.size ≤ 9223372036854775807 := by rw [ByteArray.size_append]; omega
      go_wp2_with (fail)
      with_reducible refine (cn1 _).mono ?_
      rintro e w5 ⟨rfl, hb5⟩
      have hB5 := Below.then_ hB4 hb5
      clear hB4 hb5 l0 B4
      go_wp2_with (fail)
      with_reducible refine (cn2 _).mono ?_
      rintro e w6 ⟨rfl, hb6⟩
      go_wp2_with (fail)
      go_ret
      exact ⟨by rw [← HC.out]; rfl, Below.then_ hB5 hb6⟩

end Go.Proofs.Ytkpajakangaekab
