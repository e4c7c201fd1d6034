import Derived.Test.YtmokepopmfcdnaaDrT
import Derived.Test.YtmokepopmfcdnaaAbt
namespace Go.Proofs.Ytmokepopmfcdnaa
open Go.RowKit

/-- Only the cursor's block, then only what lies above what was there. -/
theorem Grew.then {g : Nat} {w W W' : World} (h : Grew g w W) (k : Below w.heap.size W W') : Grew g w W' :=
  ⟨k.os.trans h.os, k.tape.trans h.tape, k.output.trans h.output, Nat.le_trans h.size k.size, fun i hi hn => (k.block i hi).trans (h.block i hi hn)⟩
theorem Grew.only {g : Nat} {w W W' : World} (h : Grew g w W) (k : Only g W W') : Grew g w W' := h.trans k.grew
theorem bel_dr (g : Nat) (v : Value) (n k : Nat) (i : Int) (hi : (k : Int) = i) (w : World) (hd : Dr w g v n) (h0 : 0 < k) (hk : k ≤ 1000000000) :
    Calls Try.prog 44 #[.pointer (some ⟨g, 0, none⟩), .int .i64 i] w fun e w' => ∃ r : Nat, r < k ∧ e = .returned (.int .i64 (r : Int)) ∧ Dr w' g v n ∧ Only g w w' := by
  subst hi
  exact below_dr g v n k w hd h0 hk
theorem pick_mem (g : Nat) (v : Value) (n : Nat) (w : World) (hd : Dr w g v n) (b cap k : Nat) (cs : Array Value) (zs : List Int) (hk : zs.length = k) (hcs : (zs.map (Value.int .i64)).toArray = cs) (hc : Cel w b 3 cs) (hb : b ≠ g) (h0 : 0 < k) (hl : k ≤ 1000) :
    Calls Try.prog 43 #[.pointer (some ⟨g, 0, none⟩), .slice (some ⟨b, 0, none⟩) k cap] w fun e w' => ∃ z : Int, z ∈ zs ∧ e = .returned (.int .i64 z) ∧ Dr w' g v n ∧ Only g w w' := by
  subst hk hcs
  exact (pick_int g v n w hd b cap zs hc hb h0 hl).mono fun _ _ ⟨j, h1, h2, h3⟩ => ⟨_, List.getElem_mem _, h1, h2, h3⟩
set_option maxHeartbeats 1000000 in
set_option maxRecDepth 100000 in
theorem once_dr (g : Nat) (v : Value) (n k : Nat) (i : Int) (hi : (k : Int) = i) (w : World) (hd : Dr w g v n) (h0 : 0 < k) (hk : k ≤ 1000000000) :
    Calls Try.prog 42 #[.pointer (some ⟨g, 0, none⟩), .int .i64 i] w fun e w' => ∃ b : Bool, e = .returned (.bool b) ∧ Dr w' g v n ∧ Only g w w' := by
  have cb := bel_dr g v n k i hi w hd h0 hk
  clear hi
  go_enter Try.func42, Try.ntmps42
  go_wp2_with (fail)
  with_reducible refine cb.mono ?_
  rintro e w1 ⟨r, hr, rfl, d1, o1⟩
  go_wp2_with (fail)
  go_ret
  exact ⟨_, rfl, d1, o1⟩
theorem OwnE.only {α : Type} {K : EK α} {g B C : Nat} {w w' : World} {v : Value} {ms : List α} (h : OwnE K w B C v ms) (ho : Only g w w') (hB : g < B) : OwnE K w' B C v ms :=
  h.keepAt fun k hk => ho.at_ k (by have := (h.block k hk).1; omega)
theorem OwnE.grew {α : Type} {K : EK α} {g B : Nat} {w w' : World} {v : Value} {ms : List α} (h : OwnE K w B w.heap.size v ms) (ho : Grew g w w') (hB : g < B) : OwnE K w' B w'.heap.size v ms :=
  (h.grown ho (Nat.le_refl _) (fun k hk e => by injection e with e; have := (h.block k hk).1; omega)).mono (Nat.le_refl _) ho.size

theorem below_four (w W : World) (x y z u : Value) : Below w.heap.size W ((((W.setCell ⟨w.heap.size, 0, none⟩ x).setCell ⟨w.heap.size, 1, none⟩ y).setCell ⟨w.heap.size, 2, none⟩ z).setCell ⟨w.heap.size, 3, none⟩ u) :=
  ((((Below.refl _ _).setCell (p := ⟨w.heap.size, 0, none⟩) (Nat.le_refl _) _).setCell (p := ⟨w.heap.size, 1, none⟩) (Nat.le_refl _) _).setCell (p := ⟨w.heap.size, 2, none⟩) (Nat.le_refl _) _).setCell (p := ⟨w.heap.size, 3, none⟩) (Nat.le_refl _) _
theorem nat_wf (r : Nat) (h : r ≤ 1000) : (Lit.int .i64 (r : Int)).wf = true := WalkArith.wf_i64 (by omega)

set_option maxHeartbeats 2000000 in
set_option maxRecDepth 100000 in
theorem addr_dr (g : Nat) (v : Value) (n : Nat) (w : World) (hd : Dr w g v n) :
    Calls Try.prog 46 #[.pointer (some ⟨g, 0, none⟩)] w fun e w' => ∃ m : Av, e = .returned (.agg #[.int .i64 m.id, .int .i64 m.addr, .bool m.spare, .bool m.told]) ∧ (Lit.int .i64 m.id).wf = true ∧ Dr w' g v n ∧ Grew g w w' := by
  have hg := hd.blk
  have hb0 := below_new w (.cells #[.int .i64 0, .int .i64 0, .bool false, .bool false] 32)
  have hd0 := hd.kept hb0
  have hC0 := Cel.new w 32 #[.int .i64 0, .int .i64 0, .bool false, .bool false]
  have c7 := fun W h => bel_dr g v n 7 7 rfl W h (by omega) (by omega)
  have c9 := fun W h => bel_dr g v n 9 9 rfl W h (by omega) (by omega)
  have c4 := fun W h => once_dr g v n 4 4 rfl W h (by omega) (by omega)
  have c2 := fun W h => once_dr g v n 2 2 rfl W h (by omega) (by omega)
  have HE := Lib.hid (And.intro hC0 (Grew.then (Grew.refl g w) hb0))
  clear hb0 hC0 hd
  go_enter Try.func46, Try.ntmps46
  go_wp2_with (fail)
  with_reducible refine (c7 _ hd0).mono ?_
  rintro e w1 ⟨r1, hr1, rfl, d1, o1⟩
  have HE1 := Lib.hid (And.intro (HE.out.1.only o1 (by omega)) (HE.out.2.only o1))
  clear HE o1 hd0 c7
  go_wp2_with (fail)
  with_reducible refine (c9 _ d1).mono ?_
  rintro e w2 ⟨r2, hr2, rfl, d2, o2⟩
  have HE2 := Lib.hid (And.intro (HE1.out.1.only o2 (by omega)) (HE1.out.2.only o2))
  have e1 : IntKind.i64.wrap (11 + (r2 : Int)) = 11 + (r2 : Int) := IntWalk.i64_in _ (by omega)
  clear HE1 o2 d1 c9
  go_wp2_with (fail)
  with_reducible refine (c4 _ d2).mono ?_
  rintro e w3 ⟨b3, rfl, d3, o3⟩
  have HE3 := Lib.hid (And.intro (HE2.out.1.only o3 (by omega)) (HE2.out.2.only o3))
  clear HE2 o3 d2 c4
  go_wp2_with (fail)
  with_reducible refine (c2 _ d3).mono ?_
  rintro e w4 ⟨b4, rfl, d4, o4⟩
  have hC4 := HE3.out.1.only o4 (by omega)
  have hG4 := HE3.out.2.only o4
  obtain ⟨k0, k1, k2, k3⟩ := cel4a hC4
  have f0 := hC4.frozen 0
  have f1 := hC4.frozen 1
  have f2 := hC4.frozen 2
  have f3 := hC4.frozen 3
  have HG := Lib.hid (And.intro hG4 (And.intro d4 (nat_wf r1 (by omega))))
  clear HE3 o4 d3 c2 hC4 hG4 d4
  go_wp2_with (fail)
  have hB5 := below_four w w4 (.int .i64 (r1 : Int)) (.int .i64 (11 + (r2 : Int))) (.bool b3) (.bool b4)
  exact bodyPost_ret (v := .agg #[.int .i64 (r1 : Int), .int .i64 (11 + (r2 : Int)), .bool b3, .bool b4]) (by simp [results, Try.results46, go_sem, k0, k1, k2, k3]) rfl ⟨⟨r1, 11 + (r2 : Int), b3, b4⟩, rfl, HG.out.2.2, HG.out.2.1.below hB5 hg, HG.out.1.then hB5⟩

/-- Whose Ids fit. -/
def WfA (ms : List Av) : Prop := ∀ x ∈ ms, (Lit.int .i64 x.id).wf = true
theorem out_wf {ms : List Av} {m : Av} (h : WfA ms) (hm : (Lit.int .i64 m.id).wf = true) : WfA (outA ms m) := fun x hx => by
  unfold outA at hx
  split at hx
  · rcases List.mem_or_eq_of_mem_set hx with hx | rfl
    · exact h x hx
    · exact hm
  · rcases List.mem_append.1 hx with hx | hx
    · exact h x (List.mem_of_mem_take hx)
    · rcases List.mem_cons.1 hx with rfl | hx
      · exact hm
      · exact h x (List.mem_of_mem_drop hx)
theorem put_wf {ms : List Av} {m : Av} (h : WfA ms) (hm : (Lit.int .i64 m.id).wf = true) : WfA (putA ms m).1 := by
  unfold putA
  split
  · exact out_wf h hm
  · exact h
theorem wf_snoc {ms : List Av} {m : Av} (h : WfA ms) (hm : (Lit.int .i64 m.id).wf = true) : WfA (ms ++ [m]) := fun x hx => by
  rcases List.mem_append.1 hx with hx | hx
  · exact h x hx
  · simp only [List.mem_cons, List.not_mem_nil, or_false] at hx
    rw [hx]
    exact hm

set_option maxHeartbeats 2000000 in
set_option maxRecDepth 100000 in
theorem list_dr (g : Nat) (v : Value) (n : Nat) (w : World) (hd : Dr w g v n) :
    Calls Try.prog 45 #[.pointer (some ⟨g, 0, none⟩)] w fun e w' => ∃ (u : Value) (ms : List Av), e = .returned u ∧ OwnV w' w.heap.size w'.heap.size u ms ∧ ms.length ≤ 8 ∧ WfA ms ∧ Dr w' g v n ∧ Grew g w w' := by
  have hg := hd.blk
  have hb0 := below_new w (.cells #[] 32)
  have hd0 := hd.kept hb0
  have hO0 := eown_empty avK w
  have hG0 := Grew.then (Grew.refl g w) hb0
  have c8 := fun W h => bel_dr g v n 8 8 rfl W h (by omega) (by omega)
  have cA := fun W h => addr_dr g v n W h
  clear hb0 hd
  go_enter Try.func45, Try.ntmps45
  go_wp2_with (fail)
  go_loopw [3, 4] (fun u i wr => ∃ (k : Nat) (ms : List Av), k ≤ 8 ∧ i = .int .i64 k ∧ OwnV wr w.heap.size wr.heap.size u ms ∧ ms.length ≤ k ∧ WfA ms ∧ Dr wr g v n ∧ Grew g w wr) (fun _ i _ => 8 - (intOf i).toNat)
  case atStart => exact ⟨0, [], by omega, rfl, hO0, by simp, (fun x hx => by cases hx), hd0, hG0⟩
  case round =>
    clear hO0 hd0 hG0
    obtain ⟨k, ms, hk, rfl, hO, hl, hw, hd, hG⟩ := hrel
    have HX := Lib.hid (And.intro hO (And.intro hw hG))
    obtain ⟨ua, uc, rfl, -⟩ := hO.form
    clear hO hw hG
    go_wp2_with (fail)
    with_reducible refine (c8 _ hd).mono ?_
    rintro e w1 ⟨r, hr, rfl, d1, o1⟩
    have HX1 := Lib.hid (And.intro (HX.out.1.grew o1.grew hg) (And.intro HX.out.2.1 (HX.out.2.2.only o1)))
    clear HX hd o1
    by_cases hlt : k < r
    · have q : (k : Int) < (r : Int) := by omega
      go_wp2_with (fail)
      with_reducible refine (cA _ d1).mono ?_
      rintro e w2 ⟨m, rfl, hm, d2, g2⟩
      have HX2 := Lib.hid (And.intro (HX1.out.1.grew g2 hg) (And.intro HX1.out.2.1 (And.intro (HX1.out.2.2.trans g2) (And.intro hm d2))))
      have cP := spec_putAddr (.slice ua ms.length uc) ms m w.heap.size w2.heap.size w2 HX2.out.1.lie (by omega)
      have hpl := put_fst_len ms m
      have hpw := put_wf HX2.out.2.1 hm
      generalize putA ms m = rr at *
      obtain ⟨os, ok⟩ := rr
      dsimp only at cP hpl hpw
      have HW := Lib.hid hpw
      clear HX1 d1 g2 hm d2 hpw
      go_wp2_with (fail)
      with_reducible refine cP.mono ?_
      rintro e w3 ⟨u3, rfl, hO3, hb3⟩
      have HX3 := Lib.hid (And.intro (hO3.mono HX2.out.2.2.1.size (Nat.le_refl _)) (And.intro (HX2.out.2.2.2.2.kept hb3) (HX2.out.2.2.1.then (hb3.mono HX2.out.2.2.1.size))))
      obtain ⟨va, vc, rfl, -⟩ := hO3.form
      clear hO3 hb3 cP HX2
      go_wp2_with (fail)
      go_roundw
      case rel => exact ⟨k + 1, os, by omega, by go_num, HX3.out.1, by omega, HW.out, HX3.out.2.1, HX3.out.2.2⟩
      case measure => simp [intOf]; omega
    · have q : ¬ (k : Int) < (r : Int) := by omega
      have HD := Lib.hid d1
      clear d1
      go_wp2_with (fail)
      go_ret
      exact ⟨_, ms, rfl, HX1.out.1, by omega, HX1.out.2.1, HD.out, HX1.out.2.2⟩

theorem below_ints (W : World) (cs : Array Value) : Below W.heap.size W (W.alloc (.cells cs 3)) := below_new _ _

set_option maxHeartbeats 4000000 in
set_option maxRecDepth 100000 in
theorem any_dr (g : Nat) (v : Value) (n : Nat) (w : World) (hd : Dr w g v n) :
    Calls Try.prog 33 #[.pointer (some ⟨g, 0, none⟩)] w fun e w' => ∃ (u : Value) (ms : List Av), e = .returned u ∧ OwnV w' w.heap.size w'.heap.size u ms ∧ ms.length ≤ 9 ∧ WfA ms ∧ Dr w' g v n ∧ Grew g w w' := by
  have hg := hd.blk
  have cL := list_dr g v n w hd
  have c12 := fun W h => bel_dr g v n 12 12 rfl W h (by omega) (by omega)
  have cA := fun W h => addr_dr g v n W h
  clear hd
  go_enter Try.func33, Try.ntmps33
  go_wp2_with (fail)
  with_reducible refine cL.mono ?_
  rintro e w1 ⟨u, ms, rfl, hO, hl, hw, d1, g1⟩
  have HX := Lib.hid (And.intro hO (And.intro hw g1))
  obtain ⟨ua, uc, rfl, -⟩ := hO.form
  clear hO hw g1 cL
  go_wp2_with (fail)
  with_reducible refine (c12 _ d1).mono ?_
  rintro e w2 ⟨r, hr, rfl, d2, o2⟩
  have HX2 := Lib.hid (And.intro (HX.out.1.grew o2.grew hg) (And.intro HX.out.2.1 (HX.out.2.2.only o2)))
  clear HX o2 d1 c12
  by_cases h0 : r = 0
  · subst h0
    go_wp2_with (fail)
    with_reducible refine (cA _ d2).mono ?_
    rintro e w3 ⟨m, rfl, hm, d3, g3⟩
    have hb3 := below_av w3 m
    have hG3 := HX2.out.2.2.trans g3
    have HX3 := Lib.hid (And.intro (eown_alloc (HX2.out.1.grew g3 hg) (.cells #[.int .i64 m.id, .int .i64 m.addr, .bool m.spare, .bool m.told] 32)) (And.intro (wf_snoc HX2.out.2.1 hm) (And.intro (hG3.then (hb3.mono hG3.size)) (And.intro (d3.kept hb3) (And.intro (Cel.new w3 32 #[.int .i64 m.id, .int .i64 m.addr, .bool m.spare, .bool m.told]) (Nat.le_trans hG3.size hb3.size))))))
    clear HX2 hb3 hG3 d3 g3 d2 hm
    obtain ⟨M, hM⟩ : ∃ M, ms ++ [m] = M := ⟨_, rfl⟩
    have hMl : M.length ≤ 9 := by rw [← hM]; simp; omega
    have HM := Lib.hid (And.intro hM (And.intro hMl (hM ▸ HX3.out.2.1)))
    clear hM hMl
    go_wp2_with (at_builtin; refine wpList_append_els avK rfl _ _ 26 26 rfl uAv uAv w.heap.size _ (.slice (some ⟨w3.heap.size, 0, none⟩) 1 1) ms [m] rfl rfl HX3.out.1 HX3.out.2.2.2.2.2 (rd_box HX3.out.2.2.2.2.1) (by simp; omega) ?_; intro u' w4 hown hgrow hloc; rw [HM.out.1] at hown; have HN := Lib.hid (And.intro hown (And.intro ((Below.refl _ _).grown hgrow HX3.out.2.2.2.2.2 (fun k hk => (HX3.out.1.block k hk).1) : Below w.heap.size _ w4) hown)); obtain ⟨xa, xc, rfl, -⟩ := hown.form; clear hown hgrow hloc)
    go_ret
    exact ⟨_, M, rfl, HN.out.1, HM.out.2.1, HM.out.2.2, HX3.out.2.2.2.1.below HN.out.2.1 hg, HX3.out.2.2.1.then HN.out.2.1⟩
  · have q0 : ((r : Int) == 0) = false := by simp; omega
    have q0' : ¬ (r : Int) = 0 := by omega
    by_cases h1 : r = 1
    · subst h1
      have hb3 := below_ints w2 #[.int .i64 (-1), .int .i64 256, .int .i64 255]
      have cp := pick_mem g v n _ (d2.kept hb3) w2.heap.size 3 3 _ [-1, 256, 255] rfl rfl (Cel.new w2 3 #[.int .i64 (-1), .int .i64 256, .int .i64 255]) (by have := HX2.out.2.2.size; omega) (by omega) (by omega)
      have HX3 := Lib.hid (And.intro (eown_alloc HX2.out.1 (.cells #[.int .i64 (-1), .int .i64 256, .int .i64 255] 3)) (And.intro HX2.out.2.1 (HX2.out.2.2.then (hb3.mono HX2.out.2.2.size))))
      clear HX2 hb3 d2 q0 q0' h0
      go_wp2_with (fail)
      with_reducible refine cp.mono ?_
      rintro e w4 ⟨z, hz, rfl, d4, o4⟩
      have hzw : (Lit.int .i64 z).wf = true := by
        simp only [List.mem_cons, List.not_mem_nil, or_false] at hz
        rcases hz with rfl | rfl | rfl <;> exact WalkArith.wf_i64 (by omega)
      have HX4 := Lib.hid (And.intro (HX3.out.1.grew o4.grew hg) (And.intro HX3.out.2.1 (And.intro (HX3.out.2.2.only o4) hzw)))
      clear HX3 o4 cp hz hzw
      have hb5 := below_ints w4 #[.int .i64 0, .int .i64 65536, .int .i64 500]
      have cp := pick_mem g v n _ (d4.kept hb5) w4.heap.size 3 3 _ [0, 65536, 500] rfl rfl (Cel.new w4 3 #[.int .i64 0, .int .i64 65536, .int .i64 500]) (by have := HX4.out.2.2.1.size; omega) (by omega) (by omega)
      have HX5 := Lib.hid (And.intro (eown_alloc HX4.out.1 (.cells #[.int .i64 0, .int .i64 65536, .int .i64 500] 3)) (And.intro HX4.out.2.1 (And.intro (HX4.out.2.2.1.then (hb5.mono HX4.out.2.2.1.size)) HX4.out.2.2.2)))
      clear HX4 hb5 d4
      go_wp2_with (fail)
      with_reducible refine cp.mono ?_
      rintro e w6 ⟨y, hy, rfl, d6, o6⟩
      have hb7 := below_av w6 ⟨z, y, false, false⟩
      have hG6 := HX5.out.2.2.1.only o6
      have HX7 := Lib.hid (And.intro (eown_alloc (HX5.out.1.grew o6.grew hg) (.cells #[.int .i64 z, .int .i64 y, .bool false, .bool false] 32)) (And.intro (wf_snoc (m := ⟨z, y, false, false⟩) HX5.out.2.1 HX5.out.2.2.2) (And.intro (hG6.then (hb7.mono hG6.size)) (And.intro (d6.kept hb7) (And.intro (Cel.new w6 32 #[.int .i64 z, .int .i64 y, .bool false, .bool false]) (Nat.le_trans hG6.size hb7.size))))))
      clear HX5 o6 cp hb7 hG6 d6 hy
      obtain ⟨M, hM⟩ : ∃ M, ms ++ [(⟨z, y, false, false⟩ : Av)] = M := ⟨_, rfl⟩
      have hMl : M.length ≤ 9 := by rw [← hM]; simp; omega
      have HM := Lib.hid (And.intro hM (And.intro hMl (hM ▸ HX7.out.2.1)))
      clear hM hMl
      go_wp2_with (at_builtin; refine wpList_append_els avK rfl _ _ 26 26 rfl uAv uAv w.heap.size _ (.slice (some ⟨w6.heap.size, 0, none⟩) 1 1) ms [⟨z, y, false, false⟩] rfl rfl HX7.out.1 HX7.out.2.2.2.2.2 (rd_box (m := ⟨z, y, false, false⟩) HX7.out.2.2.2.2.1) (by simp; omega) ?_; intro u' w8 hown hgrow hloc; rw [HM.out.1] at hown; have HN := Lib.hid (And.intro hown ((Below.refl _ _).grown hgrow HX7.out.2.2.2.2.2 (fun k hk => (HX7.out.1.block k hk).1) : Below w.heap.size _ w8)); obtain ⟨xa, xc, rfl, -⟩ := hown.form; clear hown hgrow hloc)
      go_ret
      exact ⟨_, M, rfl, HN.out.1, HM.out.2.1, HM.out.2.2, HX7.out.2.2.2.1.below HN.out.2 hg, HX7.out.2.2.1.then HN.out.2⟩
    · have q1 : ((r : Int) == 1) = false := by simp; omega
      have q1' : ¬ (r : Int) = 1 := by omega
      have HD := Lib.hid d2
      clear d2
      go_wp2_with (fail)
      go_ret
      exact ⟨_, ms, rfl, HX2.out.1, by omega, HX2.out.2.1, HD.out, HX2.out.2.2⟩
end Go.Proofs.Ytmokepopmfcdnaa
