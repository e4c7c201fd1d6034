import Derived.Test.YtmfbhejclmelaaaAbo
namespace Go.Proofs.Ytmfbhejclmelaaa
open Go.RowKit

theorem book_in {w w1 : World} {u : Value} {bm : Nat} {ms : List Av} (h : BookRes w w1 u bm ms) :
    ∃ F, FK F ms ms.length ∧ BkW (w1.alloc (.cells #[u, .map (some bm)] 56)) w.heap.size w1.heap.size bm ms.length u (keysA ms) F ∧ Below w.heap.size w (w1.alloc (.cells #[u, .map (some bm)] 56)) := by
  obtain ⟨F, h1, h2, h3, h4, h5, h6⟩ := h
  exact ⟨F, h3, ⟨Cel.new _ _ _, eown_alloc h1 _, h2.kept (below_new _ _), h6.size, h4, h5⟩, Below.then_ h6 (below_new _ _)⟩
theorem drop_pure {F : Kk → Option Av} {ms : List Av} (h : FK F ms ms.length) (id : Int) : (keysA ms).filterMap (upd F (id, 0) none) = (dropA ms id).1 ∧ (F (id, 0)).isSome = (dropA ms id).2 := by
  unfold dropA
  cases ha : atA id ms with
  | some i =>
    obtain ⟨a, hf⟩ := book_some h id i ha
    exact ⟨book_drop h id i ha, by rw [hf]; rfl⟩
  | none =>
    obtain ⟨h1, h2⟩ := book_none h id ha
    exact ⟨h1, by rw [h2]; rfl⟩
theorem put_pure {F : Kk → Option Av} {ms : List Av} (h : FK F ms ms.length) (a : Av) : (orderP (keysA ms) a.id).filterMap (upd F (a.id, 0) (some a)) = outA ms a := by
  unfold orderP outA
  cases ha : atA a.id ms with
  | some i =>
    rw [if_pos (mem_keys.2 ⟨i, ha⟩)]
    exact book_put h a i ha
  | none =>
    rw [if_neg (fun hm => by obtain ⟨i, hi⟩ := mem_keys.1 hm; rw [ha] at hi; cases hi), placeK_keys]
    exact book_new h a ha _

set_option maxRecDepth 100000 in
set_option maxHeartbeats 2000000 in
theorem impl_dropAddr (v : Value) (ms : List Av) (id : Int) (w : World) (hv : RdV w v ms) (hn : ms.length ≤ 1048576) (hwf : ∀ x ∈ ms, (Lit.int .i64 x.id).wf = true) (hid : (Lit.int .i64 id).wf = true) :
    Calls Try.prog 15 #[v, .int .i64 id] w fun e w' => ∃ v', e = .returned (.tuple #[v', .bool (dropA ms id).2]) ∧ OwnV w' w.heap.size w'.heap.size v' (dropA ms id).1 ∧ Below w.heap.size w w' := by
  have c1 := impl_bookOf v ms w hv hn hwf
  obtain ⟨a, c, rfl⟩ := hv.form
  clear hv hwf
  go_enter Try.func15, Try.ntmps15
  go_wp2_with (fail)
  with_reducible refine c1.mono ?_
  rintro e w1 ⟨u, bm, rfl, hr⟩
  obtain ⟨ua, uc, rfl⟩ : ∃ ua uc, u = .slice ua (keysA ms).length uc := by
    obtain ⟨F, h1, -⟩ := hr
    obtain ⟨ua, uc, h, -⟩ := h1.form
    exact ⟨ua, uc, h⟩
  obtain ⟨F, hF, hK, hB⟩ := book_in hr
  obtain ⟨p1, p2⟩ := drop_pure hF id
  have cD := impl_drop w1.heap.size bm ms.length w.heap.size (.slice ua (keysA ms).length uc) (keysA ms) F id _ hK hid
  have cL := fun u W h => impl_list w1.heap.size bm ms.length w.heap.size u (keysA ms) (upd F (id, 0) none) W h (by rw [keysA_len]; omega)
  rw [p1] at cL
  rw [p2] at cD
  obtain ⟨rs, rb⟩ := dropA ms id
  have HB := Lib.hid hB
  clear hr hF hK p1 p2 c1 hB
  go_wp2_with (fail)
  with_reducible refine cD.mono ?_
  rintro e w2 ⟨rfl, hK2, hb2⟩
  have HB2 := Lib.hid (HB.out.trans hb2)
  clear cD hb2
  go_wp2_with (fail)
  with_reducible refine (cL _ _ hK2).mono ?_
  rintro e w3 ⟨v3, rfl, hO3, hb3⟩
  have HX := Lib.hid (And.intro (hO3.mono HB2.out.size (Nat.le_refl _)) (HB2.out.trans (hb3.mono HB2.out.size)))
  obtain ⟨va, vc, rfl, -⟩ := hO3.form
  clear hO3 hb3 hK2 cL HB HB2
  go_wp2_with (fail)
  go_ret2
  exact ⟨_, rfl, HX.out.1, HX.out.2⟩

set_option maxRecDepth 100000 in
set_option maxHeartbeats 4000000 in
theorem impl_putAddr (v : Value) (ms : List Av) (m : Av) (w : World) (hv : RdV w v ms) (hn : ms.length ≤ 1048576) (hwf : ∀ x ∈ ms, (Lit.int .i64 x.id).wf = true) (hid : (Lit.int .i64 m.id).wf = true) :
    Calls Try.prog 11 #[v, .agg #[.int .i64 m.id, .int .i64 m.addr, .bool m.spare, .bool m.told]] w fun e w' => ∃ v', e = .returned (.tuple #[v', .bool (putA ms m).2]) ∧ OwnV w' w.heap.size w'.heap.size v' (putA ms m).1 ∧ Below w.heap.size w w' := by
  have hbx := below_av w m
  have hC0 := Cel.new w 26 #[.int .i64 m.id, .int .i64 m.addr, .bool m.spare, .bool m.told]
  have c1 := impl_bookOf v ms _ (hv.below hbx) hn hwf
  have hz0 : (w.alloc (.cells #[.int .i64 m.id, .int .i64 m.addr, .bool m.spare, .bool m.told] 26)).heap.size = w.heap.size + 1 := by simp
  obtain ⟨r, hrr⟩ : ∃ r, putA ms m = r := ⟨_, rfl⟩
  rw [hrr]
  have HRR := Lib.hid hrr
  clear hrr
  obtain ⟨a, c, rfl⟩ := hv.form
  have HV := Lib.hid (And.intro hv (And.intro hbx (And.intro hC0 hz0)))
  clear hv hwf hbx hC0
  go_enter Try.func11, Try.ntmps11
  go_wp2_with (fail)
  obtain ⟨hv, hbx, hC0, -⟩ := HV.out
  generalize w.alloc (.cells #[.int .i64 m.id, .int .i64 m.addr, .bool m.spare, .bool m.told] 26) = w0 at *
  clear HV
  with_reducible refine c1.mono ?_
  rintro e w1 ⟨u, bm, rfl, hr⟩
  obtain ⟨ua, uc, rfl⟩ : ∃ ua uc, u = .slice ua (keysA ms).length uc := by
    obtain ⟨F, h1, -⟩ := hr
    obtain ⟨ua, uc, h, -⟩ := h1.form
    exact ⟨ua, uc, h⟩
  obtain ⟨F, hF, hK, hB⟩ := book_in hr
  have p1 := put_pure hF m
  have cP := impl_put w1.heap.size bm ms.length w0.heap.size (.slice ua (keysA ms).length uc) (keysA ms) F m _ hK hid (by rw [keysA_len]; exact hn) (by unfold maxLen; omega)
  have cL := fun u W h => impl_list w1.heap.size bm (ms.length + 1) w0.heap.size u (orderP (keysA ms) m.id) (upd F (m.id, 0) (some m)) W h (by have := orderP_len (keysA ms) m.id; rw [keysA_len] at this; omega)
  rw [p1] at cL
  have hol := (outA_len ms m).2
  have cO := fun u W B C h => impl_addrsOk u (outA ms m) B C W h (by omega)
  obtain ⟨d0, d1, d2, d3⟩ := cel4a (hC0.below hB hC0.lt)
  have hrr := HRR.out
  unfold putA at hrr
  generalize outA ms m = os at *
  generalize (keysA ms).length = kl at *
  have hB0 : Below w.heap.size w (w1.alloc (.cells #[.slice ua kl uc, .map (some bm)] 56)) := hbx.trans (hB.mono (by omega))
  have HB := Lib.hid (And.intro hB0 (And.intro hv hrr))
  have hw0 : w.heap.size ≤ w0.heap.size := by omega
  have HW0 := Lib.hid hw0
  clear hr hF hK p1 c1 hB hB0 hC0 hbx hv hrr hw0 hz0
  go_wp2_with (fail)
  with_reducible refine cP.mono ?_
  rintro e w2 ⟨rfl, u2, hK2, hb2⟩
  have HB2 := Lib.hid (HB.out.1.trans (hb2.mono HW0.out))
  clear cP hb2 d0 d1 d2 d3
  go_wp2_with (fail)
  with_reducible refine (cL _ _ hK2).mono ?_
  rintro e w3 ⟨v3, rfl, hO3, hb3⟩
  have hO3' := hO3.mono (show w.heap.size ≤ w2.heap.size from HB2.out.size) (Nat.le_refl _)
  have HX := Lib.hid (And.intro hO3' (HB2.out.trans (hb3.mono HB2.out.size)))
  obtain ⟨va, vc, rfl, -⟩ := hO3.form
  clear hO3 hb3 hK2 cL hO3'
  go_wp2_with (fail)
  with_reducible refine (cO _ _ _ _ HX.out.1.lie).mono ?_
  rintro e w4 ⟨rfl, hb4⟩
  have HX4 := Lib.hid (And.intro (HX.out.1.full hb4) (And.intro (Below.then_ HX.out.2 hb4) (HB.out.2.1.below (Below.then_ HX.out.2 hb4))))
  clear cO hb4 HX HB2
  cases hk : addrsOk os with
  | true =>
    have hr2 := HB.out.2.2
    rw [hk, if_pos rfl] at hr2
    subst hr2
    clear hk
    go_wp2_with (fail)
    go_ret2
    exact ⟨_, rfl, HX4.out.1, HX4.out.2.1⟩
  | false =>
    have hr2 := HB.out.2.2
    rw [hk, if_neg (by decide)] at hr2
    subst hr2
    clear hk
    go_wp2_with (at_builtin; refine wpList_append_els avK rfl _ _ 24 24 rfl uAv uAv w.heap.size (.slice none 0 0) _ [] ms rfl rfl OwnE.nil HX4.out.2.1.size HX4.out.2.2 (by simp; omega) ?_; intro v' w5 hown hgrow hloc; rw [List.nil_append] at hown; have HN := Lib.hid (And.intro hown (HX4.out.2.1.grown hgrow HX4.out.2.1.size (fun g hg => by cases hg))); obtain ⟨xa, xc, rfl, -⟩ := hown.form; clear hown hgrow hloc)
    go_ret2
    exact ⟨_, rfl, HN.out.1, HN.out.2⟩
end Go.Proofs.Ytmfbhejclmelaaa
