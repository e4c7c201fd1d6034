import Derived.Test.YtmfbhejclmelaaaAbp
namespace Go.Proofs.Ytmfbhejclmelaaa
open Go.RowKit Go.Maps

theorem wpList_turnPut {ops : Array Oper} {rest : List Oper} {o : Oper} {a : Act} {W : World} {Q : Exit → Act → World → Prop} (hgd : o.guard = none) (m x v : Operand)
    (ho : o.op = .mapUpdate 69 m x v) {b n : Nat} {f : Int → Nat} (k : Int) (y : Nat)
    (hm : a.eval m = .map (some b)) (hx : a.eval x = .int .i64 k) (hv : a.eval v = .int .i64 (y : Int)) (hM : TurnAt W b n f) (hk : (Lit.int .i64 k).wf = true) (hy : y ≤ 2097152) (hn : n < maxLen)
    (h : ∀ W', TurnAt W' b (n + 1) (fun z => if z = k then y else f z) → W.grownBy W' (some b) → W'.heap.size = W.heap.size → wpList Try.prog ops Q rest (a.put o.dst undef) W') : wpList Try.prog ops Q (o :: rest) a W := by
  refine wpList_plain hgd fun K' hK => ?_
  obtain ⟨w', hr, h1, h2, h3⟩ := hM.put k hk y hy hn
  unfold Oper.wp execOp
  simp only [ho, hm, hx, hv, hr, Sem.run_bind, Sem.run_pure, Result.andThen_ok]
  exact hK _ _ (h w' h1 h2 h3)

theorem TurnAt.ne {w : World} {b n g : Nat} {f : Int → Nat} {c : Array Value} {t : TypeId} {z : Nat × Nat} (h : TurnAt w b n f) (hg : w.heap[g]? = some (.cells c t z)) : g ≠ b := by
  rintro rfl
  obtain ⟨D, ⟨es, clock, h1, -⟩, -⟩ := h
  rw [hg] at h1
  cases h1

/-- While bookOf goes on: the book, the turns, the result's block. -/
structure Bo (w W : World) (bb bm bt rb n n' : Nat) (u : Value) (order : List Kk) (F : Kk → Option Av) (f : Int → Nat) : Prop where
  k : BkW W w.heap.size bb bm n u order F
  t : TurnAt W bt n' f
  r : ∃ r0 r1, Cel W rb 56 #[r0, r1]
  b : Below w.heap.size w W
  hbt : w.heap.size ≤ bt
  ne : bt ≠ bm
  hr : w.heap.size ≤ rb
  nr : rb ≠ bb
/-- .. and the address and its key in their boxes. -/
structure Bx (w W : World) (bb bm bt rb ba bk n n' : Nat) (u : Value) (order : List Kk) (F : Kk → Option Av) (f : Int → Nat) (a : Av) (c : Nat) : Prop where
  o : Bo w W bb bm bt rb n n' u order F f
  ca : Cel W ba 26 #[.int .i64 a.id, .int .i64 a.addr, .bool a.spare, .bool a.told]
  ck : Cel W bk 71 #[.int .i64 a.id, .int .i64 (c : Int)]
/-- Behind append: the new row is not stored yet. -/
structure By (w W : World) (bb bm bt rb ba bk n n' : Nat) (u u' : Value) (order : List Kk) (F : Kk → Option Av) (f : Int → Nat) (a : Av) (cn : Nat) : Prop where
  c : Cel W bb 56 #[u, .map (some bm)]
  o : OwnE kvK W w.heap.size W.heap.size u' order
  m : MapAt W bm n F
  hb : w.heap.size ≤ bb
  hm : w.heap.size ≤ bm
  ok : ∀ k ∈ order, OkK k
  t : TurnAt W bt n' f
  r : ∃ r0 r1, Cel W rb 56 #[r0, r1]
  b : Below w.heap.size w W
  hbt : w.heap.size ≤ bt
  ne : bt ≠ bm
  hr : w.heap.size ≤ rb
  nr : rb ≠ bb
  ca : Cel W ba 26 #[.int .i64 a.id, .int .i64 a.addr, .bool a.spare, .bool a.told]
  ck : Cel W bk 71 #[.int .i64 a.id, .int .i64 (cn : Int)]
section
variable {w W W' : World} {bb bm bt rb ba bk n n' : Nat} {u u' : Value} {order order' : List Kk} {F F' : Kk → Option Av} {f f' : Int → Nat} {a : Av} {c : Nat}
theorem Bo.kept (h : Bo w W bb bm bt rb n n' u order F f) (hb : Below W.heap.size W W') : Bo w W' bb bm bt rb n n' u order F f := by
  obtain ⟨r0, r1, hr⟩ := h.r
  exact ⟨h.k.kept hb, h.t.kept hb, ⟨r0, r1, hr.kept hb⟩, Below.then_ h.b hb, h.hbt, h.ne, h.hr, h.nr⟩
theorem Bx.kept (h : Bx w W bb bm bt rb ba bk n n' u order F f a c) (hb : Below W.heap.size W W') : Bx w W' bb bm bt rb ba bk n n' u order F f a c := ⟨h.o.kept hb, h.ca.kept hb, h.ck.kept hb⟩
theorem Bx.boxes (h : Bo w W bb bm bt rb n n' u order F f) (a : Av) (c : Nat) : Bx w ((W.alloc (.cells #[.int .i64 a.id, .int .i64 a.addr, .bool a.spare, .bool a.told] 26)).alloc (.cells #[.int .i64 a.id, .int .i64 (c : Int)] 71)) bb bm bt rb W.heap.size (W.heap.size + 1) n n' u order F f a c := by
  refine ⟨(h.kept (below_av W a)).kept (below_kv _ (a.id, c)), (Cel.new W _ _).alloc _, ?_⟩
  have := Cel.new (W.alloc (.cells #[.int .i64 a.id, .int .i64 a.addr, .bool a.spare, .bool a.told] 26)) 71 #[.int .i64 a.id, .int .i64 (c : Int)]
  rw [World.size_alloc] at this
  exact this
theorem Bx.turnT (h : Bx w W bb bm bt rb ba bk n n' u order F f a c) {m' : Nat} (ht : TurnAt W' bt m' f') (hg : W.grownBy W' (some bt)) (hz : W'.heap.size = W.heap.size) : Bx w W' bb bm bt rb ba bk n m' u order F f' a c := by
  obtain ⟨r0, r1, hr⟩ := h.o.r
  have hT := h.o.t
  have hk := h.o.k
  refine ⟨⟨⟨hk.c.grown hg (fun e => hT.ne hk.c (by injection e)), ?_, hk.m.keepAt (hg.block _ hk.m.lt (fun e => h.o.ne (by injection e with e; exact e.symm))), hk.hb, hk.hm, hk.ok⟩, ht, ⟨r0, r1, hr.grown hg (fun e => hT.ne hr (by injection e))⟩, h.o.b.grown hg h.o.b.size (fun k hk => by injection hk with hk; have := h.o.hbt; omega), h.o.hbt, h.o.ne, h.o.hr, h.o.nr⟩, h.ca.grown hg (fun e => hT.ne h.ca (by injection e)), h.ck.grown hg (fun e => hT.ne h.ck (by injection e))⟩
  rw [hz]
  refine hk.o.grown hg (Nat.le_refl _) (fun g hv e => ?_)
  rcases hk.o.1.2 with ⟨rfl, _⟩ | ⟨g', cap, cur, rfl, -, hh, -⟩
  · cases hv
  · simp [Value.ownBlock] at hv
    subst hv
    exact hT.ne hh (by injection e)
theorem Bx.turnM (h : Bx w W bb bm bt rb ba bk n n' u order F f a c) {m' : Nat} (hm : MapAt W' bm m' F') (hg : W.grownBy W' (some bm)) (hz : W'.heap.size = W.heap.size) : Bo w W' bb bm bt rb m' n' u order F' f := by
  obtain ⟨r0, r1, hr⟩ := h.o.r
  have hk := h.o.k
  exact ⟨hk.turn hm hg hz, h.o.t.keepAt (hg.block _ h.o.t.lt (fun e => h.o.ne (by injection e))), ⟨r0, r1, hr.grown hg (fun e => hk.m.ne hr (by injection e))⟩, BkW.turned h.o.b hg h.o.b.size hk.hm, h.o.hbt, h.o.ne, h.o.hr, h.o.nr⟩
theorem Bx.app (h : Bx w W bb bm bt rb ba bk n n' u order F f a c) (ho : OwnE kvK W' w.heap.size W'.heap.size u' order') (hg : W.grownBy W' u.ownBlock) (hok : ∀ k ∈ order', OkK k) (hne : ∀ g, u.ownBlock = some g → g ≠ bk) : By w W' bb bm bt rb ba bk n n' u u' order' F f a c := by
  obtain ⟨r0, r1, hr⟩ := h.o.r
  have hk := h.o.k
  have h1 := hk.ob
  have hrow : ∀ g, u.ownBlock = some g → ∃ cur, Cel W g 71 cur := fun g hv => by
    rcases hk.o.1.2 with ⟨rfl, _⟩ | ⟨g', cap, cur, rfl, -, hh, -⟩
    · cases hv
    · simp [Value.ownBlock] at hv
      subst hv
      exact ⟨cur, hh⟩
  refine ⟨hk.c.grown hg (fun e => (h1 _ e.symm).2 rfl), ho, hk.m.keepAt (hg.block _ hk.m.lt (fun e => (h1 _ e.symm).1 rfl)), hk.hb, hk.hm, hok, h.o.t.keepAt (hg.block _ h.o.t.lt (fun e => ?_)), ⟨r0, r1, hr.grown hg (fun e => ?_)⟩, h.o.b.grown hg h.o.b.size (fun k hv => (hk.o.block k hv).1), h.o.hbt, h.o.ne, h.o.hr, h.o.nr, h.ca.grown hg (fun e => ?_), h.ck.grown hg (fun e => hne _ e.symm rfl)⟩
  · obtain ⟨cur, hc⟩ := hrow _ e.symm
    exact h.o.t.ne hc rfl
  · obtain ⟨cur, hc⟩ := hrow _ e.symm
    exact Cel.types (t1 := 71) (t2 := 56) hc hr (by decide) rfl
  · obtain ⟨cur, hc⟩ := hrow _ e.symm
    exact Cel.types (t1 := 71) (t2 := 26) hc h.ca (by decide) rfl
theorem By.cell (h : By w W bb bm bt rb ba bk n n' u u' order F f a c) : W.cell? ⟨bb, 0, none⟩ = some u ∧ W.frozen? ⟨bb, 0, none⟩ = false := ⟨h.c.cell 0, h.c.frozen 0⟩
theorem By.store (h : By w W bb bm bt rb ba bk n n' u u' order F f a c) : Bx w (W.setCell ⟨bb, 0, none⟩ u') bb bm bt rb ba bk n n' u' order F f a c := by
  obtain ⟨r0, r1, hr⟩ := h.r
  have hs := h.c.set 0 u'
  have hz : (W.setCell ⟨bb, 0, none⟩ u').heap.size = W.heap.size := by simp
  refine ⟨⟨⟨by simpa using hs, ?_, h.m.keepAt (Below.heap_setCell _ _ _ _ (fun e => h.m.ne h.c e.symm)), h.hb, h.hm, h.ok⟩, h.t.keepAt (Below.heap_setCell _ _ _ _ (fun e => h.t.ne h.c e.symm)), ⟨r0, r1, hr.other _ _ h.nr⟩, h.b.setCell (p := ⟨bb, 0, none⟩) h.hb u', h.hbt, h.ne, h.hr, h.nr⟩, h.ca.other _ _ (Cel.types h.ca h.c (by decide)), h.ck.other _ _ (Cel.types h.ck h.c (by decide))⟩
  rw [hz]
  refine h.o.keepAt (fun g hg => Below.heap_setCell _ _ _ _ ?_)
  rcases h.o.1.2 with ⟨rfl, _⟩ | ⟨g', cap, cur, rfl, -, hh, -⟩
  · cases hg
  · simp [Value.ownBlock] at hg
    subst hg
    exact Cel.types (t1 := kvK.t) hh h.c (by decide)
theorem Bx.keys (h : Bx w W bb bm bt rb ba bk n n' u order F f a c) : W.cell? ⟨bb, 0, none⟩ = some u ∧ W.cell? ⟨bb, 1, none⟩ = some (.map (some bm)) ∧ W.cell? ⟨bk, 0, none⟩ = some (.int .i64 a.id) ∧ W.cell? ⟨bk, 1, none⟩ = some (.int .i64 (c : Int)) ∧ W.cell? ⟨ba, 0, none⟩ = some (.int .i64 a.id) ∧ W.cell? ⟨ba, 1, none⟩ = some (.int .i64 a.addr) ∧ W.cell? ⟨ba, 2, none⟩ = some (.bool a.spare) ∧ W.cell? ⟨ba, 3, none⟩ = some (.bool a.told) := ⟨h.o.k.two.1, h.o.k.two.2, h.ck.cell 0, h.ck.cell 1, h.ca.cell 0, h.ca.cell 1, h.ca.cell 2, h.ca.cell 3⟩
end
theorem count_snoc (ms : List Av) (k : Nat) (h : k < ms.length) (z : Int) : ((ms.take (k + 1)).map (·.id)).count z = if z = ms[k].id then ((ms.take k).map (·.id)).count ms[k].id + 1 else ((ms.take k).map (·.id)).count z := by
  rw [List.take_succ_eq_append_getElem h, List.map_append, List.count_append]
  simp only [List.map_cons, List.map_nil, List.count_singleton]
  by_cases e : z = ms[k].id
  · subst e
    simp
  · rw [if_neg e]
    simp [show ¬ ms[k].id = z from fun h => e h.symm]
theorem keyAt_eq (ms : List Av) (k : Nat) (h : k < ms.length) : keyAt ms k = (ms[k].id, ((ms.take k).map (·.id)).count ms[k].id) := by
  unfold keyAt
  simp [List.getD, List.getElem?_eq_getElem h]
theorem count_le (ms : List Av) (k : Nat) (z : Int) : ((ms.take k).map (·.id)).count z ≤ k := by
  refine Nat.le_trans List.count_le_length ?_
  rw [List.length_map, List.length_take]
  omega

/-- The book of a list, made by the call. -/
def BookRes (w w' : World) (u : Value) (bm : Nat) (ms : List Av) : Prop :=
  ∃ F, OwnE kvK w' w.heap.size w'.heap.size u (keysA ms) ∧ MapAt w' bm ms.length F ∧ FK F ms ms.length ∧ w.heap.size ≤ bm ∧ (∀ k ∈ keysA ms, OkK k) ∧ Below w.heap.size w w'

set_option linter.unusedSimpArgs false in
set_option maxRecDepth 100000 in
set_option maxHeartbeats 8000000 in
theorem impl_bookOf (v : Value) (ms : List Av) (w : World) (hv : RdV w v ms) (hn : ms.length ≤ 1048576) (hwf : ∀ x ∈ ms, (Lit.int .i64 x.id).wf = true) :
    Calls Try.prog 36 #[v] w fun e w' => ∃ u bm, e = .returned (.agg #[u, .map (some bm)]) ∧ BookRes w w' u bm ms := by
  have hmm := @run_makeMap Try.prog
  obtain ⟨a, c, rfl⟩ := hv.form
  have hB0 : Bo w ((((w.alloc (.cells #[.slice none 0 0, .map none] 56)).alloc (.map #[] 0)).alloc (.cells #[.slice none 0 0, .map (some (w.heap.size + 1))] 56)).alloc (.map #[] 0)) (w.heap.size + 1 + 1) (w.heap.size + 1) (w.heap.size + 1 + 1 + 1) w.heap.size 0 0 (.slice none 0 0) [] (fun _ => none) (fun _ => 0) := by
    have b1 := below_new w (.cells #[.slice none 0 0, .map none] 56)
    have r1 := Cel.new w 56 #[.slice none 0 0, .map none]
    have z1 : (w.alloc (.cells #[.slice none 0 0, .map none] 56)).heap.size = w.heap.size + 1 := by simp
    generalize w.alloc (.cells #[.slice none 0 0, .map none] 56) = w1 at *
    have b2 := below_new w1 (.map #[] 0)
    have m2 := MapAt.made w1
    have z2 : (w1.alloc (.map #[] 0)).heap.size = w.heap.size + 1 + 1 := by simp [z1]
    rw [z1] at m2
    generalize w1.alloc (.map #[] 0) = w2 at *
    have b3 := below_new w2 (.cells #[.slice none 0 0, .map (some (w.heap.size + 1))] 56)
    have c3 := Cel.new w2 56 #[.slice none 0 0, .map (some (w.heap.size + 1))]
    have z3 : (w2.alloc (.cells #[.slice none 0 0, .map (some (w.heap.size + 1))] 56)).heap.size = w.heap.size + 1 + 1 + 1 := by simp [z2]
    rw [z2] at c3
    generalize w2.alloc (.cells #[.slice none 0 0, .map (some (w.heap.size + 1))] 56) = w3 at *
    have b4 := below_new w3 (.map #[] 0)
    have t4 := TurnAt.made w3
    rw [z3] at t4
    exact ⟨⟨c3.kept b4, OwnE.nil, (m2.kept b3).kept b4, by omega, by omega, fun k hk => by cases hk⟩, t4, ⟨_, _, ((r1.kept b2).kept b3).kept b4⟩, Below.then_ (Below.then_ (Below.then_ b1 b2) b3) b4, by omega, by omega, by omega, by omega⟩
  have HV := Lib.hid (And.intro hv hwf)
  have HB0 := Lib.hid hB0
  clear hv hwf hB0
  go_enter Try.func36, Try.ntmps36
  go_wp2_with (fail)
  have hB0 := HB0.out
  generalize (((w.alloc (.cells #[.slice none 0 0, .map none] 56)).alloc (.map #[] 0)).alloc (.cells #[.slice none 0 0, .map (some (w.heap.size + 1))] 56)).alloc (.map #[] 0) = w0 at *
  obtain ⟨rb, hrb⟩ : ∃ rb, w.heap.size = rb := ⟨_, rfl⟩
  generalize hbm : w.heap.size + 1 = bm at *
  generalize hbb : bm + 1 = bb at *
  generalize hbt : bb + 1 = bt at *
  clear hbm hbb hbt HB0 hmm
  have hB0' : Bo w w0 bb bm bt rb 0 0 (.slice none 0 0) [] (fun _ => none) (fun _ => 0) := by rw [← hrb]; exact hB0
  have HRB := Lib.hid hrb
  rw [hrb] at *
  clear hrb hB0
  go_loopw [13] (fun i wr => ∃ (k : Nat) (u : Value) (F : Kk → Option Av), k ≤ ms.length ∧ i = .int .i64 k ∧ FK F ms k ∧ Bo w wr bb bm bt rb k k u ((keysA ms).take k) F (fun z => ((ms.take k).map (·.id)).count z)) (fun i _ => ms.length - (intOf i).toNat)
  case atStart => exact ⟨0, _, _, by omega, rfl, FK_nil ms, by simpa using hB0'⟩
  case round =>
    clear hB0'
    obtain ⟨k, u, F, hk, rfl, hF, hB⟩ := hrel
    by_cases hlt : k < ms.length
    · have q : (0 : Int) ≤ (k : Int) ∧ (k : Int) < (ms.length : Int) := by omega
      obtain ⟨b, off, ha, -, k0, k1, k2, k3, -⟩ := av_at (P := Try.prog) (HV.out.1.below hB.b) k hlt
      subst ha
      have hwm := HV.out.2 _ (List.getElem_mem hlt)
      have hke := keyAt_eq ms k hlt
      have hcl := count_le ms k ms[k].id
      have HFN := Lib.hid (And.intro (FK_step hF hlt) (And.intro (keysA_take ms k hlt) (And.intro (count_snoc ms k hlt) hke)))
      obtain ⟨cn, hcn⟩ : ∃ cn, ((ms.take k).map (·.id)).count ms[k].id = cn := ⟨_, rfl⟩
      have hX := Bx.boxes hB ms[k] cn
      have hok : OkK (ms[k].id, cn) := ⟨hwm, WalkArith.wf_i64 (show -9223372036854775808 ≤ ((cn : Nat) : Int) ∧ ((cn : Nat) : Int) ≤ 9223372036854775807 by omega)⟩
      have hol : ((keysA ms).take k).length ≤ k := by rw [List.length_take]; omega
      have hne : ∀ g, u.ownBlock = some g → g ≠ wr.heap.size + 1 := fun g hg => by have := (hB.k.o.block g hg).2; omega
      have HM := Lib.hid (And.intro hcn (And.intro hne hB.k.ok))
      rw [hcn] at hcl
      have hFK2 : FK (upd F (ms[k].id, cn) (some ms[k])) ms (k + 1) := by
        have := HFN.out.1
        rw [HFN.out.2.2.2, hcn] at this
        exact this
      have hO2 : (keysA ms).take k ++ [(ms[k].id, cn)] = (keysA ms).take (k + 1) := by
        rw [HFN.out.2.1, HFN.out.2.2.2, hcn]
      obtain ⟨f, hf⟩ : ∃ f, (fun z => ((ms.take k).map (·.id)).count z) = f := ⟨_, rfl⟩
      have hf2 : (fun z => if z = ms[k].id then cn + 1 else f z) = fun z => ((ms.take (k + 1)).map (·.id)).count z := by
        rw [← hf]
        funext z
        rw [HFN.out.2.2.1 z, hcn]
      have hfc : f ms[k].id = cn := by rw [← hf]; exact hcn
      rw [hf] at hB hX
      clear hf
      have hl1 := (hB.kept (below_av wr ms[k])).t.look ms[k].id hwm
      have hl2 := hX.o.t.look ms[k].id hwm
      rw [hfc] at hl1 hl2
      clear hfc
      have HR := Lib.hid (And.intro hFK2 hf2)
      obtain ⟨O', hO'⟩ : ∃ O', (keysA ms).take (k + 1) = O' := ⟨_, rfl⟩
      rw [hO'] at hO2
      have hokO : ∀ x ∈ O', OkK x := fun x hx => by
        rw [← hO2] at hx
        rcases List.mem_append.1 hx with hx | hx
        · exact hB.k.ok x hx
        · simp only [List.mem_cons, List.not_mem_nil, or_false] at hx
          rw [hx]
          exact hok
      have HO' := Lib.hid (And.intro hO' hokO)
      clear hF hke hFK2 hf2 HFN hO' hokO hcn HM
      obtain ⟨ua, uc, rfl, -⟩ := hB.k.o.form
      clear hB
      generalize (keysA ms).take k = O at *
      have e1 : IntKind.i64.wrap ((cn : Int) + 1) = ((cn + 1 : Nat) : Int) := by rw [IntWalk.i64_in _ (by omega)]; omega
      have hc1 : cn + 1 ≤ 2097152 := by omega
      generalize hc1e : cn + 1 = c1 at *
      have hkm : k < maxLen := by unfold maxLen; omega
      have HXX := Lib.hid (And.intro hX (And.intro hwm (And.intro hok (And.intro hne hc1e))))
      clear hX hok hne hcl hc1e hwm
      generalize hmm : ms[k] = m at *
      clear hmm
      go_upto_region 8 with (at_mapUpdate; refine wpList_turnPut rfl _ _ _ rfl m.id c1 rfl rfl rfl HXX.out.1.o.t HXX.out.2.1 hc1 hkm ?_; intro w3 ht3 hg3 hz3)
      have H3 := Lib.hid (HXX.out.1.turnT ht3 hg3 hz3)
      obtain ⟨q0, q1, q2, q3, q4, q5, q6, q7⟩ := H3.out.keys
      clear ht3 hg3 hz3 hl1 hl2 k0 k1 k2 k3
      have HF8 := Lib.hid (And.intro (eown_alloc H3.out.o.k.o (.cells #[.int .i64 m.id, .int .i64 (cn : Int)] 71)) (And.intro (rd_kbox (k := (m.id, cn)) (Cel.new w3 71 #[.int .i64 m.id, .int .i64 (cn : Int)])) (And.intro (H3.out.kept (below_kv w3 (m.id, cn))) (show w.heap.size ≤ (w3.alloc (.cells #[.int .i64 m.id, .int .i64 (cn : Int)] 71)).heap.size from Nat.le_trans H3.out.o.b.size (by simp)))))
      go_upto_region 9 with (at_builtin; refine wpList_append_els kvK rfl _ _ 53 53 rfl uKv uKv w.heap.size _ (.slice (some ⟨w3.heap.size, 0, none⟩) 1 1) O [(m.id, cn)] rfl rfl HF8.out.1 HF8.out.2.2.2 HF8.out.2.1 (by simp; omega) ?_; intro u' w4 hown hgrow hloc; rw [hO2] at hown; have HY := Lib.hid (HF8.out.2.2.1.app hown hgrow HO'.out.2 HXX.out.2.2.2.1); obtain ⟨p0, f0⟩ := HY.out.cell; obtain ⟨va, vc, rfl, -⟩ := hown.form; clear hown hgrow hloc)
      have H5 := Lib.hid HY.out.store
      clear q0 q1 q2 q3 q4 q5 q6 q7 p0 f0 HY HF8 H3
      generalize World.setCell _ ⟨bb, 0, none⟩ _ = w5 at *
      obtain ⟨q0, q1, q2, q3, q4, q5, q6, q7⟩ := H5.out.keys
      go_wp2_with (at_mapUpdate; refine wpList_mapPut rfl _ _ _ rfl (m.id, cn) m rfl rfl rfl H5.out.o.k.m HXX.out.2.2.1 hkm ?_; intro w6 hm6 hg6 hz6; have H6 := Lib.hid (H5.out.turnM hm6 hg6 hz6); clear hm6 hg6 hz6)
      go_roundw
      case rel =>
        refine ⟨k + 1, .slice va O'.length vc, upd F (m.id, cn) (some m), by omega, by go_num, HR.out.1, ?_⟩
        have h6 := H6.out
        rw [HO'.out.1]
        rw [HR.out.2] at h6
        exact h6
      case measure => simp [intOf]; omega
    · obtain rfl : k = ms.length := by omega
      have q : ¬ (ms.length : Int) < (ms.length : Int) := by omega
      rw [List.take_of_length_le (by rw [keysA_len]; exact Nat.le_refl _)] at hB
      obtain ⟨r0, r1, hr⟩ := hB.r
      obtain ⟨c0, c1⟩ := cel2a hr
      obtain ⟨d0, d1⟩ := cel2a hB.k.c
      have f0 := hr.frozen 0
      have f1 := hr.frozen 1
      have hC2 : Cel ((wr.setCell ⟨rb, 0, none⟩ u).setCell ⟨rb, 1, none⟩ (.map (some bm))) rb 56 #[u, .map (some bm)] := by
        have := (hr.set 0 u).set 1 (.map (some bm))
        simpa using this
      have hO := hB.k.o
      have hsz : ((wr.setCell ⟨rb, 0, none⟩ u).setCell ⟨rb, 1, none⟩ (.map (some bm))).heap.size = wr.heap.size := by simp
      have hoth : ∀ g, g ≠ rb → ((wr.setCell ⟨rb, 0, none⟩ u).setCell ⟨rb, 1, none⟩ (.map (some bm))).heap[g]? = wr.heap[g]? := fun g hg => by
        rw [Below.heap_setCell _ _ _ _ hg, Below.heap_setCell _ _ _ _ hg]
      have hOr : OwnE kvK ((wr.setCell ⟨rb, 0, none⟩ u).setCell ⟨rb, 1, none⟩ (.map (some bm))) w.heap.size ((wr.setCell ⟨rb, 0, none⟩ u).setCell ⟨rb, 1, none⟩ (.map (some bm))).heap.size u (keysA ms) := by
        rw [hsz]
        refine hO.keepAt (fun g hg => hoth g ?_)
        rcases hO.1.2 with ⟨rfl, _⟩ | ⟨g', cap, cur, rfl, -, hh, -⟩
        · cases hg
        · simp [Value.ownBlock] at hg
          subst hg
          exact Cel.types (t1 := kvK.t) hh hr (by decide)
      have hMr := hB.k.m.keepAt (hoth _ (fun e => hB.k.m.ne hr e.symm))
      have hBr := (hB.b.setCell (p := ⟨rb, 0, none⟩) (by have := hB.hr; exact this) u).setCell (p := ⟨rb, 1, none⟩) (by have := hB.hr; exact this) (.map (some bm))
      have HE := Lib.hid (And.intro hC2 (And.intro hOr (And.intro hMr (And.intro hBr (And.intro hB.k.hm (And.intro hB.k.ok hF))))))
      obtain ⟨ua, uc, rfl, -⟩ := hO.form
      clear hC2 hOr hMr hBr hB hO hsz hoth hr hF
      go_wp2_with (fail)
      obtain ⟨g1, g2, g3, g4, g5, g6, g7⟩ := HE.out
      refine bodyPost_ret (Cel.result g1 rfl _ rfl Try.underlying56 rfl (by show _ = some 2; kernel_rfl)) rfl ⟨_, _, rfl, F, g2, g3, g7, g5, g6, g4⟩
end Go.Proofs.Ytmfbhejclmelaaa
