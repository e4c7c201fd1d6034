import Derived.Test.YtnlbeoifmdfbjaaSgs
import Derived.Test.YtnlbeoifmdfbjaaOsz
import Derived.Test.YtnlbeoifmdfbjaaOsi
import Derived.StillTailTactics
namespace Go.Proofs.Ytnlbeoifmdfbjaa
open Go.RowKit
attribute [-go_sem] loadCells loadCellsFrom

theorem bytes_eqb (x y : ByteArray) : (x.toList == y.toList) = decide (x = y) := by
  rw [Bool.eq_iff_iff, beq_iff_eq, decide_eq_true_eq]
  constructor
  · intro h
    rw [ByteArray.toList_eq, ByteArray.toList_eq] at h
    exact ByteArray.ext (Array.toList_inj.1 h)
  · rintro rfl; rfl

instance : DecidableEq Ov := fun a b => decidable_of_iff (sameOv b a = true) (sameOv_iff b a)

/-- Two segments are the same. -/
def sameSv (a b : Sv) : Bool := decide (a.frm = b.frm ∧ a.to = b.to ∧ a.port = b.port ∧ a.peer = b.peer ∧ a.seq = b.seq ∧ a.ack = b.ack ∧ a.flags = b.flags ∧ a.opts = b.opts ∧ a.data = b.data)

theorem slice_of3 {W : World} {v : Value} {zs : List Int} (h : Rd W v zs) : ∃ x c, v = .slice x zs.length c := by obtain ⟨x, c, h, -⟩ := h; exact ⟨x, c, h⟩

theorem lists_differ {α : Type} (l m : List α) (k : Nat) (hl : k < l.length) (hm : k < m.length) (h : ¬ l[k] = m[k]) : ¬ l = m := by
  rintro rfl
  exact h rfl
theorem lists_same {α : Type} (l m : List α) (hn : l.length = m.length) (h : ∀ j (hl : j < l.length) (hm : j < m.length), l[j] = m[j]) : l = m := List.ext_getElem hn h
theorem sameOv_dec (o p : Ov) : sameOv o p = decide (o = p) := by
  by_cases h : o = p
  · rw [decide_eq_true h, (sameOv_iff o p).2 h.symm]
  · rw [decide_eq_false h, sameOv_no o p (fun e => h e.symm)]

set_option maxRecDepth 100000 in
set_option maxHeartbeats 2000000 in
theorem eq_func (v u : Value) (os ps : List Ov) (w : World) (hv : RdO w v os) (hu : RdO w u ps) (hn : os.length ≤ 1048576) (hn' : ps.length ≤ 1048576) (hb : ∀ o ∈ os, o.ids.length ≤ 1048576) (hb' : ∀ o ∈ ps, o.ids.length ≤ 1048576) :
    Calls Try.prog 66 #[v, u, .func (.func 17) #[] #[]] w fun e w' => e = .returned (.bool (decide (os = ps))) ∧ Below w.heap.size w w' := by
  obtain ⟨va, vc, rfl⟩ : ∃ a c, v = .slice a os.length c := by obtain ⟨a, c, h, -⟩ := hv; exact ⟨a, c, h⟩
  obtain ⟨ua, uc, rfl⟩ : ∃ a c, u = .slice a ps.length c := by obtain ⟨a, c, h, -⟩ := hu; exact ⟨a, c, h⟩
  by_cases hl : os.length = ps.length
  rotate_left
  · have hne : decide (os = ps) = false := decide_eq_false fun e => hl (by rw [e])
    rw [hne]
    have q : ¬ (os.length : Int) = (ps.length : Int) := by omega
    have q2 : ((os.length : Int) == (ps.length : Int)) = false := by simp only [beq_eq_false_iff_ne, ne_eq]; exact q
    have q3 : decide ((os.length : Int) = (ps.length : Int)) = false := decide_eq_false q
    clear hne
    go_enter Try.func66, Try.ntmps66
    go_wp2_with (fail)
    go_ret
    exact ⟨rfl, Below.refl _ _⟩
  · generalize hd : decide (os = ps) = d
    have HD := Lib.hid hd
    clear hd
    have hl' : ps.length = os.length := hl.symm
    rw [hl'] at hu ⊢
    clear hl
    have HL := Lib.hid hl'
    go_enter Try.func66, Try.ntmps66
    clear hl'
    go_wp2_with (fail)
    go_loopw [17] (fun i wr => ∃ k : Nat, k ≤ os.length ∧ i = .int .i64 k ∧ (∀ j (h : j < os.length) (h' : j < ps.length), j < k → os[j] = ps[j]) ∧ Below w.heap.size w wr) (fun i _ => os.length - (intOf i).toNat)
    case atStart => exact ⟨0, by omega, rfl, fun j _ _ h => by omega, Below.refl _ _⟩
    case round =>
      obtain ⟨k, hk, rfl, hsm, hB⟩ := hrel
      by_cases hlt : k < os.length
      · have q : (k : Int) < (os.length : Int) := by omega
        have q2 : (0 : Int) ≤ (k : Int) := by omega
        have hlt' : k < ps.length := by rw [HL.out]; exact hlt
        obtain ⟨_, _, he, h⟩ := hv.below hB
        injection he with e1 e2 e3
        subst e1 e3
        obtain ⟨b, off, ha, h3⟩ := h (by omega)
        subst ha
        obtain ⟨x, r1, r2⟩ := h3 k hlt
        clear h3 h
        have hU := hu.below hB
        rw [← HL.out] at hU
        obtain ⟨_, _, he, h⟩ := hU
        injection he with e1 e2 e3
        subst e1 e3
        obtain ⟨b', off', ha, h3⟩ := h (by omega)
        subst ha
        obtain ⟨x', r1', r2'⟩ := h3 k hlt'
        clear h3 h
        obtain ⟨xa, xc, rfl⟩ := slice_of3 r2
        obtain ⟨ya, yc, rfl⟩ := slice_of3 r2'
        have hdf := lists_differ os ps k hlt hlt'
        have hstep : os[k] = ps[k] → ∀ j (h : j < os.length) (h' : j < ps.length), j < k + 1 → os[j] = ps[j] := fun e j h h' hj => by
          by_cases hjk : j = k
          · subst hjk; exact e
          · exact hsm j h h' (by omega)
        have bo := hb os[k] (List.getElem_mem hlt)
        have bp := hb' ps[k] (List.getElem_mem hlt')
        have HT := Lib.hid (And.intro hdf hstep)
        clear hdf hstep hsm
        generalize os[k] = o at *
        generalize ps[k] = p at *
        have ld := r1.load
        have one := o.cells_one xa o.ids.length xc
        have hz := zeroOpt wr
        have hss : (#[.int .i64 0, .int .i64 0, .int .i64 0, .int .i64 0, .int .i64 0, .int .i64 0, .int .i64 0, .int .i64 0, .int .i64 0, .int .i64 0, .bool false, .string ⟨#[]⟩, .string ⟨#[]⟩, .slice none 0 0] : Array Value).size = (o.cells (.slice xa o.ids.length xc)).size := by rw [Ov.cells_size]; rfl
        have hn8 := new_row wr 26 #[.int .i64 0, .int .i64 0, .int .i64 0, .int .i64 0, .int .i64 0, .int .i64 0, .int .i64 0, .int .i64 0, .int .i64 0, .int .i64 0, .bool false, .string ⟨#[]⟩, .string ⟨#[]⟩, .slice none 0 0] (o.cells (.slice xa o.ids.length xc))
        have c8 := hn8.1
        have R2 := r2.below hn8.2
        have R2' := r2'.below hn8.2
        have R1' := r1'.below hn8.2 r1'.lt
        have B8 := Below.then_ hB hn8.2
        clear hn8 r1 r2 r1' r2' hB
        go_upto_region 6 with (with_reducible refine wpList_store_row rfl 26 _ _ rfl _ rfl _ rfl 26 _ hz (sizeOpt' _ _) hss one ?_)
        clear ld hz one hss
        generalize (wr.alloc (.cells #[.int .i64 0, .int .i64 0, .int .i64 0, .int .i64 0, .int .i64 0, .int .i64 0, .int .i64 0, .int .i64 0, .int .i64 0, .int .i64 0, .bool false, .string ⟨#[]⟩, .string ⟨#[]⟩, .slice none 0 0] 26)).setRow wr.heap.size (o.cells (.slice xa o.ids.length xc)) = W8 at *
        generalize wr.heap.size = g8 at *
        have ld := R1'.load
        have one := p.cells_one ya p.ids.length yc
        have hz := zeroOpt W8
        have hss : (#[.int .i64 0, .int .i64 0, .int .i64 0, .int .i64 0, .int .i64 0, .int .i64 0, .int .i64 0, .int .i64 0, .int .i64 0, .int .i64 0, .bool false, .string ⟨#[]⟩, .string ⟨#[]⟩, .slice none 0 0] : Array Value).size = (p.cells (.slice ya p.ids.length yc)).size := by rw [Ov.cells_size]; rfl
        have hn9 := new_row W8 26 #[.int .i64 0, .int .i64 0, .int .i64 0, .int .i64 0, .int .i64 0, .int .i64 0, .int .i64 0, .int .i64 0, .int .i64 0, .int .i64 0, .bool false, .string ⟨#[]⟩, .string ⟨#[]⟩, .slice none 0 0] (p.cells (.slice ya p.ids.length yc))
        have c9 := hn9.1
        have c8b := c8.kept hn9.2
        have S2 := R2.below hn9.2
        have S2' := R2'.below hn9.2
        have B9 := Below.then_ B8 hn9.2
        clear hn9 R2 R2' R1' B8 c8
        go_upto_region 7 with (with_reducible refine wpList_store_row rfl 26 _ _ rfl _ rfl _ rfl 26 _ hz (sizeOpt' _ _) hss one ?_)
        clear ld hz one hss
        generalize (W8.alloc (.cells #[.int .i64 0, .int .i64 0, .int .i64 0, .int .i64 0, .int .i64 0, .int .i64 0, .int .i64 0, .int .i64 0, .int .i64 0, .int .i64 0, .bool false, .string ⟨#[]⟩, .string ⟨#[]⟩, .slice none 0 0] 26)).setRow W8.heap.size (p.cells (.slice ya p.ids.length yc)) = W9 at *
        generalize W8.heap.size = g9 at *
        have f8 := Cel.loadRow c8b 14 (Ov.cells_size _ _) (P := Try.prog)
        have f9 := Cel.loadRow c9 14 (Ov.cells_size _ _) (P := Try.prog)
        have cc := impl_same o p _ _ W9 S2 S2' bo bp
        rw [sameOv_dec] at cc
        clear S2 S2' c8b c9
        by_cases hop : o = p
        · rw [decide_eq_true hop] at cc
          have HT2 := Lib.hid (HT.out.2 hop)
          clear hop HT
          go_wp2_with (fail)
          with_reducible refine cc.mono ?_
          rintro e w2 ⟨rfl, hb2⟩
          have B10 := Below.then_ B9 hb2
          clear f8 f9 cc B9 hb2
          go_wp2_with (fail)
          go_roundw
          case rel => exact ⟨k + 1, by omega, by go_num, HT2.out, B10⟩
          case measure => simp [intOf]; omega
        · rw [decide_eq_false hop] at cc
          have hdd : d = false := by rw [← HD.out]; exact decide_eq_false (HT.out.1 hop)
          subst hdd
          clear hop HT HD
          go_wp2_with (fail)
          with_reducible refine cc.mono ?_
          rintro e w2 ⟨rfl, hb2⟩
          have B10 := Below.then_ B9 hb2
          clear f8 f9 cc B9 hb2
          go_wp2_with (fail)
          go_ret
          exact ⟨rfl, B10⟩
      · obtain rfl : k = os.length := by omega
        have q : ¬ (os.length : Int) < (os.length : Int) := by omega
        have hdd : d = true := by rw [← HD.out]; exact decide_eq_true (lists_same os ps HL.out.symm fun j h h' => hsm j h h' h)
        subst hdd
        clear hsm HD
        go_wp2_with (fail)
        go_ret
        exact ⟨rfl, hB⟩

set_option maxRecDepth 100000 in
set_option maxHeartbeats 8000000 in
theorem impl_sameSeg (a b : Sv) (v u : Value) (w : World) (hv : RdO w v a.opts) (hu : RdO w u b.opts) (hn : a.opts.length ≤ 1048576) (hn2 : b.opts.length ≤ 1048576) (hb : ∀ o ∈ a.opts, o.ids.length ≤ 1048576) (hb2 : ∀ o ∈ b.opts, o.ids.length ≤ 1048576) :
    Calls Try.prog 31 #[.agg (a.cells v), .agg (b.cells u)] w fun e w' => e = .returned (.bool (sameSv a b)) ∧ Below w.heap.size w w' := by
  obtain ⟨va, vc, rfl⟩ : ∃ x c, v = .slice x a.opts.length c := by obtain ⟨x, c, h, -⟩ := hv; exact ⟨x, c, h⟩
  obtain ⟨ua, uc, rfl⟩ : ∃ x c, u = .slice x b.opts.length c := by obtain ⟨x, c, h, -⟩ := hu; exact ⟨x, c, h⟩
  have hB : Below w.heap.size w ((w.alloc (.cells (a.cells (.slice va a.opts.length vc)) 36)).alloc (.cells (b.cells (.slice ua b.opts.length uc)) 36)) := ((Below.refl _ _).alloc (Nat.le_refl _) _).alloc (by simp) _
  have hA : Cel ((w.alloc (.cells (a.cells (.slice va a.opts.length vc)) 36)).alloc (.cells (b.cells (.slice ua b.opts.length uc)) 36)) w.heap.size 36 (a.cells (.slice va a.opts.length vc)) := (Cel.new w _ _).alloc _
  have hD : Cel ((w.alloc (.cells (a.cells (.slice va a.opts.length vc)) 36)).alloc (.cells (b.cells (.slice ua b.opts.length uc)) 36)) (w.heap.size + 1) 36 (b.cells (.slice ua b.opts.length uc)) := by
    have := Cel.new (w.alloc (.cells (a.cells (.slice va a.opts.length vc)) 36)) 36 (b.cells (.slice ua b.opts.length uc))
    rw [World.size_alloc] at this
    exact this
  have ce := eq_func (.slice va a.opts.length vc) (.slice ua b.opts.length uc) a.opts b.opts _ (hv.below hB) (hu.below hB) hn hn2 hb hb2
  clear hv hu hb hb2
  obtain ⟨a0, a1, a2, a3, a4, a5, a6, a7, a8⟩ := a.ats (.slice va a.opts.length vc)
  obtain ⟨b0, b1, b2, b3, b4, b5, b6, b7, b8⟩ := b.ats (.slice ua b.opts.length uc)
  by_cases h0 : a.frm = b.frm
  rotate_left
  · skip
    have hs : sameSv a b = false := decide_eq_false fun h => h0 h.1
    rw [hs]
    have q1 : (a.frm == b.frm) = false := by simpa using h0
    have q2 : decide (a.frm = b.frm) = false := decide_eq_false h0
    clear hs 
    clear hA hD ce
    go_enter Try.func31, Try.ntmps31
    go_wp2_with (fail)
    go_ret
    exact ⟨rfl, hB⟩
  by_cases h1 : a.to = b.to
  rotate_left
  · skip
    have hs : sameSv a b = false := decide_eq_false fun h => h1 h.2.1
    rw [hs]
    have q1 : (a.to == b.to) = false := by simpa using h1
    have q2 : decide (a.to = b.to) = false := decide_eq_false h1
    rw [← h0] at b0
    clear hs h0
    clear hA hD ce
    go_enter Try.func31, Try.ntmps31
    go_wp2_with (fail)
    go_ret
    exact ⟨rfl, hB⟩
  by_cases h2 : a.port = b.port
  rotate_left
  · skip
    have hs : sameSv a b = false := decide_eq_false fun h => h2 h.2.2.1
    rw [hs]
    have q1 : (a.port == b.port) = false := by simpa using h2
    have q2 : decide (a.port = b.port) = false := decide_eq_false h2
    rw [← h0] at b0
    rw [← h1] at b1
    clear hs h0 h1
    clear hA hD ce
    go_enter Try.func31, Try.ntmps31
    go_wp2_with (fail)
    go_ret
    exact ⟨rfl, hB⟩
  by_cases h3 : a.peer = b.peer
  rotate_left
  · skip
    have hs : sameSv a b = false := decide_eq_false fun h => h3 h.2.2.2.1
    rw [hs]
    have q1 : (a.peer == b.peer) = false := by simpa using h3
    have q2 : decide (a.peer = b.peer) = false := decide_eq_false h3
    rw [← h0] at b0
    rw [← h1] at b1
    rw [← h2] at b2
    clear hs h0 h1 h2
    clear hA hD ce
    go_enter Try.func31, Try.ntmps31
    go_wp2_with (fail)
    go_ret
    exact ⟨rfl, hB⟩
  by_cases h4 : a.seq = b.seq
  rotate_left
  · skip
    have hs : sameSv a b = false := decide_eq_false fun h => h4 h.2.2.2.2.1
    rw [hs]
    have q1 : (a.seq == b.seq) = false := by simpa using h4
    have q2 : decide (a.seq = b.seq) = false := decide_eq_false h4
    rw [← h0] at b0
    rw [← h1] at b1
    rw [← h2] at b2
    rw [← h3] at b3
    clear hs h0 h1 h2 h3
    clear hA hD ce
    go_enter Try.func31, Try.ntmps31
    go_wp2_with (fail)
    go_ret
    exact ⟨rfl, hB⟩
  by_cases h5 : a.ack = b.ack
  rotate_left
  · skip
    have hs : sameSv a b = false := decide_eq_false fun h => h5 h.2.2.2.2.2.1
    rw [hs]
    have q1 : (a.ack == b.ack) = false := by simpa using h5
    have q2 : decide (a.ack = b.ack) = false := decide_eq_false h5
    rw [← h0] at b0
    rw [← h1] at b1
    rw [← h2] at b2
    rw [← h3] at b3
    rw [← h4] at b4
    clear hs h0 h1 h2 h3 h4
    clear hA hD ce
    go_enter Try.func31, Try.ntmps31
    go_wp2_with (fail)
    go_ret
    exact ⟨rfl, hB⟩
  by_cases h6 : a.flags = b.flags
  rotate_left
  · skip
    have hs : sameSv a b = false := decide_eq_false fun h => h6 h.2.2.2.2.2.2.1
    rw [hs]
    have q1 : (a.flags == b.flags) = false := by simpa using h6
    have q2 : decide (a.flags = b.flags) = false := decide_eq_false h6
    rw [← h0] at b0
    rw [← h1] at b1
    rw [← h2] at b2
    rw [← h3] at b3
    rw [← h4] at b4
    rw [← h5] at b5
    clear hs h0 h1 h2 h3 h4 h5
    clear hA hD ce
    go_enter Try.func31, Try.ntmps31
    go_wp2_with (fail)
    go_ret
    exact ⟨rfl, hB⟩
  rw [← h0] at b0
  rw [← h1] at b1
  rw [← h2] at b2
  rw [← h3] at b3
  rw [← h4] at b4
  rw [← h5] at b5
  rw [← h6] at b6
  by_cases h7 : a.opts = b.opts
  rotate_left
  · have hs : sameSv a b = false := decide_eq_false fun h => h7 h.2.2.2.2.2.2.2.1
    rw [hs]
    rw [decide_eq_false h7] at ce
    clear hs h0 h1 h2 h3 h4 h5 h6 h7
    go_enter Try.func31, Try.ntmps31
    go_wp2_with (fail)
    with_reducible refine ce.mono ?_
    rintro e w2 ⟨rfl, hb2⟩
    clear hA hD ce
    go_wp2_with (fail)
    go_ret
    exact ⟨rfl, Below.then_ hB hb2⟩
  · have hs : sameSv a b = decide (a.data = b.data) := by
      unfold sameSv
      by_cases h8 : a.data = b.data
      · rw [decide_eq_true h8, decide_eq_true ⟨h0, h1, h2, h3, h4, h5, h6, h7, h8⟩]
      · rw [decide_eq_false h8, decide_eq_false fun h => h8 h.2.2.2.2.2.2.2.2]
    rw [hs]
    rw [decide_eq_true h7] at ce
    have q8 : (a.data.toList == b.data.toList) = decide (a.data = b.data) := bytes_eqb _ _
    have HQ := Lib.hid q8
    clear hs h0 h1 h2 h3 h4 h5 h6 h7 q8
    go_enter Try.func31, Try.ntmps31
    go_wp2_with (fail)
    with_reducible refine ce.mono ?_
    rintro e w2 ⟨rfl, hb2⟩
    have k8 := ((hA.kept hb2).cell 8).trans a8
    have j8 := ((hD.kept hb2).cell 8).trans b8
    clear hA hD ce
    go_wp2_with (fail)
    go_ret
    exact ⟨by rw [← HQ.out]; rfl, Below.then_ hB hb2⟩

set_option maxRecDepth 100000 in
set_option maxHeartbeats 8000000 in
theorem spec_sameSeg (a b : Sv) (v u : Value) (w : World) (hv : RdO w v a.opts) (hu : RdO w u b.opts) (hn : a.opts.length ≤ 1048576) (hn2 : b.opts.length ≤ 1048576) (hb : ∀ o ∈ a.opts, o.ids.length ≤ 1048576) (hb2 : ∀ o ∈ b.opts, o.ids.length ≤ 1048576) :
    Calls Try.prog 29 #[.agg (a.cells v), .agg (b.cells u)] w fun e w' => e = .returned (.bool (sameSv a b)) ∧ Below w.heap.size w w' := by
  obtain ⟨va, vc, rfl⟩ : ∃ x c, v = .slice x a.opts.length c := by obtain ⟨x, c, h, -⟩ := hv; exact ⟨x, c, h⟩
  obtain ⟨ua, uc, rfl⟩ : ∃ x c, u = .slice x b.opts.length c := by obtain ⟨x, c, h, -⟩ := hu; exact ⟨x, c, h⟩
  have hB : Below w.heap.size w ((w.alloc (.cells (a.cells (.slice va a.opts.length vc)) 36)).alloc (.cells (b.cells (.slice ua b.opts.length uc)) 36)) := ((Below.refl _ _).alloc (Nat.le_refl _) _).alloc (by simp) _
  have hA : Cel ((w.alloc (.cells (a.cells (.slice va a.opts.length vc)) 36)).alloc (.cells (b.cells (.slice ua b.opts.length uc)) 36)) w.heap.size 36 (a.cells (.slice va a.opts.length vc)) := (Cel.new w _ _).alloc _
  have hD : Cel ((w.alloc (.cells (a.cells (.slice va a.opts.length vc)) 36)).alloc (.cells (b.cells (.slice ua b.opts.length uc)) 36)) (w.heap.size + 1) 36 (b.cells (.slice ua b.opts.length uc)) := by
    have := Cel.new (w.alloc (.cells (a.cells (.slice va a.opts.length vc)) 36)) 36 (b.cells (.slice ua b.opts.length uc))
    rw [World.size_alloc] at this
    exact this
  obtain ⟨a0, a1, a2, a3, a4, a5, a6, a7, a8⟩ := a.ats (.slice va a.opts.length vc)
  obtain ⟨b0, b1, b2, b3, b4, b5, b6, b7, b8⟩ := b.ats (.slice ua b.opts.length uc)
  by_cases hl : a.opts.length = b.opts.length
  rotate_left
  · have hs : sameSv a b = false := decide_eq_false fun h => hl (by rw [h.2.2.2.2.2.2.2.1])
    rw [hs]
    have q : ¬ (a.opts.length : Int) = (b.opts.length : Int) := by omega
    have q2 : ((a.opts.length : Int) == (b.opts.length : Int)) = false := by simp only [beq_eq_false_iff_ne, ne_eq]; exact q
    have q3 : decide ((a.opts.length : Int) = (b.opts.length : Int)) = false := decide_eq_false q
    clear hs hA hD
    go_enter Try.func29, Try.ntmps29
    go_wp2_with (fail)
    go_ret
    exact ⟨rfl, hB⟩
  · generalize hd : sameSv a b = d
    have HD := Lib.hid hd
    clear hd
    rw [← hl] at hu hD hA hB b7
    have j7 := (b.ats (.slice ua a.opts.length uc)).2.2.2.2.2.2.2.1
    have HL := Lib.hid hl
    rw [← hl]
    clear a0 a1 a2 a3 a4 a5 a6 a8 b0 b1 b2 b3 b4 b5 b6 b7 b8 hl
    go_enter Try.func29, Try.ntmps29
    go_wp2_with (fail)
    clear a7 j7
    go_loopw [5] (fun i wr => ∃ k : Nat, k ≤ a.opts.length ∧ i = .int .i64 k ∧ (∀ j (h : j < a.opts.length) (h' : j < b.opts.length), j < k → a.opts[j] = b.opts[j]) ∧ Cel wr w.heap.size 36 (a.cells (.slice va a.opts.length vc)) ∧ Cel wr (w.heap.size + 1) 36 (b.cells (.slice ua a.opts.length uc)) ∧ Below w.heap.size w wr) (fun i _ => a.opts.length - (intOf i).toNat)
    case atStart => exact ⟨0, by omega, rfl, fun j _ _ h => by omega, hA, hD, hB⟩
    case round =>
      clear hA hD hB
      obtain ⟨k, hk, rfl, hsm, hA, hD, hB⟩ := hrel
      have k7 := (hA.cell 7).trans (a.ats _).2.2.2.2.2.2.2.1
      have j7 := (hD.cell 7).trans (b.ats _).2.2.2.2.2.2.2.1
      by_cases hlt : k < a.opts.length
      · have q : (k : Int) < (a.opts.length : Int) := by omega
        have q2 : (0 : Int) ≤ (k : Int) := by omega
        have hlt' : k < b.opts.length := by rw [← HL.out]; exact hlt
        obtain ⟨_, _, he, h⟩ := hv.below hB
        injection he with e1 e2 e3
        subst e1 e3
        obtain ⟨bb, off, ha, h3⟩ := h (by omega)
        subst ha
        obtain ⟨x, r1, r2⟩ := h3 k hlt
        clear h3 h
        have hU := hu.below hB
        rw [HL.out] at hU
        obtain ⟨_, _, he, h⟩ := hU
        injection he with e1 e2 e3
        subst e1 e3
        obtain ⟨bb', off', ha, h3⟩ := h (by omega)
        subst ha
        obtain ⟨x', r1', r2'⟩ := h3 k hlt'
        clear h3 h
        have hdf := lists_differ a.opts b.opts k hlt hlt'
        have hstep : a.opts[k] = b.opts[k] → ∀ j (h : j < a.opts.length) (h' : j < b.opts.length), j < k + 1 → a.opts[j] = b.opts[j] := fun e j h h' hj => by
          by_cases hjk : j = k
          · subst hjk; exact e
          · exact hsm j h h' (by omega)
        have bo := hb a.opts[k] (List.getElem_mem hlt)
        have bp := hb2 b.opts[k] (List.getElem_mem hlt')
        have HT := Lib.hid (And.intro hdf hstep)
        clear hdf hstep hsm
        generalize a.opts[k] = oa at *
        generalize b.opts[k] = ob at *
        have cc := spec_same oa ob _ _ wr.drew r2 r2' bo bp
        rw [sameOv_dec] at cc
        go_wp2_with (fail)
        refine wp_region_still_tail 10 (by kernel_rfl) (by kernel_rfl) ?_
        change wpStill _ _ wr.drew (fun a' => wpList _ _ _ _ a' wr.drew) _ _
        have ld : (loadCells ⟨bb, off + k * 14, none⟩ 14).run Try.prog wr.drew = _ := ORow.load (W := wr.drew) r1
        have ld' : (loadCells ⟨bb', off' + k * 14, none⟩ 14).run Try.prog wr.drew = _ := ORow.load (W := wr.drew) r1'
        have k7 : wr.drew.cell? ⟨w.heap.size, 7, none⟩ = _ := k7
        have j7 : wr.drew.cell? ⟨w.heap.size + 1, 7, none⟩ = _ := j7
        have hA : Cel wr.drew w.heap.size _ _ := hA
        have hD : Cel wr.drew (w.heap.size + 1) _ _ := hD
        have hB := hB.drew
        clear r1 r2 r1' r2'
        generalize wr.drew = W4 at *
        simp only [List.take_succ_cons, List.take_zero, List.drop_succ_cons, List.drop_zero]
        iterate 10 still_step
        refine wpStill_nil ?_
        by_cases hop : oa = ob
        · rw [decide_eq_true hop] at cc
          have HT2 := Lib.hid (HT.out.2 hop)
          clear hop HT
          go_wp2_with (fail)
          with_reducible refine cc.mono ?_
          rintro e w2 ⟨rfl, hbb⟩
          have B10 := Below.then_ hB hbb
          have A10 := hA.kept hbb
          have D10 := hD.kept hbb
          clear ld ld' k7 j7 cc hA hD hB hbb
          go_wp2_with (fail)
          go_roundw
          case rel => exact ⟨k + 1, by omega, by go_num, HT2.out, A10, D10, B10⟩
          case measure => simp [intOf]; omega
        · rw [decide_eq_false hop] at cc
          have hdd : d = false := by rw [← HD.out]; exact decide_eq_false fun h => HT.out.1 hop h.2.2.2.2.2.2.2.1
          subst hdd
          clear hop HT HD
          go_wp2_with (fail)
          with_reducible refine cc.mono ?_
          rintro e w2 ⟨rfl, hbb⟩
          have B10 := Below.then_ hB hbb
          clear ld ld' k7 j7 cc hA hD hB hbb
          go_wp2_with (fail)
          go_ret
          exact ⟨rfl, B10⟩
      · obtain rfl : k = a.opts.length := by omega
        have q : ¬ (a.opts.length : Int) < (a.opts.length : Int) := by omega
        have h7 : a.opts = b.opts := lists_same a.opts b.opts HL.out fun j h h' => hsm j h h' h
        clear hsm HL
        have a0 := (hA.cell 0).trans (a.ats _).1
        have a1 := (hA.cell 1).trans (a.ats _).2.1
        have a2 := (hA.cell 2).trans (a.ats _).2.2.1
        have a3 := (hA.cell 3).trans (a.ats _).2.2.2.1
        have a4 := (hA.cell 4).trans (a.ats _).2.2.2.2.1
        have a5 := (hA.cell 5).trans (a.ats _).2.2.2.2.2.1
        have a6 := (hA.cell 6).trans (a.ats _).2.2.2.2.2.2.1
        have a8 := (hA.cell 8).trans (a.ats _).2.2.2.2.2.2.2.2
        have b0 := (hD.cell 0).trans (b.ats _).1
        have b1 := (hD.cell 1).trans (b.ats _).2.1
        have b2 := (hD.cell 2).trans (b.ats _).2.2.1
        have b3 := (hD.cell 3).trans (b.ats _).2.2.2.1
        have b4 := (hD.cell 4).trans (b.ats _).2.2.2.2.1
        have b5 := (hD.cell 5).trans (b.ats _).2.2.2.2.2.1
        have b6 := (hD.cell 6).trans (b.ats _).2.2.2.2.2.2.1
        have b8 := (hD.cell 8).trans (b.ats _).2.2.2.2.2.2.2.2
        by_cases h0 : a.frm = b.frm
        rotate_left
        · have hdd : d = false := by rw [← HD.out]; exact decide_eq_false fun h => h0 h.1
          subst hdd
          have q1 : (a.frm == b.frm) = false := by simpa using h0
          have q2 : decide (a.frm = b.frm) = false := decide_eq_false h0
          clear hA hD h7 HD 
          go_wp2_with (fail)
          go_ret
          exact ⟨rfl, hB⟩
        by_cases h1 : a.to = b.to
        rotate_left
        · have hdd : d = false := by rw [← HD.out]; exact decide_eq_false fun h => h1 h.2.1
          subst hdd
          have q1 : (a.to == b.to) = false := by simpa using h1
          have q2 : decide (a.to = b.to) = false := decide_eq_false h1
          rw [← h0] at b0
          clear hA hD h7 HD h0
          go_wp2_with (fail)
          go_ret
          exact ⟨rfl, hB⟩
        by_cases h2 : a.port = b.port
        rotate_left
        · have hdd : d = false := by rw [← HD.out]; exact decide_eq_false fun h => h2 h.2.2.1
          subst hdd
          have q1 : (a.port == b.port) = false := by simpa using h2
          have q2 : decide (a.port = b.port) = false := decide_eq_false h2
          rw [← h0] at b0
          rw [← h1] at b1
          clear hA hD h7 HD h0 h1
          go_wp2_with (fail)
          go_ret
          exact ⟨rfl, hB⟩
        by_cases h3 : a.peer = b.peer
        rotate_left
        · have hdd : d = false := by rw [← HD.out]; exact decide_eq_false fun h => h3 h.2.2.2.1
          subst hdd
          have q1 : (a.peer == b.peer) = false := by simpa using h3
          have q2 : decide (a.peer = b.peer) = false := decide_eq_false h3
          rw [← h0] at b0
          rw [← h1] at b1
          rw [← h2] at b2
          clear hA hD h7 HD h0 h1 h2
          go_wp2_with (fail)
          go_ret
          exact ⟨rfl, hB⟩
        by_cases h4 : a.seq = b.seq
        rotate_left
        · have hdd : d = false := by rw [← HD.out]; exact decide_eq_false fun h => h4 h.2.2.2.2.1
          subst hdd
          have q1 : (a.seq == b.seq) = false := by simpa using h4
          have q2 : decide (a.seq = b.seq) = false := decide_eq_false h4
          rw [← h0] at b0
          rw [← h1] at b1
          rw [← h2] at b2
          rw [← h3] at b3
          clear hA hD h7 HD h0 h1 h2 h3
          go_wp2_with (fail)
          go_ret
          exact ⟨rfl, hB⟩
        by_cases h5 : a.ack = b.ack
        rotate_left
        · have hdd : d = false := by rw [← HD.out]; exact decide_eq_false fun h => h5 h.2.2.2.2.2.1
          subst hdd
          have q1 : (a.ack == b.ack) = false := by simpa using h5
          have q2 : decide (a.ack = b.ack) = false := decide_eq_false h5
          rw [← h0] at b0
          rw [← h1] at b1
          rw [← h2] at b2
          rw [← h3] at b3
          rw [← h4] at b4
          clear hA hD h7 HD h0 h1 h2 h3 h4
          go_wp2_with (fail)
          go_ret
          exact ⟨rfl, hB⟩
        by_cases h6 : a.flags = b.flags
        rotate_left
        · have hdd : d = false := by rw [← HD.out]; exact decide_eq_false fun h => h6 h.2.2.2.2.2.2.1
          subst hdd
          have q1 : (a.flags == b.flags) = false := by simpa using h6
          have q2 : decide (a.flags = b.flags) = false := decide_eq_false h6
          rw [← h0] at b0
          rw [← h1] at b1
          rw [← h2] at b2
          rw [← h3] at b3
          rw [← h4] at b4
          rw [← h5] at b5
          clear hA hD h7 HD h0 h1 h2 h3 h4 h5
          go_wp2_with (fail)
          go_ret
          exact ⟨rfl, hB⟩
        rw [← h0] at b0
        rw [← h1] at b1
        rw [← h2] at b2
        rw [← h3] at b3
        rw [← h4] at b4
        rw [← h5] at b5
        rw [← h6] at b6
        have hs : d = decide (a.data = b.data) := by
          rw [← HD.out]
          unfold sameSv
          by_cases h8 : a.data = b.data
          · rw [decide_eq_true h8, decide_eq_true ⟨h0, h1, h2, h3, h4, h5, h6, h7, h8⟩]
          · rw [decide_eq_false h8, decide_eq_false fun h => h8 h.2.2.2.2.2.2.2.2]
        have HQ := Lib.hid (bytes_eqb a.data b.data)
        subst hs
        clear h0 h1 h2 h3 h4 h5 h6 h7 HD hA hD
        go_wp2_with (fail)
        go_ret
        exact ⟨by rw [← HQ.out]; rfl, hB⟩
end Go.Proofs.Ytnlbeoifmdfbjaa
