import Derived.Test.YtdajfnonehianaaPsj
import Derived.Test.YtdajfnonehianaaEk2
import Derived.StillTailTactics
import Derived.Shelf.Spec.SlicesInsert
namespace Go.Proofs.Ytdajfnonehianaa
open Go.RowKit

theorem laidP_app (st : Int) (l r : List Pc) : ∀ buf, laidP st buf (l ++ r) = laidP st (laidP st buf l) r := by
  induction l with
  | nil => intro buf; rfl
  | cons y l ih => intro buf; simp only [List.cons_append, laidP]; exact ih _
theorem laidP_snoc (st : Int) (buf : List UInt8) (l : List Pc) (k : Nat) (h : k < l.length) : laidP st buf (l.take (k + 1)) = layB (laidP st buf (l.take k)) (l[k].pos - st).toNat l[k].text.data.toList := by
  rw [List.take_succ_eq_append_getElem h, laidP_app]
  rfl
theorem laidP_len (st : Int) (buf : List UInt8) (l : List Pc) (k : Nat) (h : ∀ y ∈ l, (y.pos - st).toNat + y.text.size ≤ buf.length) : (laidP st buf (l.take k)).length = buf.length := by
  induction l generalizing buf k with
  | nil => simp [laidP]
  | cons y l ih =>
    cases k with
    | zero => simp [laidP]
    | succ k =>
      have h1 : (layB buf (y.pos - st).toNat y.text.data.toList).length = buf.length := layB_length _ _ _ (by rw [bsize]; exact h y (by simp))
      simp only [List.take_succ_cons, laidP]
      rw [ih _ k (fun z hz => by rw [h1]; exact h z (by simp [hz])), h1]

/-- While one piece is made of many: the box of the new one, the block of the answer. -/
structure Md (w W : World) (x : Pc) : Prop where
  box : Cel W w.heap.size 41 #[.int .i64 x.pos, .string x.text]
  res : ∃ x0 x1, Cel W (w.heap.size + 1) 41 #[x0, x1]
  below : Below w.heap.size w W
/-- .. with the buffer and the list of parts. -/
structure Ml (w W : World) (x : Pc) (gb N : Nat) (buf : List UInt8) (pv : Value) (pl : List Pc) : Prop where
  md : Md w W x
  buf : OwnE byteK W gb (gb + 1) (.slice (some ⟨gb, 0, none⟩) N N) buf
  parts : OwnP W (gb + 1) W.heap.size pv pl
  gb2 : w.heap.size + 2 ≤ gb
section
variable {w W W' : World} {x : Pc}
theorem Md.kept (h : Md w W x) (hb : Below W.heap.size W W') : Md w W' x := by
  obtain ⟨x0, x1, hz⟩ := h.res
  exact ⟨h.box.kept hb, ⟨x0, x1, hz.kept hb⟩, Below.then_ h.below hb⟩
theorem Md.drew (h : Md w W x) : Md w W.drew x := ⟨h.box, h.res, h.below.drew⟩
theorem md_far (h : Md w W x) : w.heap.size + 2 ≤ W.heap.size := by
  obtain ⟨x0, x1, hz⟩ := h.res
  have := hz.lt
  omega
theorem Md.grown {row : Option Nat} (h : Md w W x) (hg : W.grownBy W' row) (hr : ∀ k, row = some k → w.heap.size + 2 ≤ k) : Md w W' x := by
  obtain ⟨x0, x1, hz⟩ := h.res
  exact ⟨h.box.grown hg (fun e => by have := hr _ e.symm; omega), ⟨x0, x1, hz.grown hg (fun e => by have := hr _ e.symm; omega)⟩, h.below.grown hg h.below.size (fun k hk => by have := hr k hk; omega)⟩
theorem md_all (h : Md w W x) : W.cell? ⟨w.heap.size, 0, none⟩ = some (.int .i64 x.pos) ∧ W.cell? ⟨w.heap.size, 1, none⟩ = some (.string x.text) ∧ Md w W x := ⟨(cel2 h.box).1, (cel2 h.box).2, h⟩
theorem md_keep {b off m : Nat} {p0 : Int} {z : Pc} (h : W.cell? ⟨b, off, none⟩ = some (.int .i64 p0) ∧ W.cell? ⟨b, off + m * 2, none⟩ = some (.int .i64 z.pos) ∧ W.cell? ⟨b, off + m * 2 + 1, none⟩ = some (.string z.text) ∧ Md w W x) (hb : Below W.heap.size W W') : W'.cell? ⟨b, off, none⟩ = some (.int .i64 p0) ∧ W'.cell? ⟨b, off + m * 2, none⟩ = some (.int .i64 z.pos) ∧ W'.cell? ⟨b, off + m * 2 + 1, none⟩ = some (.string z.text) ∧ Md w W' x := by
  obtain ⟨h1, h2, h3, h4⟩ := h
  refine ⟨?_, ?_, ?_, h4.kept hb⟩
  · rw [hb.cell (World.block_lt_of_cell? _ _ h1)]; exact h1
  · rw [hb.cell (World.block_lt_of_cell? _ _ h2)]; exact h2
  · rw [hb.cell (World.block_lt_of_cell? _ _ h3)]; exact h3
theorem Ml.kept {gb N : Nat} {buf : List UInt8} {pv : Value} {pl : List Pc} (h : Ml w W x gb N buf pv pl) (hb : Below W.heap.size W W') : Ml w W' x gb N buf pv pl := ⟨h.md.kept hb, h.buf.keep hb (by have := h.buf.lt; omega), h.parts.full hb, h.gb2⟩
theorem Ml.drew {gb N : Nat} {buf : List UInt8} {pv : Value} {pl : List Pc} (h : Ml w W x gb N buf pv pl) : Ml w W.drew x gb N buf pv pl := ⟨h.md.drew, h.buf, h.parts, h.gb2⟩
theorem ml_all {gb N gy : Nat} {buf : List UInt8} {pv : Value} {pl : List Pc} {y : Pc} (h : Ml w W x gb N buf pv pl) (hy : Cel W gy 41 #[.int .i64 y.pos, .string y.text]) : W.cell? ⟨gy, 0, none⟩ = some (.int .i64 y.pos) ∧ W.cell? ⟨gy, 1, none⟩ = some (.string y.text) ∧ Ml w W x gb N buf pv pl ∧ Cel W gy 41 #[.int .i64 y.pos, .string y.text] := ⟨(cel2 hy).1, (cel2 hy).2, h, hy⟩
theorem Ml.copied {gb N f : Nat} {buf : List UInt8} {pv : Value} {pl : List Pc} {t : List UInt8} (h : Ml w W x gb N buf pv pl) (h1 : OwnE byteK W' gb (gb + 1) (.slice (some ⟨gb, 0, none⟩) N N) (buf.take f ++ t ++ buf.drop (f + t.length))) (hg : W.grownBy W' (some gb)) (hs : W'.heap.size = W.heap.size) : Ml w W' x gb N (layB buf f t) pv pl := by
  have hp : ∀ k, pv.ownBlock = some k → gb + 1 ≤ k := fun k hk => (OwnE.block h.parts k hk).1
  have hfar := md_far h.md
  have hgb := h.gb2
  exact ⟨h.md.grown hg (fun k hk => by injection hk with hk; omega), h1, (h.parts.grown hg (Nat.le_refl _) (fun k hk e => by have := hp k hk; injection e with e; omega)).mono (Nat.le_refl _) (Nat.le_of_eq hs.symm), hgb⟩
/-- A part of a row of bytes, cut out with its own end. -/
theorem byte_cut {gb : Nat} (N f s : Nat) (h : f + s ≤ N) (h0 : s ≠ 0) (W : World) :
    (Instr.slice 22 (.slice (some ⟨gb, 0, none⟩) N N) (some (.int .i64 (f : Int))) (some (.int .i64 ((f + s : Nat) : Int))) (some (.int .i64 ((f + s : Nat) : Int)))).run Try.prog W = .ok (.slice (some ⟨gb, f, none⟩) s s) W := by
  obtain ⟨i0, hq, -, hz1, -⟩ := einfo byteK
  have hq' : Try.prog.info? 5 = some i0 := hq
  have hz1' : i0.size = 1 := hz1
  have h1 : (0 : Int) ≤ (f : Int) ∧ (f : Int) ≤ ((f + s : Nat) : Int) := by omega
  have h2 : (0 : Int) ≤ ((f + s : Nat) : Int) ∧ ((f + s : Nat) : Int) ≤ (N : Int) := by omega
  have h3 : (⟨gb, 0, none⟩ : Addr).add f = ⟨gb, f, none⟩ := by rw [Addr.add_mid, Nat.zero_add]
  have h4 : ¬ f + s = f := by omega
  simp only [Instr.slice, Sem.run_bind, run_underlying Try.underlying22, Result.andThen_ok, Instr.sliceBounds, Instr.sliceBound, asIntOf, Sem.run_pure, if_pos h2, if_pos h1, Int.toNat_natCast, if_pos (⟨h2.1, Int.le_refl _⟩ : (0 : Int) ≤ ((f + s : Nat) : Int) ∧ ((f + s : Nat) : Int) ≤ ((f + s : Nat) : Int))]
  simp [sizeOf, typeInfo, hq', hz1', h3, h0]
theorem md_start (w : World) (x : Pc) : Md w ((w.alloc (.cells #[.int .i64 x.pos, .string x.text] 41)).alloc (.cells #[.int .i64 0, .string ⟨#[]⟩] 41)) x := by
  refine ⟨(Cel.new w _ _).alloc _, ⟨.int .i64 0, .string ⟨#[]⟩, ?_⟩, ((Below.refl _ _).alloc (Nat.le_refl _) _).alloc (by simp) _⟩
  have := Cel.new (w.alloc (.cells #[.int .i64 x.pos, .string x.text] 41)) 41 #[.int .i64 0, .string ⟨#[]⟩]
  rw [World.size_alloc] at this
  exact this
end

set_option maxRecDepth 100000 in
set_option maxHeartbeats 16000000 in
theorem impl_merged (x : Pc) (old : List Pc) (v : Value) (B C : Nat) (w : World) (hv : LieE pcK w B C v old) (hx : x.text.size ≠ 0) (hxp : 0 ≤ x.pos ∧ x.pos ≤ 4294967296) (hok : okP 0 old = true) (hm : ∀ y ∈ old, meets y x) (hs : x.text.size + sumP old ≤ 1000000) (hn : old.length ≤ 1000) :
    Calls Try.prog 66 #[.agg #[.int .i64 x.pos, .string x.text], v] w fun e w' => e = .returned (.agg #[.int .i64 (joinAll x old).pos, .string (joinAll x old).text]) ∧ Below w.heap.size w w' := by
  have M0 := md_start w x
  have hxf : IntKind.i64.wrap x.fin = x.fin := IntWalk.i64_in _ (by unfold Pc.fin; omega)
  have cE := fun W => impl_end x W
  rw [hxf] at cE
  obtain ⟨jp, jf⟩ := joinAll_pos x old hm 0 hok x (Int.le_refl _) (Int.le_refl _)
  obtain ⟨l1, l2, l3⟩ := joinAll_lim x old x (Int.le_refl _) (Int.le_refl _) hm
  have js := joinAll_size x old x (Int.le_refl _) (Int.le_refl _) hm
  have hall := okP_all hok
  obtain ⟨st, hst⟩ : ∃ st, (joinAll x old).pos = st := ⟨_, rfl⟩
  obtain ⟨en, hen⟩ : ∃ en, (joinAll x old).fin = en := ⟨_, rfl⟩
  have hmer := merged_all x old st en hm hst hen
  have hN0 : en - st = ((joinAll x old).text.size : Int) := by rw [← hst, ← hen]; unfold Pc.fin; omega
  obtain ⟨N, hN⟩ : ∃ N, (en - st).toNat = N := ⟨_, rfl⟩
  have hNN : N = (joinAll x old).text.size := by omega
  rw [hN] at hmer
  have e1 : IntKind.i64.wrap (en - st) = (N : Int) := by rw [IntWalk.i64_in _ (by omega)]; omega
  rw [hst, hen] at l3
  rw [hst] at jp l1
  rw [hen] at jf l2
  have HY := Lib.hid (show ∀ y ∈ x :: old, (y.pos - st).toNat + y.text.size ≤ N ∧ st ≤ y.pos ∧ y.text.size ≠ 0 ∧ 0 ≤ y.pos ∧ y.pos ≤ 4294967296 ∧ y.text.size ≤ 1000000 from fun y hy => by
    rcases List.mem_cons.1 hy with rfl | hy
    · unfold Pc.fin at l2
      exact ⟨by omega, l1, hx, hxp.1, hxp.2, by omega⟩
    · have h1 := l3 y hy
      have h2 := hall y hy
      have h3 := sumP_mem hy
      unfold Pc.fin at h1
      exact ⟨by omega, h1.1, h2.1, by omega, by omega, by omega⟩)
  have hNs : N ≤ 1000000 := by omega
  have hres : (joinAll x old).text = ⟨(laidP st (List.replicate N 0) (x :: old)).toArray⟩ := by rw [← hmer]
  rw [hst, hres]
  obtain ⟨tx, htx⟩ : ∃ tx : ByteArray, ⟨(laidP st (List.replicate N 0) (x :: old)).toArray⟩ = tx := ⟨_, rfl⟩
  rw [htx]
  have HTX := Lib.hid htx
  clear hmer hN0 hNN hN js hres l1 l2 l3 hst hen htx
  have HM0 := Lib.hid M0
  have hv0 := hv
  obtain ⟨oa, oc, rfl, hoc⟩ := hv.form
  clear hv M0
  have hv := hv0
  clear hv0
  go_enter Try.func66, Try.ntmps66
  go_wp2_with (fail)
  have K1 := md_all HM0.out.drew
  generalize (w.alloc (.cells #[.int .i64 x.pos, .string x.text] 41)).alloc (.cells #[.int .i64 0, .string ⟨#[]⟩] 41) = w2 at *
  refine wp_region_held_drew (S := fun W => W.cell? ⟨w.heap.size, 0, none⟩ = some (.int .i64 x.pos) ∧ W.cell? ⟨w.heap.size, 1, none⟩ = some (.string x.text) ∧ Md w W x) (by kernel_rfl) K1 (fun hHeld => ?_)
  refine take_yes (i := 0) (oi := { dst := some 12, op := Op.fieldAddr 41 (Operand.tmp 2) 0, type := 0, pos := "l09_pieces.go:104", after := #[], guard := none }) (v := .pointer (some ⟨w.heap.size, 0, none⟩)) rfl (by kernel_rfl) (by kernel_rfl) (by kernel_rfl) (fun _ _ _ h => h) (by rfl) (fun w hSw => by (try dsimp only at hSw); go_simp) (by assumption) ?_
  try simp only [Act.put, List.setIfInBounds_toArray, List.set_cons_zero, List.set_cons_succ]
  refine take_yes (i := 1) (oi := { dst := some 13, op := Op.load 3 (Operand.tmp 12), type := 3, pos := "l09_pieces.go:104", after := #[{ on := 0, ground := Ground.data }], guard := none }) (v := .int .i64 x.pos) rfl (by kernel_rfl) (by kernel_rfl) (by kernel_rfl) (fun _ _ _ h => h) (by rfl) (fun w hSw => by (try dsimp only at hSw); go_simp) (by assumption) ?_
  try simp only [Act.put, List.setIfInBounds_toArray, List.set_cons_zero, List.set_cons_succ]
  refine take_yes (i := 2) (oi := { dst := some 14, op := Op.load 41 (Operand.tmp 2), type := 41, pos := "l09_pieces.go:104", after := #[], guard := none }) (v := .agg #[.int .i64 x.pos, .string x.text]) rfl (by kernel_rfl) (by kernel_rfl) (by kernel_rfl) (fun _ _ _ h => h) (by rfl) (fun w hSw => by (try dsimp only at hSw); go_simp) (by assumption) ?_
  try simp only [Act.put, List.setIfInBounds_toArray, List.set_cons_zero, List.set_cons_succ]
  refine wpAnyH_ready (rs := [3]) (by kernel_rfl) (by simp) ?_
  refine AllReadyH.cons (o := { dst := some 15, op := Op.call { callee := Callee.value (Operand.func 51), args := #[Operand.tmp 14], argTypes := #[41] }, type := 3, pos := "l09_pieces.go:104", after := #[{ on := 2, ground := Ground.data }], guard := none }) rfl (fun K hK => ?_) AllReadyH.nil
  go_simp
  with_reducible refine (cE _).mono ?_
  rintro e w3 ⟨rfl, hb3⟩
  have K3 := md_all (hHeld.2.2.kept hb3)
  refine hK.out _ _ K3 (fun hHeldN => ?_)
  clear hK K hHeld
  have hHeld := hHeldN
  clear hHeldN
  try simp only [Act.put, List.setIfInBounds_toArray, List.set_cons_zero, List.set_cons_succ]
  refine take_yes (i := 4) (oi := { dst := some 5, op := Op.assign (Operand.tmp 13), type := 3, pos := "l09_pieces.go:104", after := #[{ on := 1, ground := Ground.data }, { on := 3, ground := Ground.chain }, { on := 0, ground := Ground.phase }, { on := 1, ground := Ground.phase }, { on := 2, ground := Ground.textOnly Departure.lateStores }, { on := 3, ground := Ground.textOnly Departure.lateStoresUnsure }], guard := none }) (v := .int .i64 x.pos) rfl (by kernel_rfl) (by kernel_rfl) (by kernel_rfl) (fun _ _ _ h => h) (by rfl) (fun w hSw => by (try dsimp only at hSw); go_simp) (by assumption) ?_
  try simp only [Act.put, List.setIfInBounds_toArray, List.set_cons_zero, List.set_cons_succ]
  refine take_yes (i := 5) (oi := { dst := some 6, op := Op.assign (Operand.tmp 15), type := 3, pos := "l09_pieces.go:104", after := #[{ on := 3, ground := Ground.data }, { on := 4, ground := Ground.chain }, { on := 0, ground := Ground.phase }, { on := 1, ground := Ground.phase }, { on := 2, ground := Ground.phase }, { on := 3, ground := Ground.phase }, { on := 4, ground := Ground.phase }], guard := none }) (v := .int .i64 x.fin) rfl (by kernel_rfl) (by kernel_rfl) (by kernel_rfl) (fun _ _ _ h => h) (by rfl) (fun w hSw => by (try dsimp only at hSw); go_simp) (by assumption) ?_
  try simp only [Act.put, List.setIfInBounds_toArray, List.set_cons_zero, List.set_cons_succ]
  refine wpAnyH_done (by kernel_rfl) ?_ _
  clear hHeld
  have hM3 := Lib.hid K3.2.2
  clear K1 K3 hb3 HM0
  by_cases h0 : 0 < old.length
  · have hne : ¬ old = [] := fun e => by rw [e] at h0; simp at h0
    obtain ⟨m, hmm⟩ : ∃ m, old.length - 1 = m := ⟨_, rfl⟩
    have hml : m < old.length := by omega
    have hjf : en = max x.fin old[m].fin := by
      rw [jf, List.getLast?_eq_getElem?, hmm, List.getElem?_eq_getElem hml]
    have hjp : st = min x.pos old[0].pos := by
      rw [jp]
      cases old with
      | nil => exact absurd rfl hne
      | cons y0 r => rfl
    obtain ⟨b, off, hoa, hb, k0, -, -⟩ := pc_at (P := Try.prog) ((hv.rd).below hM3.out.below) 0 h0
    obtain ⟨b', off', hoa', -, k1, k2, -⟩ := pc_at (P := Try.prog) ((hv.rd).below hM3.out.below) m hml
    subst hoa
    injection hoa' with hoa'
    injection hoa' with hoa1 hoa2
    subst hoa1 hoa2
    rw [Nat.zero_mul, Nat.add_zero] at k0
    have hzz := hall _ (List.getElem_mem hml)
    have hzs := sumP_mem (List.getElem_mem hml)
    generalize old[0].pos = p0 at *
    generalize old[m] = z at *
    have cZ := fun W => impl_end z W
    rw [show IntKind.i64.wrap z.fin = z.fin from IntWalk.i64_in _ (by unfold Pc.fin; omega)] at cZ
    have hmin : min x.pos p0 = st := hjp.symm
    have hmax : max x.fin z.fin = en := hjf.symm
    generalize z.fin = zf at *
    have e4 : IntKind.i64.wrap ((old.length : Int) - 1) = (m : Int) := by rw [IntWalk.i64_in _ (by omega)]; omega
    have q0 : (0 : Int) < (old.length : Int) := by omega
    have qm : (m : Int) < (old.length : Int) ∧ (0 : Int) ≤ (m : Int) := by omega
    have K3 : w3.drew.cell? ⟨b, off, none⟩ = some (.int .i64 p0) ∧ w3.drew.cell? ⟨b, off + m * 2, none⟩ = some (.int .i64 z.pos) ∧ w3.drew.cell? ⟨b, off + m * 2 + 1, none⟩ = some (.string z.text) ∧ Md w w3.drew x := ⟨k0, k1, k2, hM3.out.drew⟩
    clear hjf hjp jp jf k0 k1 k2 hM3 hall hzz hzs
    go_wp2_with (fail)
    refine wp_region_held_drew (S := fun W => W.cell? ⟨b, off, none⟩ = some (.int .i64 p0) ∧ W.cell? ⟨b, off + m * 2, none⟩ = some (.int .i64 z.pos) ∧ W.cell? ⟨b, off + m * 2 + 1, none⟩ = some (.string z.text) ∧ Md w W x) (by kernel_rfl) K3 (fun hHeld => ?_)
    refine take_yes (i := 0) (oi := { dst := some 19, op := Op.move (Operand.tmp 5), type := 3, pos := "l09_pieces.go:106", after := #[], guard := none }) (v := .int .i64 x.pos) rfl (by kernel_rfl) (by kernel_rfl) (by kernel_rfl) (fun _ _ _ h => h) (by rfl) (fun w hSw => by (try dsimp only at hSw); go_simp) (by assumption) ?_
    try simp only [Act.put, List.setIfInBounds_toArray, List.set_cons_zero, List.set_cons_succ]
    refine take_yes (i := 1) (oi := { dst := some 20, op := Op.move (Operand.tmp 1), type := 24, pos := "l09_pieces.go:106", after := #[], guard := none }) (v := .slice (some ⟨b, off, none⟩) old.length oc) rfl (by kernel_rfl) (by kernel_rfl) (by kernel_rfl) (fun _ _ _ h => h) (by rfl) (fun w hSw => by (try dsimp only at hSw); go_simp) (by assumption) ?_
    try simp only [Act.put, List.setIfInBounds_toArray, List.set_cons_zero, List.set_cons_succ]
    refine take_yes (i := 2) (oi := { dst := some 21, op := Op.indexAddr 24 (Operand.tmp 20) (Operand.const (Value.int IntKind.i64 0)), type := 0, pos := "l09_pieces.go:106", after := #[{ on := 1, ground := Ground.data }], guard := none }) (v := .pointer (some ⟨b, off, none⟩)) rfl (by kernel_rfl) (by kernel_rfl) (by kernel_rfl) (fun _ _ _ h => h) (by rfl) (fun w hSw => by (try dsimp only at hSw); go_simp) (by assumption) ?_
    try simp only [Act.put, List.setIfInBounds_toArray, List.set_cons_zero, List.set_cons_succ]
    refine take_yes (i := 3) (oi := { dst := some 22, op := Op.fieldAddr 41 (Operand.tmp 21) 0, type := 0, pos := "l09_pieces.go:106", after := #[{ on := 2, ground := Ground.data }], guard := none }) (v := .pointer (some ⟨b, off, none⟩)) rfl (by kernel_rfl) (by kernel_rfl) (by kernel_rfl) (fun _ _ _ h => h) (by rfl) (fun w hSw => by (try dsimp only at hSw); go_simp) (by assumption) ?_
    try simp only [Act.put, List.setIfInBounds_toArray, List.set_cons_zero, List.set_cons_succ]
    refine take_yes (i := 4) (oi := { dst := some 23, op := Op.load 3 (Operand.tmp 22), type := 3, pos := "l09_pieces.go:106", after := #[{ on := 3, ground := Ground.data }], guard := none }) (v := .int .i64 p0) rfl (by kernel_rfl) (by kernel_rfl) (by kernel_rfl) (fun _ _ _ h => h) (by rfl) (fun w hSw => by (try dsimp only at hSw); go_simp) (by assumption) ?_
    try simp only [Act.put, List.setIfInBounds_toArray, List.set_cons_zero, List.set_cons_succ]
    refine take_yes (i := 5) (oi := { dst := some 24, op := Op.call { callee := Callee.builtin Builtin.min, args := #[Operand.tmp 19, Operand.tmp 23], argTypes := #[3, 3] }, type := 3, pos := "l09_pieces.go:106", after := #[{ on := 0, ground := Ground.data }, { on := 4, ground := Ground.data }], guard := none }) (v := .int .i64 st) rfl (by kernel_rfl) (by kernel_rfl) (by kernel_rfl) (fun _ _ _ h => h) (by rfl) (fun w hSw => by (try dsimp only at hSw); go_simp) (by assumption) ?_
    try simp only [Act.put, List.setIfInBounds_toArray, List.set_cons_zero, List.set_cons_succ]
    refine take_yes (i := 6) (oi := { dst := some 25, op := Op.move (Operand.tmp 6), type := 3, pos := "l09_pieces.go:106", after := #[], guard := none }) (v := .int .i64 x.fin) rfl (by kernel_rfl) (by kernel_rfl) (by kernel_rfl) (fun _ _ _ h => h) (by rfl) (fun w hSw => by (try dsimp only at hSw); go_simp) (by assumption) ?_
    try simp only [Act.put, List.setIfInBounds_toArray, List.set_cons_zero, List.set_cons_succ]
    refine take_yes (i := 7) (oi := { dst := some 26, op := Op.move (Operand.tmp 1), type := 24, pos := "l09_pieces.go:106", after := #[], guard := none }) (v := .slice (some ⟨b, off, none⟩) old.length oc) rfl (by kernel_rfl) (by kernel_rfl) (by kernel_rfl) (fun _ _ _ h => h) (by rfl) (fun w hSw => by (try dsimp only at hSw); go_simp) (by assumption) ?_
    try simp only [Act.put, List.setIfInBounds_toArray, List.set_cons_zero, List.set_cons_succ]
    refine take_yes (i := 8) (oi := { dst := some 27, op := Op.move (Operand.tmp 1), type := 24, pos := "l09_pieces.go:106", after := #[], guard := none }) (v := .slice (some ⟨b, off, none⟩) old.length oc) rfl (by kernel_rfl) (by kernel_rfl) (by kernel_rfl) (fun _ _ _ h => h) (by rfl) (fun w hSw => by (try dsimp only at hSw); go_simp) (by assumption) ?_
    try simp only [Act.put, List.setIfInBounds_toArray, List.set_cons_zero, List.set_cons_succ]
    refine take_yes (i := 9) (oi := { dst := some 28, op := Op.call { callee := Callee.builtin Builtin.len, args := #[Operand.tmp 27], argTypes := #[24] }, type := 3, pos := "l09_pieces.go:106", after := #[{ on := 8, ground := Ground.data }], guard := none }) (v := .int .i64 (old.length : Int)) rfl (by kernel_rfl) (by kernel_rfl) (by kernel_rfl) (fun _ _ _ h => h) (by rfl) (fun w hSw => by (try dsimp only at hSw); go_simp) (by assumption) ?_
    try simp only [Act.put, List.setIfInBounds_toArray, List.set_cons_zero, List.set_cons_succ]
    refine take_yes (i := 10) (oi := { dst := some 29, op := Op.binOp BinOp.sub 3 (Operand.tmp 28) (Operand.const (Value.int IntKind.i64 1)) 3, type := 3, pos := "l09_pieces.go:106", after := #[{ on := 9, ground := Ground.data }], guard := none }) (v := .int .i64 (m : Int)) rfl (by kernel_rfl) (by kernel_rfl) (by kernel_rfl) (fun _ _ _ h => h) (by rfl) (fun w hSw => by (try dsimp only at hSw); go_simp) (by assumption) ?_
    try simp only [Act.put, List.setIfInBounds_toArray, List.set_cons_zero, List.set_cons_succ]
    refine take_yes (i := 11) (oi := { dst := some 30, op := Op.indexAddr 24 (Operand.tmp 26) (Operand.tmp 29), type := 0, pos := "l09_pieces.go:106", after := #[{ on := 7, ground := Ground.data }, { on := 10, ground := Ground.data }], guard := none }) (v := .pointer (some ⟨b, off + m * 2, none⟩)) rfl (by kernel_rfl) (by kernel_rfl) (by kernel_rfl) (fun _ _ _ h => h) (by rfl) (fun w hSw => by (try dsimp only at hSw); go_simp) (by assumption) ?_
    try simp only [Act.put, List.setIfInBounds_toArray, List.set_cons_zero, List.set_cons_succ]
    refine take_yes (i := 12) (oi := { dst := some 31, op := Op.load 41 (Operand.tmp 30), type := 41, pos := "l09_pieces.go:106", after := #[{ on := 11, ground := Ground.data }], guard := none }) (v := .agg #[.int .i64 z.pos, .string z.text]) rfl (by kernel_rfl) (by kernel_rfl) (by kernel_rfl) (fun _ _ _ h => h) (by rfl) (fun w hSw => by (try dsimp only at hSw); go_simp) (by assumption) ?_
    try simp only [Act.put, List.setIfInBounds_toArray, List.set_cons_zero, List.set_cons_succ]
    refine wpAnyH_ready (rs := [13]) (by kernel_rfl) (by simp) ?_
    refine AllReadyH.cons (o := { dst := some 32, op := Op.call { callee := Callee.value (Operand.func 51), args := #[Operand.tmp 31], argTypes := #[41] }, type := 3, pos := "l09_pieces.go:106", after := #[{ on := 12, ground := Ground.data }], guard := none }) rfl (fun K hK => ?_) AllReadyH.nil
    go_simp
    with_reducible refine (cZ _).mono ?_
    rintro e w4 ⟨rfl, hb4⟩
    have K4 := md_keep hHeld hb4
    refine hK.out _ _ K4 (fun hHeldN => ?_)
    clear hK K hHeld
    have hHeld := hHeldN
    clear hHeldN
    try simp only [Act.put, List.setIfInBounds_toArray, List.set_cons_zero, List.set_cons_succ]
    refine take_yes (i := 14) (oi := { dst := some 33, op := Op.call { callee := Callee.builtin Builtin.max, args := #[Operand.tmp 25, Operand.tmp 32], argTypes := #[3, 3] }, type := 3, pos := "l09_pieces.go:106", after := #[{ on := 6, ground := Ground.data }, { on := 13, ground := Ground.data }], guard := none }) (v := .int .i64 en) rfl (by kernel_rfl) (by kernel_rfl) (by kernel_rfl) (fun _ _ _ h => h) (by rfl) (fun w hSw => by (try dsimp only at hSw); go_simp) (by assumption) ?_
    try simp only [Act.put, List.setIfInBounds_toArray, List.set_cons_zero, List.set_cons_succ]
    refine take_yes (i := 15) (oi := { dst := some 5, op := Op.assign (Operand.tmp 24), type := 3, pos := "l09_pieces.go:106", after := #[{ on := 5, ground := Ground.data }, { on := 13, ground := Ground.chain }, { on := 0, ground := Ground.phase }, { on := 1, ground := Ground.phase }, { on := 2, ground := Ground.phase }, { on := 3, ground := Ground.phase }, { on := 4, ground := Ground.phase }, { on := 5, ground := Ground.phase }, { on := 6, ground := Ground.textOnly Departure.lateStores }, { on := 7, ground := Ground.textOnly Departure.lateStores }, { on := 8, ground := Ground.textOnly Departure.lateStores }, { on := 9, ground := Ground.textOnly Departure.lateStoresUnsure }, { on := 10, ground := Ground.textOnly Departure.lateStores }, { on := 11, ground := Ground.textOnly Departure.lateStores }, { on := 12, ground := Ground.textOnly Departure.lateStores }, { on := 13, ground := Ground.textOnly Departure.lateStoresUnsure }, { on := 14, ground := Ground.textOnly Departure.lateStoresUnsure }], guard := none }) (v := .int .i64 st) rfl (by kernel_rfl) (by kernel_rfl) (by kernel_rfl) (fun _ _ _ h => h) (by rfl) (fun w hSw => by (try dsimp only at hSw); go_simp) (by assumption) ?_
    try simp only [Act.put, List.setIfInBounds_toArray, List.set_cons_zero, List.set_cons_succ]
    refine take_yes (i := 16) (oi := { dst := some 6, op := Op.assign (Operand.tmp 33), type := 3, pos := "l09_pieces.go:106", after := #[{ on := 14, ground := Ground.data }, { on := 15, ground := Ground.chain }, { on := 0, ground := Ground.phase }, { on := 1, ground := Ground.phase }, { on := 2, ground := Ground.phase }, { on := 3, ground := Ground.phase }, { on := 4, ground := Ground.phase }, { on := 5, ground := Ground.phase }, { on := 6, ground := Ground.phase }, { on := 7, ground := Ground.phase }, { on := 8, ground := Ground.phase }, { on := 9, ground := Ground.phase }, { on := 10, ground := Ground.phase }, { on := 11, ground := Ground.phase }, { on := 12, ground := Ground.phase }, { on := 13, ground := Ground.phase }, { on := 14, ground := Ground.phase }, { on := 15, ground := Ground.phase }], guard := none }) (v := .int .i64 en) rfl (by kernel_rfl) (by kernel_rfl) (by kernel_rfl) (fun _ _ _ h => h) (by rfl) (fun w hSw => by (try dsimp only at hSw); go_simp) (by assumption) ?_
    try simp only [Act.put, List.setIfInBounds_toArray, List.set_cons_zero, List.set_cons_succ]
    refine wpAnyH_done (by kernel_rfl) ?_ _
    clear hHeld
    have hM := Lib.hid K4.2.2.2
    clear K3 K4 hb4 hmin hmax e4
    have hmk := emake byteK 22 Try.underlying22 N (by omega) w4
    have hM6 := hM.out.kept (below_new w4 (.cells (byteK.flat (List.replicate N byteK.zero)).toArray byteK.t))
    have hO6 : OwnE byteK (w4.alloc (.cells (byteK.flat (List.replicate N byteK.zero)).toArray byteK.t)) w4.heap.size (w4.heap.size + 1) (.slice (some ⟨w4.heap.size, 0, none⟩) N N) (List.replicate N byteK.zero) := by
      have := OwnE.of_cel (K := byteK) (xs := List.replicate N byteK.zero) (Cel.new w4 byteK.t _) (Nat.le_refl _) (Nat.lt_succ_self _) (by rw [List.length_replicate]; unfold maxLen; omega)
      rwa [List.length_replicate] at this
    have g5 := md_far hM.out
    have H6 := Lib.hid (And.intro hM6 hO6)
    clear hM6 hO6 hM
    go_upto_region 5 with (fail)
    clear hmk
    generalize w4.alloc (.cells (byteK.flat (List.replicate N byteK.zero)).toArray byteK.t) = w6 at *
    generalize w4.heap.size = gb at *
    obtain ⟨a0, a1⟩ := cel2 H6.out.1.box
    have hb7 := below_pc w6 x
    have hP7 : OwnP (w6.alloc (.cells #[.int .i64 x.pos, .string x.text] 41)) (gb + 1) (w6.alloc (.cells #[.int .i64 x.pos, .string x.text] 41)).heap.size (.slice (some ⟨w6.heap.size, 0, none⟩) 1 1) [x] :=
      OwnE.of_cel (K := pcK) (xs := [x]) (Cel.new w6 41 #[.int .i64 x.pos, .string x.text]) (by have := H6.out.2.lt; omega) (by simp) (by simp [maxLen])
    have hlt7 : gb + 1 ≤ (w6.alloc (.cells #[.int .i64 x.pos, .string x.text] 41)).heap.size := by have := H6.out.2.lt; simp; omega
    have hx7 := (hv.rd).below ((H6.out.1.kept hb7).below)
    have H7 := Lib.hid (And.intro (H6.out.1.kept hb7) (H6.out.2.keep hb7 (by have := H6.out.2.lt; omega)))
    clear H6 hb7
    obtain ⟨pl, hpl⟩ : ∃ pl, x :: old = pl := ⟨_, rfl⟩
    obtain ⟨n, hn⟩ : ∃ n, (x :: old).length = n := ⟨_, rfl⟩
    have HPL := Lib.hid (And.intro hpl hn)
    clear hpl hn
    go_wp2_with (at_builtin; refine wpList_append_els pcK rfl _ _ 24 24 rfl uPc uPc (gb + 1) (.slice (some ⟨w6.heap.size, 0, none⟩) 1 1) _ [x] (old) rfl rfl hP7 hlt7 hx7 (by simp <;> omega) ?_; intro v9 w9 hown hgrow _; obtain ⟨pa, pc, hfe, -⟩ := OwnE.form hown; have hlen9 : ([x] ++ (old)).length = n := HPL.out.2; rw [hlen9] at hfe; subst hfe; have hown2 : OwnP w9 (gb + 1) w9.heap.size (.slice pa n pc) pl := HPL.out.1 ▸ hown; have hrow : ∀ k, (Value.slice (some ⟨w6.heap.size, 0, none⟩) 1 1).ownBlock = some k → gb + 1 ≤ k := (fun k hk => (OwnE.block hP7 k hk).1); have hM9 := H7.out.1.grown hgrow (fun k hk => by have := hrow k hk; omega); have hO9 := H7.out.2.grown hgrow (by have := H7.out.2.lt; omega) (fun k hk e => by have := (OwnE.block H7.out.2 k hk).2; have := hrow k e.symm; omega); have H9 := Lib.hid (⟨hM9, hO9, hown2, g5⟩ : Ml w w9 x gb N (List.replicate N 0) (.slice pa n pc) pl); clear hown hown2 hgrow hM9 hO9 hrow hP7 hlt7 hx7 H7 hlen9)
    have hn : pl.length = n := by rw [← HPL.out.1]; exact HPL.out.2
    have hn1 : n ≤ 1001 := by rw [← HPL.out.2]; simp <;> omega
    have HYp := Lib.hid (show ∀ y ∈ pl, (y.pos - (st)).toNat + y.text.size ≤ N ∧ st ≤ y.pos ∧ y.text.size ≠ 0 ∧ 0 ≤ y.pos ∧ y.pos ≤ 4294967296 ∧ y.text.size ≤ 1000000 from HPL.out.1 ▸ HY.out)
    clear a0 a1
    go_wp2_with (fail)
    go_loopw [43] (fun i wr => ∃ k : Nat, k ≤ n ∧ i = .int .i64 k ∧ Ml w wr x gb N (laidP (st) (List.replicate N 0) (pl.take k)) (.slice pa n pc) pl) (fun i _ => n - (intOf i).toNat)
    case atStart => exact ⟨0, by omega, rfl, H9.out⟩
    case round =>
      clear H9
      obtain ⟨k, hk, rfl, hL⟩ := hrel
      by_cases hlt : k < n
      · have q : (k : Int) < (n : Int) := by omega
        have q2 : (0 : Int) ≤ (k : Int) := by omega
        have hlt2 : k < pl.length := by rw [hn]; exact hlt
        obtain ⟨b9, off9, ha, hb, k0, k1, -⟩ := pc_at (P := Try.prog) hL.parts.rd k hlt2
        subst ha
        have hyb := HYp.out _ (List.getElem_mem hlt2)
        have hsn := laidP_snoc (st) (List.replicate N 0) pl k hlt2
        have hlen := laidP_len (st) (List.replicate N 0) pl k (fun y hy => by have := HYp.out y hy; rw [List.length_replicate]; omega)
        rw [List.length_replicate] at hlen
        generalize pl[k] = y at *
        generalize laidP (st) (List.replicate N 0) (pl.take k) = buf at *
        obtain ⟨f, hf⟩ : ∃ f, (y.pos - (st)).toNat = f := ⟨_, rfl⟩
        obtain ⟨to, hto⟩ : ∃ to, f + y.text.size = to := ⟨_, rfl⟩
        rw [hf] at hsn
        have HSN := Lib.hid hsn
        have e2 : IntKind.i64.wrap (y.pos - (st)) = (f : Int) := by rw [IntWalk.i64_in _ (by omega)]; omega
        have e3 : IntKind.i64.wrap (y.fin - (st)) = (to : Int) := by unfold Pc.fin; rw [IntWalk.i64_in _ (by omega)]; omega
        have cY := fun W => impl_end y W
        rw [show IntKind.i64.wrap y.fin = y.fin from IntWalk.i64_in _ (by unfold Pc.fin; omega)] at cY
        have hcut := fun W => byte_cut (gb := gb) N f y.text.size (by omega) (by omega) W
        rw [hto] at hcut
        have K7 := Lib.hid (ml_all (hL.kept (below_pc wr y)) (Cel.new wr 41 #[.int .i64 y.pos, .string y.text]))
        have hto2 : f + y.text.size ≤ N := by omega
        have hyne : y.text.size ≠ 0 := hyb.2.2.1
        clear hL hsn hyb
        go_upto_region 8 with (fail)
        generalize wr.alloc (.cells #[.int .i64 y.pos, .string y.text] 41) = w7 at *
        generalize wr.heap.size = gy at *
        clear k0 k1
        have K7d := ml_all K7.out.2.2.1.drew (show Cel w7.drew gy 41 #[.int .i64 y.pos, .string y.text] from K7.out.2.2.2)
        generalize y.fin = yf at *
        refine wp_region_held_drew (S := fun W => W.cell? ⟨gy, 0, none⟩ = some (.int .i64 y.pos) ∧ W.cell? ⟨gy, 1, none⟩ = some (.string y.text) ∧ Ml w W x gb N buf (.slice (some ⟨b9, off9, none⟩) n pc) (pl) ∧ Cel W gy 41 #[.int .i64 y.pos, .string y.text]) (by kernel_rfl) K7d (fun hHeld => ?_)
        refine take_yes (i := 0) (oi := { dst := some 47, op := Op.fieldAddr 41 (Operand.tmp 9) 0, type := 0, pos := "l09_pieces.go:111", after := #[], guard := none }) (v := .pointer (some ⟨gy, 0, none⟩)) rfl (by kernel_rfl) (by kernel_rfl) (by kernel_rfl) (fun _ _ _ h => h) (by rfl) (fun w hSw => by (try dsimp only at hSw); go_simp) (by assumption) ?_
        try simp only [Act.put, List.setIfInBounds_toArray, List.set_cons_zero, List.set_cons_succ]
        refine take_yes (i := 1) (oi := { dst := some 48, op := Op.load 3 (Operand.tmp 47), type := 3, pos := "l09_pieces.go:111", after := #[{ on := 0, ground := Ground.data }], guard := none }) (v := .int .i64 y.pos) rfl (by kernel_rfl) (by kernel_rfl) (by kernel_rfl) (fun _ _ _ h => h) (by rfl) (fun w hSw => by (try dsimp only at hSw); go_simp) (by assumption) ?_
        try simp only [Act.put, List.setIfInBounds_toArray, List.set_cons_zero, List.set_cons_succ]
        refine take_yes (i := 2) (oi := { dst := some 49, op := Op.move (Operand.tmp 5), type := 3, pos := "l09_pieces.go:111", after := #[], guard := none }) (v := .int .i64 (st)) rfl (by kernel_rfl) (by kernel_rfl) (by kernel_rfl) (fun _ _ _ h => h) (by rfl) (fun w hSw => by (try dsimp only at hSw); go_simp) (by assumption) ?_
        try simp only [Act.put, List.setIfInBounds_toArray, List.set_cons_zero, List.set_cons_succ]
        refine take_yes (i := 3) (oi := { dst := some 50, op := Op.binOp BinOp.sub 3 (Operand.tmp 48) (Operand.tmp 49) 3, type := 3, pos := "l09_pieces.go:111", after := #[{ on := 1, ground := Ground.data }, { on := 2, ground := Ground.data }], guard := none }) (v := .int .i64 (f : Int)) rfl (by kernel_rfl) (by kernel_rfl) (by kernel_rfl) (fun _ _ _ h => h) (by rfl) (fun w hSw => by (try dsimp only at hSw); go_simp) (by assumption) ?_
        try simp only [Act.put, List.setIfInBounds_toArray, List.set_cons_zero, List.set_cons_succ]
        refine take_yes (i := 4) (oi := { dst := some 51, op := Op.load 41 (Operand.tmp 9), type := 41, pos := "l09_pieces.go:111", after := #[], guard := none }) (v := .agg #[.int .i64 y.pos, .string y.text]) rfl (by kernel_rfl) (by kernel_rfl) (by kernel_rfl) (fun _ _ _ h => h) (by rfl) (fun w hSw => by (try dsimp only at hSw); go_simp) (by assumption) ?_
        try simp only [Act.put, List.setIfInBounds_toArray, List.set_cons_zero, List.set_cons_succ]
        refine take_yes (i := 6) (oi := { dst := some 53, op := Op.move (Operand.tmp 5), type := 3, pos := "l09_pieces.go:111", after := #[{ on := 8, ground := Ground.gcOnly Departure.lateStores }], guard := none }) (v := .int .i64 (st)) rfl (by kernel_rfl) (by kernel_rfl) (by kernel_rfl) (fun _ _ _ h => h) (by rfl) (fun w hSw => by (try dsimp only at hSw); go_simp) (by assumption) ?_
        try simp only [Act.put, List.setIfInBounds_toArray, List.set_cons_zero, List.set_cons_succ]
        refine wpAnyH_ready (rs := [5]) (by kernel_rfl) (by simp) ?_
        refine AllReadyH.cons (o := { dst := some 52, op := Op.call { callee := Callee.value (Operand.func 51), args := #[Operand.tmp 51], argTypes := #[41] }, type := 3, pos := "l09_pieces.go:111", after := #[{ on := 4, ground := Ground.data }], guard := none }) rfl (fun K hK => ?_) AllReadyH.nil
        go_simp
        with_reducible refine (cY _).mono ?_
        rintro e w8 ⟨rfl, hb8⟩
        have K8 := ml_all (hHeld.2.2.1.kept hb8) (hHeld.2.2.2.kept hb8)
        refine hK.out _ _ K8 (fun hHeldN => ?_)
        clear hK K hHeld
        have hHeld := hHeldN
        clear hHeldN
        try simp only [Act.put, List.setIfInBounds_toArray, List.set_cons_zero, List.set_cons_succ]
        refine take_yes (i := 7) (oi := { dst := some 54, op := Op.binOp BinOp.sub 3 (Operand.tmp 52) (Operand.tmp 53) 3, type := 3, pos := "l09_pieces.go:111", after := #[{ on := 5, ground := Ground.data }, { on := 6, ground := Ground.data }, { on := 8, ground := Ground.gcOnly Departure.lateStores }], guard := none }) (v := .int .i64 (to : Int)) rfl (by kernel_rfl) (by kernel_rfl) (by kernel_rfl) (fun _ _ _ h => h) (by rfl) (fun w hSw => by (try dsimp only at hSw); go_simp) (by assumption) ?_
        try simp only [Act.put, List.setIfInBounds_toArray, List.set_cons_zero, List.set_cons_succ]
        refine take_yes (i := 8) (oi := { dst := some 10, op := Op.assign (Operand.tmp 50), type := 3, pos := "l09_pieces.go:111", after := #[{ on := 3, ground := Ground.data }, { on := 5, ground := Ground.chain }, { on := 0, ground := Ground.phase }, { on := 1, ground := Ground.phase }, { on := 2, ground := Ground.phase }, { on := 3, ground := Ground.phase }, { on := 4, ground := Ground.textOnly Departure.lateStores }, { on := 5, ground := Ground.textOnly Departure.lateStoresUnsure }, { on := 6, ground := Ground.textOnly Departure.lateStores }, { on := 7, ground := Ground.textOnly Departure.lateStores }], guard := none }) (v := .int .i64 (f : Int)) rfl (by kernel_rfl) (by kernel_rfl) (by kernel_rfl) (fun _ _ _ h => h) (by rfl) (fun w hSw => by (try dsimp only at hSw); go_simp) (by assumption) ?_
        try simp only [Act.put, List.setIfInBounds_toArray, List.set_cons_zero, List.set_cons_succ]
        refine take_yes (i := 9) (oi := { dst := some 11, op := Op.assign (Operand.tmp 54), type := 3, pos := "l09_pieces.go:111", after := #[{ on := 7, ground := Ground.data }, { on := 8, ground := Ground.chain }, { on := 0, ground := Ground.phase }, { on := 1, ground := Ground.phase }, { on := 2, ground := Ground.phase }, { on := 3, ground := Ground.phase }, { on := 4, ground := Ground.phase }, { on := 5, ground := Ground.phase }, { on := 6, ground := Ground.phase }, { on := 7, ground := Ground.phase }, { on := 8, ground := Ground.phase }], guard := none }) (v := .int .i64 (to : Int)) rfl (by kernel_rfl) (by kernel_rfl) (by kernel_rfl) (fun _ _ _ h => h) (by rfl) (fun w hSw => by (try dsimp only at hSw); go_simp) (by assumption) ?_
        try simp only [Act.put, List.setIfInBounds_toArray, List.set_cons_zero, List.set_cons_succ]
        refine wpAnyH_done (by kernel_rfl) ?_ _
        clear hHeld
        have K9 := Lib.hid (And.intro K8.2.2.1.drew (show Cel w8.drew gy 41 #[.int .i64 y.pos, .string y.text] from K8.2.2.2))
        clear K7 K7d K8 hb8
        go_wp2_with (fail)
        refine wp_region_still_tail 7 (by kernel_rfl) (by kernel_rfl) ?_
        change wpStill _ _ w8.drew (fun a' => wpList _ _ _ _ a' w8.drew) _ _
        generalize w8.drew = w10 at *
        obtain ⟨-, y1⟩ := cel2 K9.out.2
        obtain ⟨W', hcp, hO11, hg11, hs11⟩ := byte_copy K9.out.1.buf 22 9 3 Try.underlying22 f y.text.size y.text (by omega)
        have HL11 := Lib.hid (K9.out.1.copied hO11 hg11 hs11)
        clear K9 hO11 hg11 hs11
        simp only [List.take_succ_cons, List.take_zero, List.drop_succ_cons, List.drop_zero]
        iterate 7 still_step
        refine wpStill_nil ?_
        go_wp2_with (refine wpList_copy_runI _ rfl _ _ 22 9 rfl _ _ rfl rfl hcp ?_)
        go_roundw
        case rel => exact ⟨k + 1, by omega, by go_num, by rw [HSN.out]; exact HL11.out⟩
        case measure => simp [intOf]; omega
      · obtain rfl : k = n := by omega
        have q : ¬ (k : Int) < (k : Int) := by omega
        have hall2 : pl.take k = x :: old := by rw [← hn, List.take_length]; exact HPL.out.1.symm
        rw [hall2] at hL
        have hcv := byte_conv hL.buf 22 9 Try.underlying22 Try.underlying9
        rw [HTX.out] at hcv
        obtain ⟨x0, x1, hz⟩ := hL.md.res
        obtain ⟨d0, d1⟩ := cel2 hz
        have j0 := hz.frozen 0
        have j1 := hz.frozen 1
        have hz2 : Cel ((wr.setCell ⟨w.heap.size + 1, 0, none⟩ (.int .i64 (st))).setCell ⟨w.heap.size + 1, 1, none⟩ (.string tx)) (w.heap.size + 1) 41 #[.int .i64 (st), .string tx] := by
          have := (hz.set 0 (.int .i64 (st))).set 1 (.string tx)
          simpa using this
        have HF := Lib.hid (And.intro hz2 ((hL.md.below.setCell (p := ⟨w.heap.size + 1, 0, none⟩) (by simp) (.int .i64 (st))).setCell (p := ⟨w.heap.size + 1, 1, none⟩) (by simp) (.string tx)))
        clear hz hz2 hL hall2
        go_wp2_with (fail)
        refine bodyPost_ret (pc_result HF.out.1 rfl _ rfl) rfl ⟨rfl, HF.out.2⟩
  · obtain rfl : old = [] := List.eq_nil_of_length_eq_zero (by omega)
    simp only [List.getLast?_nil] at jp jf
    subst jp jf
    have hM := hM3
    clear hM3 hall
    have hmk := emake byteK 22 Try.underlying22 N (by omega) w3
    have hM6 := hM.out.kept (below_new w3 (.cells (byteK.flat (List.replicate N byteK.zero)).toArray byteK.t))
    have hO6 : OwnE byteK (w3.alloc (.cells (byteK.flat (List.replicate N byteK.zero)).toArray byteK.t)) w3.heap.size (w3.heap.size + 1) (.slice (some ⟨w3.heap.size, 0, none⟩) N N) (List.replicate N byteK.zero) := by
      have := OwnE.of_cel (K := byteK) (xs := List.replicate N byteK.zero) (Cel.new w3 byteK.t _) (Nat.le_refl _) (Nat.lt_succ_self _) (by rw [List.length_replicate]; unfold maxLen; omega)
      rwa [List.length_replicate] at this
    have g5 := md_far hM.out
    have H6 := Lib.hid (And.intro hM6 hO6)
    clear hM6 hO6 hM
    go_upto_region 5 with (fail)
    clear hmk
    generalize w3.alloc (.cells (byteK.flat (List.replicate N byteK.zero)).toArray byteK.t) = w6 at *
    generalize w3.heap.size = gb at *
    obtain ⟨a0, a1⟩ := cel2 H6.out.1.box
    have hb7 := below_pc w6 x
    have hP7 : OwnP (w6.alloc (.cells #[.int .i64 x.pos, .string x.text] 41)) (gb + 1) (w6.alloc (.cells #[.int .i64 x.pos, .string x.text] 41)).heap.size (.slice (some ⟨w6.heap.size, 0, none⟩) 1 1) [x] :=
      OwnE.of_cel (K := pcK) (xs := [x]) (Cel.new w6 41 #[.int .i64 x.pos, .string x.text]) (by have := H6.out.2.lt; omega) (by simp) (by simp [maxLen])
    have hlt7 : gb + 1 ≤ (w6.alloc (.cells #[.int .i64 x.pos, .string x.text] 41)).heap.size := by have := H6.out.2.lt; simp; omega
    have hx7 := (hv.rd).below ((H6.out.1.kept hb7).below)
    have H7 := Lib.hid (And.intro (H6.out.1.kept hb7) (H6.out.2.keep hb7 (by have := H6.out.2.lt; omega)))
    clear H6 hb7
    obtain ⟨pl, hpl⟩ : ∃ pl, x :: [] = pl := ⟨_, rfl⟩
    obtain ⟨n, hn⟩ : ∃ n, (x :: []).length = n := ⟨_, rfl⟩
    have HPL := Lib.hid (And.intro hpl hn)
    clear hpl hn
    go_wp2_with (at_builtin; refine wpList_append_els pcK rfl _ _ 24 24 rfl uPc uPc (gb + 1) (.slice (some ⟨w6.heap.size, 0, none⟩) 1 1) _ [x] ([]) rfl rfl hP7 hlt7 hx7 (by simp <;> omega) ?_; intro v9 w9 hown hgrow _; obtain ⟨pa, pc, hfe, -⟩ := OwnE.form hown; have hlen9 : ([x] ++ ([])).length = n := HPL.out.2; rw [hlen9] at hfe; subst hfe; have hown2 : OwnP w9 (gb + 1) w9.heap.size (.slice pa n pc) pl := HPL.out.1 ▸ hown; have hrow : ∀ k, (Value.slice (some ⟨w6.heap.size, 0, none⟩) 1 1).ownBlock = some k → gb + 1 ≤ k := (fun k hk => (OwnE.block hP7 k hk).1); have hM9 := H7.out.1.grown hgrow (fun k hk => by have := hrow k hk; omega); have hO9 := H7.out.2.grown hgrow (by have := H7.out.2.lt; omega) (fun k hk e => by have := (OwnE.block H7.out.2 k hk).2; have := hrow k e.symm; omega); have H9 := Lib.hid (⟨hM9, hO9, hown2, g5⟩ : Ml w w9 x gb N (List.replicate N 0) (.slice pa n pc) pl); clear hown hown2 hgrow hM9 hO9 hrow hP7 hlt7 hx7 H7 hlen9)
    have hn : pl.length = n := by rw [← HPL.out.1]; exact HPL.out.2
    have hn1 : n ≤ 1001 := by rw [← HPL.out.2]; simp <;> omega
    have HYp := Lib.hid (show ∀ y ∈ pl, (y.pos - (x.pos)).toNat + y.text.size ≤ N ∧ x.pos ≤ y.pos ∧ y.text.size ≠ 0 ∧ 0 ≤ y.pos ∧ y.pos ≤ 4294967296 ∧ y.text.size ≤ 1000000 from HPL.out.1 ▸ HY.out)
    clear a0 a1
    go_wp2_with (fail)
    go_loopw [43] (fun i wr => ∃ k : Nat, k ≤ n ∧ i = .int .i64 k ∧ Ml w wr x gb N (laidP (x.pos) (List.replicate N 0) (pl.take k)) (.slice pa n pc) pl) (fun i _ => n - (intOf i).toNat)
    case atStart => exact ⟨0, by omega, rfl, H9.out⟩
    case round =>
      clear H9
      obtain ⟨k, hk, rfl, hL⟩ := hrel
      by_cases hlt : k < n
      · have q : (k : Int) < (n : Int) := by omega
        have q2 : (0 : Int) ≤ (k : Int) := by omega
        have hlt2 : k < pl.length := by rw [hn]; exact hlt
        obtain ⟨b9, off9, ha, hb, k0, k1, -⟩ := pc_at (P := Try.prog) hL.parts.rd k hlt2
        subst ha
        have hyb := HYp.out _ (List.getElem_mem hlt2)
        have hsn := laidP_snoc (x.pos) (List.replicate N 0) pl k hlt2
        have hlen := laidP_len (x.pos) (List.replicate N 0) pl k (fun y hy => by have := HYp.out y hy; rw [List.length_replicate]; omega)
        rw [List.length_replicate] at hlen
        generalize pl[k] = y at *
        generalize laidP (x.pos) (List.replicate N 0) (pl.take k) = buf at *
        obtain ⟨f, hf⟩ : ∃ f, (y.pos - (x.pos)).toNat = f := ⟨_, rfl⟩
        obtain ⟨to, hto⟩ : ∃ to, f + y.text.size = to := ⟨_, rfl⟩
        rw [hf] at hsn
        have HSN := Lib.hid hsn
        have e2 : IntKind.i64.wrap (y.pos - (x.pos)) = (f : Int) := by rw [IntWalk.i64_in _ (by omega)]; omega
        have e3 : IntKind.i64.wrap (y.fin - (x.pos)) = (to : Int) := by unfold Pc.fin; rw [IntWalk.i64_in _ (by omega)]; omega
        have cY := fun W => impl_end y W
        rw [show IntKind.i64.wrap y.fin = y.fin from IntWalk.i64_in _ (by unfold Pc.fin; omega)] at cY
        have hcut := fun W => byte_cut (gb := gb) N f y.text.size (by omega) (by omega) W
        rw [hto] at hcut
        have K7 := Lib.hid (ml_all (hL.kept (below_pc wr y)) (Cel.new wr 41 #[.int .i64 y.pos, .string y.text]))
        have hto2 : f + y.text.size ≤ N := by omega
        have hyne : y.text.size ≠ 0 := hyb.2.2.1
        clear hL hsn hyb
        go_upto_region 8 with (fail)
        generalize wr.alloc (.cells #[.int .i64 y.pos, .string y.text] 41) = w7 at *
        generalize wr.heap.size = gy at *
        clear k0 k1
        have K7d := ml_all K7.out.2.2.1.drew (show Cel w7.drew gy 41 #[.int .i64 y.pos, .string y.text] from K7.out.2.2.2)
        generalize y.fin = yf at *
        refine wp_region_held_drew (S := fun W => W.cell? ⟨gy, 0, none⟩ = some (.int .i64 y.pos) ∧ W.cell? ⟨gy, 1, none⟩ = some (.string y.text) ∧ Ml w W x gb N buf (.slice (some ⟨b9, off9, none⟩) n pc) (pl) ∧ Cel W gy 41 #[.int .i64 y.pos, .string y.text]) (by kernel_rfl) K7d (fun hHeld => ?_)
        refine take_yes (i := 0) (oi := { dst := some 47, op := Op.fieldAddr 41 (Operand.tmp 9) 0, type := 0, pos := "l09_pieces.go:111", after := #[], guard := none }) (v := .pointer (some ⟨gy, 0, none⟩)) rfl (by kernel_rfl) (by kernel_rfl) (by kernel_rfl) (fun _ _ _ h => h) (by rfl) (fun w hSw => by (try dsimp only at hSw); go_simp) (by assumption) ?_
        try simp only [Act.put, List.setIfInBounds_toArray, List.set_cons_zero, List.set_cons_succ]
        refine take_yes (i := 1) (oi := { dst := some 48, op := Op.load 3 (Operand.tmp 47), type := 3, pos := "l09_pieces.go:111", after := #[{ on := 0, ground := Ground.data }], guard := none }) (v := .int .i64 y.pos) rfl (by kernel_rfl) (by kernel_rfl) (by kernel_rfl) (fun _ _ _ h => h) (by rfl) (fun w hSw => by (try dsimp only at hSw); go_simp) (by assumption) ?_
        try simp only [Act.put, List.setIfInBounds_toArray, List.set_cons_zero, List.set_cons_succ]
        refine take_yes (i := 2) (oi := { dst := some 49, op := Op.move (Operand.tmp 5), type := 3, pos := "l09_pieces.go:111", after := #[], guard := none }) (v := .int .i64 (x.pos)) rfl (by kernel_rfl) (by kernel_rfl) (by kernel_rfl) (fun _ _ _ h => h) (by rfl) (fun w hSw => by (try dsimp only at hSw); go_simp) (by assumption) ?_
        try simp only [Act.put, List.setIfInBounds_toArray, List.set_cons_zero, List.set_cons_succ]
        refine take_yes (i := 3) (oi := { dst := some 50, op := Op.binOp BinOp.sub 3 (Operand.tmp 48) (Operand.tmp 49) 3, type := 3, pos := "l09_pieces.go:111", after := #[{ on := 1, ground := Ground.data }, { on := 2, ground := Ground.data }], guard := none }) (v := .int .i64 (f : Int)) rfl (by kernel_rfl) (by kernel_rfl) (by kernel_rfl) (fun _ _ _ h => h) (by rfl) (fun w hSw => by (try dsimp only at hSw); go_simp) (by assumption) ?_
        try simp only [Act.put, List.setIfInBounds_toArray, List.set_cons_zero, List.set_cons_succ]
        refine take_yes (i := 4) (oi := { dst := some 51, op := Op.load 41 (Operand.tmp 9), type := 41, pos := "l09_pieces.go:111", after := #[], guard := none }) (v := .agg #[.int .i64 y.pos, .string y.text]) rfl (by kernel_rfl) (by kernel_rfl) (by kernel_rfl) (fun _ _ _ h => h) (by rfl) (fun w hSw => by (try dsimp only at hSw); go_simp) (by assumption) ?_
        try simp only [Act.put, List.setIfInBounds_toArray, List.set_cons_zero, List.set_cons_succ]
        refine take_yes (i := 6) (oi := { dst := some 53, op := Op.move (Operand.tmp 5), type := 3, pos := "l09_pieces.go:111", after := #[{ on := 8, ground := Ground.gcOnly Departure.lateStores }], guard := none }) (v := .int .i64 (x.pos)) rfl (by kernel_rfl) (by kernel_rfl) (by kernel_rfl) (fun _ _ _ h => h) (by rfl) (fun w hSw => by (try dsimp only at hSw); go_simp) (by assumption) ?_
        try simp only [Act.put, List.setIfInBounds_toArray, List.set_cons_zero, List.set_cons_succ]
        refine wpAnyH_ready (rs := [5]) (by kernel_rfl) (by simp) ?_
        refine AllReadyH.cons (o := { dst := some 52, op := Op.call { callee := Callee.value (Operand.func 51), args := #[Operand.tmp 51], argTypes := #[41] }, type := 3, pos := "l09_pieces.go:111", after := #[{ on := 4, ground := Ground.data }], guard := none }) rfl (fun K hK => ?_) AllReadyH.nil
        go_simp
        with_reducible refine (cY _).mono ?_
        rintro e w8 ⟨rfl, hb8⟩
        have K8 := ml_all (hHeld.2.2.1.kept hb8) (hHeld.2.2.2.kept hb8)
        refine hK.out _ _ K8 (fun hHeldN => ?_)
        clear hK K hHeld
        have hHeld := hHeldN
        clear hHeldN
        try simp only [Act.put, List.setIfInBounds_toArray, List.set_cons_zero, List.set_cons_succ]
        refine take_yes (i := 7) (oi := { dst := some 54, op := Op.binOp BinOp.sub 3 (Operand.tmp 52) (Operand.tmp 53) 3, type := 3, pos := "l09_pieces.go:111", after := #[{ on := 5, ground := Ground.data }, { on := 6, ground := Ground.data }, { on := 8, ground := Ground.gcOnly Departure.lateStores }], guard := none }) (v := .int .i64 (to : Int)) rfl (by kernel_rfl) (by kernel_rfl) (by kernel_rfl) (fun _ _ _ h => h) (by rfl) (fun w hSw => by (try dsimp only at hSw); go_simp) (by assumption) ?_
        try simp only [Act.put, List.setIfInBounds_toArray, List.set_cons_zero, List.set_cons_succ]
        refine take_yes (i := 8) (oi := { dst := some 10, op := Op.assign (Operand.tmp 50), type := 3, pos := "l09_pieces.go:111", after := #[{ on := 3, ground := Ground.data }, { on := 5, ground := Ground.chain }, { on := 0, ground := Ground.phase }, { on := 1, ground := Ground.phase }, { on := 2, ground := Ground.phase }, { on := 3, ground := Ground.phase }, { on := 4, ground := Ground.textOnly Departure.lateStores }, { on := 5, ground := Ground.textOnly Departure.lateStoresUnsure }, { on := 6, ground := Ground.textOnly Departure.lateStores }, { on := 7, ground := Ground.textOnly Departure.lateStores }], guard := none }) (v := .int .i64 (f : Int)) rfl (by kernel_rfl) (by kernel_rfl) (by kernel_rfl) (fun _ _ _ h => h) (by rfl) (fun w hSw => by (try dsimp only at hSw); go_simp) (by assumption) ?_
        try simp only [Act.put, List.setIfInBounds_toArray, List.set_cons_zero, List.set_cons_succ]
        refine take_yes (i := 9) (oi := { dst := some 11, op := Op.assign (Operand.tmp 54), type := 3, pos := "l09_pieces.go:111", after := #[{ on := 7, ground := Ground.data }, { on := 8, ground := Ground.chain }, { on := 0, ground := Ground.phase }, { on := 1, ground := Ground.phase }, { on := 2, ground := Ground.phase }, { on := 3, ground := Ground.phase }, { on := 4, ground := Ground.phase }, { on := 5, ground := Ground.phase }, { on := 6, ground := Ground.phase }, { on := 7, ground := Ground.phase }, { on := 8, ground := Ground.phase }], guard := none }) (v := .int .i64 (to : Int)) rfl (by kernel_rfl) (by kernel_rfl) (by kernel_rfl) (fun _ _ _ h => h) (by rfl) (fun w hSw => by (try dsimp only at hSw); go_simp) (by assumption) ?_
        try simp only [Act.put, List.setIfInBounds_toArray, List.set_cons_zero, List.set_cons_succ]
        refine wpAnyH_done (by kernel_rfl) ?_ _
        clear hHeld
        have K9 := Lib.hid (And.intro K8.2.2.1.drew (show Cel w8.drew gy 41 #[.int .i64 y.pos, .string y.text] from K8.2.2.2))
        clear K7 K7d K8 hb8
        go_wp2_with (fail)
        refine wp_region_still_tail 7 (by kernel_rfl) (by kernel_rfl) ?_
        change wpStill _ _ w8.drew (fun a' => wpList _ _ _ _ a' w8.drew) _ _
        generalize w8.drew = w10 at *
        obtain ⟨-, y1⟩ := cel2 K9.out.2
        obtain ⟨W', hcp, hO11, hg11, hs11⟩ := byte_copy K9.out.1.buf 22 9 3 Try.underlying22 f y.text.size y.text (by omega)
        have HL11 := Lib.hid (K9.out.1.copied hO11 hg11 hs11)
        clear K9 hO11 hg11 hs11
        simp only [List.take_succ_cons, List.take_zero, List.drop_succ_cons, List.drop_zero]
        iterate 7 still_step
        refine wpStill_nil ?_
        go_wp2_with (refine wpList_copy_runI _ rfl _ _ 22 9 rfl _ _ rfl rfl hcp ?_)
        go_roundw
        case rel => exact ⟨k + 1, by omega, by go_num, by rw [HSN.out]; exact HL11.out⟩
        case measure => simp [intOf]; omega
      · obtain rfl : k = n := by omega
        have q : ¬ (k : Int) < (k : Int) := by omega
        have hall2 : pl.take k = x :: [] := by rw [← hn, List.take_length]; exact HPL.out.1.symm
        rw [hall2] at hL
        have hcv := byte_conv hL.buf 22 9 Try.underlying22 Try.underlying9
        rw [HTX.out] at hcv
        obtain ⟨x0, x1, hz⟩ := hL.md.res
        obtain ⟨d0, d1⟩ := cel2 hz
        have j0 := hz.frozen 0
        have j1 := hz.frozen 1
        have hz2 : Cel ((wr.setCell ⟨w.heap.size + 1, 0, none⟩ (.int .i64 (x.pos))).setCell ⟨w.heap.size + 1, 1, none⟩ (.string tx)) (w.heap.size + 1) 41 #[.int .i64 (x.pos), .string tx] := by
          have := (hz.set 0 (.int .i64 (x.pos))).set 1 (.string tx)
          simpa using this
        have HF := Lib.hid (And.intro hz2 ((hL.md.below.setCell (p := ⟨w.heap.size + 1, 0, none⟩) (by simp) (.int .i64 (x.pos))).setCell (p := ⟨w.heap.size + 1, 1, none⟩) (by simp) (.string tx)))
        clear hz hz2 hL hall2
        go_wp2_with (fail)
        refine bodyPost_ret (pc_result HF.out.1 rfl _ rfl) rfl ⟨rfl, HF.out.2⟩
end Go.Proofs.Ytdajfnonehianaa
