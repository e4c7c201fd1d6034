import Derived.Test.YtkpajakangaekaaPcp
import Derived.Test.YtkpajakangaekaaPcs9
import Derived.Test.YtkpajakangaekaaPva
import Derived.Lib.MinMax
import Derived.Laws.ResultCell
namespace Go.Proofs.Ytkpajakangaekaa
open Go.RowKit

theorem cut_from (t : ByteArray) (a : Int) (h0 : 0 ≤ a) (h1 : a ≤ (t.size : Int)) (W : World) :
    (Instr.slice 9 (.string t) (some (.int .i64 a)) none none).run Try.prog W = .ok (.string (t.extract a.toNat t.size)) W := by
  have h3 : ((t.size : Nat) : Int) ≤ (t.size : Int) := Int.le_refl _
  simp [Instr.slice, run_underlying Try.underlying9, Instr.sliceBounds, Instr.sliceBound, asIntOf, h0, h1]
theorem cut_to (t : ByteArray) (a : Int) (h0 : 0 ≤ a) (h1 : a ≤ (t.size : Int)) (W : World) :
    (Instr.slice 9 (.string t) none (some (.int .i64 a)) none).run Try.prog W = .ok (.string (t.extract 0 a.toNat)) W := by
  have h3 : ((t.size : Nat) : Int) ≤ (t.size : Int) := Int.le_refl _
  simp [Instr.slice, run_underlying Try.underlying9, Instr.sliceBounds, Instr.sliceBound, asIntOf, h0, h1]
theorem cut_size (t : ByteArray) (a b : Nat) : (t.extract a b).size ≤ t.size := by
  simp only [ByteArray.size_extract]; omega

/-- A stream in a block of its own, and a second result. -/
theorem ps_result2 {W : World} {g : Nat} {r : Int} {t : ByteArray} {v : Value} (h : Cel W g 28 #[.int .i64 r, .string t, v]) {fn : Func} {p u : Tmp} (hr : fn.results = #[.cell p 28, .tmp u]) (tmps : Array Value) (hp : tmps.getD p undef = .pointer (some ⟨g, 0, none⟩)) :
    (results fn tmps).run Try.prog W = .ok (.tuple #[.agg #[.int .i64 r, .string t, v], tmps.getD u undef]) W := by
  rw [results_cell_tmp hr, hp]
  simp [asAddr, run_loadVar_row W g 28 28 _ (0, 0) _ h Try.underlying28 rfl (show _ = some 3 by kernel_rfl), Result.andThen]

structure Tk4 (w W : World) (r : Int) (t : ByteArray) (v : Value) : Prop where
  box : Cel W w.heap.size 28 #[.int .i64 r, .string t, v]
  res : ∃ x0 x1 x2, Cel W (w.heap.size + 1) 28 #[x0, x1, x2]
  below : Below w.heap.size w W
structure Tk5 (w W : World) (g7 : Nat) (r : Int) (t : ByteArray) (r1 : Int) (t1 : ByteArray) (v : Value) : Prop extends Tk4 w W r t v where
  new : Cel W g7 28 #[.int .i64 r1, .string t1, v]
  ne : w.heap.size + 2 ≤ g7
theorem Tk4.kept {w W W' : World} {r : Int} {t : ByteArray} {v : Value} (h : Tk4 w W r t v) (hb : Below W.heap.size W W') : Tk4 w W' r t v := by
  obtain ⟨x0, x1, x2, hz⟩ := h.res
  exact ⟨h.box.kept hb, ⟨x0, x1, x2, hz.kept hb⟩, Below.then_ h.below hb⟩
theorem Tk5.kept {w W W' : World} {g7 : Nat} {r r1 : Int} {t t1 : ByteArray} {v : Value} (h : Tk5 w W g7 r t r1 t1 v) (hb : Below W.heap.size W W') : Tk5 w W' g7 r t r1 t1 v := ⟨h.toTk4.kept hb, h.new.kept hb, h.ne⟩
theorem Tk4.drew {w W : World} {r : Int} {t : ByteArray} {v : Value} (h : Tk4 w W r t v) : Tk4 w W.drew r t v := ⟨h.box, h.res, h.below.drew⟩
theorem Tk5.drew {w W : World} {g7 : Nat} {r r1 : Int} {t t1 : ByteArray} {v : Value} (h : Tk5 w W g7 r t r1 t1 v) : Tk5 w W.drew g7 r t r1 t1 v := ⟨h.toTk4.drew, h.new, h.ne⟩
theorem tk4_all {w W : World} {r : Int} {t : ByteArray} {v : Value} (h : Tk4 w W r t v) : W.cell? ⟨w.heap.size, 0, none⟩ = some (.int .i64 r) ∧ W.cell? ⟨w.heap.size, 1, none⟩ = some (.string t) ∧ W.cell? ⟨w.heap.size, 2, none⟩ = some v ∧ Tk4 w W r t v := by
  obtain ⟨a0, a1, a2⟩ := cel3' h.box
  exact ⟨a0, a1, a2, h⟩
theorem tk5_all {w W : World} {g7 : Nat} {r r1 : Int} {t t1 : ByteArray} {v : Value} (h : Tk5 w W g7 r t r1 t1 v) : W.cell? ⟨w.heap.size, 1, none⟩ = some (.string t) ∧ W.cell? ⟨g7, 0, none⟩ = some (.int .i64 r1) ∧ W.cell? ⟨g7, 1, none⟩ = some (.string t1) ∧ W.cell? ⟨g7, 2, none⟩ = some v ∧ Tk5 w W g7 r t r1 t1 v := by
  obtain ⟨a0, a1, a2⟩ := cel3' h.box
  obtain ⟨b0, b1, b2⟩ := cel3' h.new
  exact ⟨a1, b0, b1, b2, h⟩
theorem tk4_far {w W : World} {r : Int} {t : ByteArray} {v : Value} (h : Tk4 w W r t v) : w.heap.size + 2 ≤ W.heap.size := by
  obtain ⟨x0, x1, x2, hz⟩ := h.res
  have := hz.lt
  omega
theorem tk5_far {w W : World} {g7 : Nat} {r r1 : Int} {t t1 : ByteArray} {v : Value} (h : Tk5 w W g7 r t r1 t1 v) : w.heap.size + 1 < W.heap.size := by
  obtain ⟨x0, x1, x2, hz⟩ := h.res
  exact hz.lt
theorem tk4_new {w W : World} {g : Nat} {r r1 : Int} {t t1 : ByteArray} {v x0 x1 x2 : Value} (h : Tk4 w W r t v) (hz : Cel W g 28 #[x0, x1, x2]) (hg : w.heap.size + 2 ≤ g) :
    Tk4 w (((W.setCell ⟨g, 0, none⟩ (.int .i64 r1)).setCell ⟨g, 1, none⟩ (.string t1)).setCell ⟨g, 2, none⟩ v) r t v ∧ Cel (((W.setCell ⟨g, 0, none⟩ (.int .i64 r1)).setCell ⟨g, 1, none⟩ (.string t1)).setCell ⟨g, 2, none⟩ v) g 28 #[.int .i64 r1, .string t1, v] := by
  obtain ⟨y0, y1, y2, hy⟩ := h.res
  refine ⟨⟨((h.box.other _ _ (by simp; omega)).other _ _ (by simp; omega)).other _ _ (by simp; omega), ⟨_, _, _, ((hy.other _ _ (by simp; omega)).other _ _ (by simp; omega)).other _ _ (by simp; omega)⟩, ((h.below.setCell (p := ⟨g, 0, none⟩) (by simp; omega) _).setCell (p := ⟨g, 1, none⟩) (by simp; omega) _).setCell (p := ⟨g, 2, none⟩) (by simp; omega) _⟩, ?_⟩
  have := ((hz.set 0 (.int .i64 r1)).set 1 (.string t1)).set 2 v
  simpa using this
theorem tk5_fin {w W : World} {g7 : Nat} {r r1 r2 : Int} {t t1 t2 : ByteArray} {v u : Value} (h : Tk5 w W g7 r t r1 t1 v)
    (h1 : Cel (((W.setCell ⟨w.heap.size + 1, 0, none⟩ (.int .i64 r2)).setCell ⟨w.heap.size + 1, 1, none⟩ (.string t2)).setCell ⟨w.heap.size + 1, 2, none⟩ u) (w.heap.size + 1) 28 #[.int .i64 r2, .string t2, u]) (h2 : Below w.heap.size w (((W.setCell ⟨w.heap.size + 1, 0, none⟩ (.int .i64 r2)).setCell ⟨w.heap.size + 1, 1, none⟩ (.string t2)).setCell ⟨w.heap.size + 1, 2, none⟩ u)) :
    (((W.setCell ⟨w.heap.size + 1, 0, none⟩ (.int .i64 r2)).setCell ⟨w.heap.size + 1, 1, none⟩ (.string t2)).setCell ⟨w.heap.size + 1, 2, none⟩ u).cell? ⟨w.heap.size, 1, none⟩ = some (.string t) ∧ (((W.setCell ⟨w.heap.size + 1, 0, none⟩ (.int .i64 r2)).setCell ⟨w.heap.size + 1, 1, none⟩ (.string t2)).setCell ⟨w.heap.size + 1, 2, none⟩ u).cell? ⟨g7, 0, none⟩ = some (.int .i64 r1) ∧ (((W.setCell ⟨w.heap.size + 1, 0, none⟩ (.int .i64 r2)).setCell ⟨w.heap.size + 1, 1, none⟩ (.string t2)).setCell ⟨w.heap.size + 1, 2, none⟩ u).cell? ⟨g7, 1, none⟩ = some (.string t1) ∧ (((W.setCell ⟨w.heap.size + 1, 0, none⟩ (.int .i64 r2)).setCell ⟨w.heap.size + 1, 1, none⟩ (.string t2)).setCell ⟨w.heap.size + 1, 2, none⟩ u).cell? ⟨g7, 2, none⟩ = some v ∧ Tk5 w (((W.setCell ⟨w.heap.size + 1, 0, none⟩ (.int .i64 r2)).setCell ⟨w.heap.size + 1, 1, none⟩ (.string t2)).setCell ⟨w.heap.size + 1, 2, none⟩ u) g7 r t r1 t1 v :=
  have hne := h.ne
  tk5_all ⟨⟨((h.box.other _ _ (by simp)).other _ _ (by simp)).other _ _ (by simp), ⟨_, _, _, h1⟩, h2⟩, ((h.new.other _ _ (by simp; omega)).other _ _ (by simp; omega)).other _ _ (by simp; omega), h.ne⟩

theorem tk_start (w : World) (r : Int) (t : ByteArray) (v : Value) : Tk4 w ((w.alloc (.cells #[.int .i64 r, .string t, v] 28)).alloc (.cells #[.int .i64 0, .string ⟨#[]⟩, .slice none 0 0] 28)) r t v := by
  refine ⟨(Cel.new w _ _).alloc _, ⟨.int .i64 0, .string ⟨#[]⟩, .slice none 0 0, ?_⟩, ((Below.refl _ _).alloc (Nat.le_refl _) _).alloc (by simp) _⟩
  have := Cel.new (w.alloc (.cells #[.int .i64 r, .string t, v] 28)) 28 #[.int .i64 0, .string ⟨#[]⟩, .slice none 0 0]
  rw [World.size_alloc] at this
  exact this

set_option maxRecDepth 100000 in
set_option maxHeartbeats 4000000 in
theorem impl_takeReady (r : Int) (t : ByteArray) (v : Value) (ms : List Pc) (many : Int) (w : World) (hv : RdP w v ms) (hs : t.size + sumP ms ≤ 4194304) (hn : ms.length ≤ 4194304) :
    Calls Try.prog 15 #[.agg #[.int .i64 r, .string t, v], .int .i64 many] w fun e w' => ∃ u, e = .returned (.tuple #[.agg #[.int .i64 (takeReady ⟨r, t, ms⟩ many).1.read, .string (takeReady ⟨r, t, ms⟩ many).1.ready, u], .string (takeReady ⟨r, t, ms⟩ many).2]) ∧ OwnP w' w.heap.size w'.heap.size u ms ∧ Below w.heap.size w w' := by
  have K0 := tk_start w r t v
  have cO := fun W h => impl_piecesOk r t v ms W h hs hn
  have cC := fun W h => impl_copyP r t v ms W h hs hn
  have hpo : piecesOk ⟨r, t, ms⟩ = true → (0 ≤ r ∧ r ≤ 1000000000) ∧ t.size ≤ 200 := fun h => by
    unfold piecesOk heldP at h
    simp only at h
    split at h
    · omega
    · cases h
  unfold takeReady
  obtain ⟨tk, htk⟩ : ∃ tk, takeN ⟨r, t, ms⟩ many = tk := ⟨_, rfl⟩
  have hmay : mayTake ⟨r, t, ms⟩ many ↔ (piecesOk ⟨r, t, ms⟩ = true ∧ 0 ≤ many ∧ r + tk ≤ 1000000000) := by unfold mayTake; rw [htk]
  rw [htk]
  unfold takeN at htk
  simp only at htk
  simp only [hmay]
  generalize piecesOk ⟨r, t, ms⟩ = ok at *
  clear hmay
  by_cases hm : ok = true ∧ 0 ≤ many ∧ r + tk ≤ 1000000000
  · rw [if_pos hm]
    obtain ⟨rfl, hm0, hm1⟩ := hm
    obtain ⟨hr0, ht2⟩ := hpo rfl
    have htk0 : 0 ≤ tk ∧ tk ≤ (t.size : Int) := by omega
    have sl1 := fun W => cut_from t tk htk0.1 htk0.2 W
    have sl2 := fun W => cut_to t tk htk0.1 htk0.2 W
    have z1 := cut_size t tk.toNat t.size
    have z2 := cut_size t 0 tk.toNat
    obtain ⟨r1, hr1⟩ : ∃ r1, r + tk = r1 := ⟨_, rfl⟩
    have e1 : IntKind.i64.wrap (r + tk) = r1 := (IntWalk.i64_in _ (by omega)).trans hr1
    have q1 : ¬ many < 0 := by omega
    have q2 : ¬ (1000000000 : Int) < r1 := by omega
    simp only
    rw [hr1]
    clear hr1
    generalize t.extract tk.toNat t.size = t1 at *
    generalize t.extract 0 tk.toNat = t2 at *
    have cP := fun W h => impl_copyP r1 t1 v ms W h (by omega) hn
    have cl := fun W => clone_call t2 W (by omega)
    have hv0 := hv
    obtain ⟨a, c, rfl⟩ := hv.form
    have H0 := Lib.hid K0
    clear K0 cC hpo hs hn z1 z2 hr0 ht2 hm0 hm1 hv
    have hv := hv0
    clear hv0
    go_enter Try.func15, Try.ntmps15
    go_wp2_with (fail)
    with_reducible refine (cO _ (hv.below H0.out.below)).mono ?_
    rintro e w5 ⟨rfl, hb5⟩
    have k5 := H0.out.kept hb5
    have h5 := tk4_all k5.drew
    obtain ⟨b0, b1, b2⟩ := cel3' (H0.out.kept hb5).box
    clear hb5 cO H0
    go_wp2_with (fail)
    refine wp_region_held_drew (S := fun W => W.cell? ⟨w.heap.size, 0, none⟩ = some (.int .i64 r) ∧ W.cell? ⟨w.heap.size, 1, none⟩ = some (.string t) ∧ W.cell? ⟨w.heap.size, 2, none⟩ = some (.slice a ms.length c) ∧ Tk4 w W r t (.slice a ms.length c)) (by kernel_rfl) h5 (fun hHeld => ?_)
    refine take_yes (i := 0) (oi := { dst := some 29, op := Op.fieldAddr 28 (Operand.tmp 2) 0, type := 0, pos := "l09_pieces.go:62", after := #[], guard := none }) (v := .pointer (some ⟨w.heap.size, 0, none⟩)) rfl (by kernel_rfl) (by kernel_rfl) (by kernel_rfl) (fun _ _ _ h => h) (by rfl) (fun w hSw => by (try dsimp only at hSw); go_simp) (by assumption) ?_
    try simp only [Act.put, List.setIfInBounds_toArray, List.set_cons_zero, List.set_cons_succ]
    refine take_yes (i := 1) (oi := { dst := some 30, op := Op.load 3 (Operand.tmp 29), type := 3, pos := "l09_pieces.go:62", after := #[{ on := 0, ground := Ground.data }], guard := none }) (v := .int .i64 r) rfl (by kernel_rfl) (by kernel_rfl) (by kernel_rfl) (fun _ _ _ h => h) (by rfl) (fun w hSw => by (try dsimp only at hSw); go_simp) (by assumption) ?_
    try simp only [Act.put, List.setIfInBounds_toArray, List.set_cons_zero, List.set_cons_succ]
    refine take_yes (i := 2) (oi := { dst := some 31, op := Op.move (Operand.tmp 6), type := 3, pos := "l09_pieces.go:62", after := #[], guard := none }) (v := .int .i64 tk) rfl (by kernel_rfl) (by kernel_rfl) (by kernel_rfl) (fun _ _ _ h => h) (by rfl) (fun w hSw => by (try dsimp only at hSw); go_simp) (by assumption) ?_
    try simp only [Act.put, List.setIfInBounds_toArray, List.set_cons_zero, List.set_cons_succ]
    refine take_yes (i := 3) (oi := { dst := some 32, op := Op.binOp BinOp.add 3 (Operand.tmp 30) (Operand.tmp 31) 3, type := 3, pos := "l09_pieces.go:62", after := #[{ on := 1, ground := Ground.data }, { on := 2, ground := Ground.data }], guard := none }) (v := .int .i64 r1) rfl (by kernel_rfl) (by kernel_rfl) (by kernel_rfl) (fun _ _ _ h => h) (by rfl) (fun w hSw => by (try dsimp only at hSw); go_simp) (by assumption) ?_
    try simp only [Act.put, List.setIfInBounds_toArray, List.set_cons_zero, List.set_cons_succ]
    refine take_yes (i := 4) (oi := { dst := some 33, op := Op.fieldAddr 28 (Operand.tmp 2) 1, type := 0, pos := "l09_pieces.go:62", after := #[], guard := none }) (v := .pointer (some ⟨w.heap.size, 1, none⟩)) rfl (by kernel_rfl) (by kernel_rfl) (by kernel_rfl) (fun _ _ _ h => h) (by rfl) (fun w hSw => by (try dsimp only at hSw); go_simp) (by assumption) ?_
    try simp only [Act.put, List.setIfInBounds_toArray, List.set_cons_zero, List.set_cons_succ]
    refine take_yes (i := 5) (oi := { dst := some 34, op := Op.load 9 (Operand.tmp 33), type := 9, pos := "l09_pieces.go:62", after := #[{ on := 4, ground := Ground.data }], guard := none }) (v := .string t) rfl (by kernel_rfl) (by kernel_rfl) (by kernel_rfl) (fun _ _ _ h => h) (by rfl) (fun w hSw => by (try dsimp only at hSw); go_simp) (by assumption) ?_
    try simp only [Act.put, List.setIfInBounds_toArray, List.set_cons_zero, List.set_cons_succ]
    refine take_yes (i := 6) (oi := { dst := some 35, op := Op.move (Operand.tmp 6), type := 3, pos := "l09_pieces.go:62", after := #[], guard := none }) (v := .int .i64 tk) rfl (by kernel_rfl) (by kernel_rfl) (by kernel_rfl) (fun _ _ _ h => h) (by rfl) (fun w hSw => by (try dsimp only at hSw); go_simp) (by assumption) ?_
    try simp only [Act.put, List.setIfInBounds_toArray, List.set_cons_zero, List.set_cons_succ]
    refine take_yes (i := 7) (oi := { dst := some 36, op := Op.slice 9 (Operand.tmp 34) (some (Operand.tmp 35)) none none, type := 9, pos := "l09_pieces.go:62", after := #[{ on := 5, ground := Ground.data }, { on := 6, ground := Ground.data }], guard := none }) (v := .string t1) rfl (by kernel_rfl) (by kernel_rfl) (by kernel_rfl) (fun _ _ _ h => h) (by rfl) (fun w hSw => by (try dsimp only at hSw); go_simp) (by assumption) ?_
    try simp only [Act.put, List.setIfInBounds_toArray, List.set_cons_zero, List.set_cons_succ]
    refine take_yes (i := 8) (oi := { dst := some 37, op := Op.fieldAddr 28 (Operand.tmp 2) 2, type := 0, pos := "l09_pieces.go:62", after := #[], guard := none }) (v := .pointer (some ⟨w.heap.size, 2, none⟩)) rfl (by kernel_rfl) (by kernel_rfl) (by kernel_rfl) (fun _ _ _ h => h) (by rfl) (fun w hSw => by (try dsimp only at hSw); go_simp) (by assumption) ?_
    try simp only [Act.put, List.setIfInBounds_toArray, List.set_cons_zero, List.set_cons_succ]
    refine take_yes (i := 9) (oi := { dst := some 38, op := Op.load 24 (Operand.tmp 37), type := 24, pos := "l09_pieces.go:62", after := #[{ on := 8, ground := Ground.data }], guard := none }) (v := .slice a ms.length c) rfl (by kernel_rfl) (by kernel_rfl) (by kernel_rfl) (fun _ _ _ h => h) (by rfl) (fun w hSw => by (try dsimp only at hSw); go_simp) (by assumption) ?_
    try simp only [Act.put, List.setIfInBounds_toArray, List.set_cons_zero, List.set_cons_succ]
    refine take_yes (i := 10) (oi := { dst := some 39, op := Op.build 28 #[(0, Operand.tmp 32), (1, Operand.tmp 36), (2, Operand.tmp 38)], type := 28, pos := "l09_pieces.go:62", after := #[{ on := 3, ground := Ground.data }, { on := 7, ground := Ground.data }, { on := 9, ground := Ground.data }], guard := none }) (v := .agg #[.int .i64 r1, .string t1, .slice a ms.length c]) rfl (by kernel_rfl) (by kernel_rfl) (by kernel_rfl) (fun _ _ _ h => h) (by rfl) (fun w hSw => by (try dsimp only at hSw); go_simp) (by assumption) ?_
    try simp only [Act.put, List.setIfInBounds_toArray, List.set_cons_zero, List.set_cons_succ]
    refine wpAnyH_ready (rs := [11]) (by kernel_rfl) (by simp) ?_
    refine AllReadyH.cons (o := { dst := some 7, op := Op.alloc 28, type := 0, pos := "l09_pieces.go:62", after := #[], guard := none }) rfl (fun K hK => ?_) AllReadyH.nil
    go_simp
    have H7 := tk4_all (hHeld.2.2.2.kept (below_new w5.drew (.cells #[.int .i64 0, .string ⟨#[]⟩, .slice none 0 0] 28)))
    have hz7 := Cel.new w5.drew 28 #[.int .i64 0, .string ⟨#[]⟩, .slice none 0 0]
    refine hK.out _ _ H7 (fun hHeldN => ?_)
    clear hK K hHeld
    have hHeld := hHeldN
    clear hHeldN
    try simp only [Act.put, List.setIfInBounds_toArray, List.set_cons_zero, List.set_cons_succ]
    refine wpAnyH_ready (rs := [12]) (by kernel_rfl) (by simp) ?_
    refine AllReadyH.cons (o := { dst := none, op := Op.store 28 (Operand.tmp 7) (Operand.tmp 39), type := 0, pos := "l09_pieces.go:62", after := #[{ on := 11, ground := Ground.data }, { on := 10, ground := Ground.data }, { on := 0, ground := Ground.phase }, { on := 1, ground := Ground.phase }, { on := 2, ground := Ground.phase }, { on := 3, ground := Ground.phase }, { on := 4, ground := Ground.phase }, { on := 5, ground := Ground.phase }, { on := 6, ground := Ground.phase }, { on := 7, ground := Ground.phase }, { on := 8, ground := Ground.phase }, { on := 9, ground := Ground.phase }, { on := 10, ground := Ground.phase }, { on := 11, ground := Ground.phase }], guard := none }) rfl (fun K hK => ?_) AllReadyH.nil
    obtain ⟨d0, d1, d2⟩ := cel3' hz7
    have j0 := hz7.frozen 0
    have j1 := hz7.frozen 1
    have j2 := hz7.frozen 2
    go_simp
    have H8 := (k5.kept (below_new w5 (.cells #[.int .i64 r1, .string t1, .slice a ms.length c] 28))).drew
    have H8n : Cel (w5.alloc (.cells #[.int .i64 r1, .string t1, .slice a ms.length c] 28)).drew w5.heap.size 28 #[.int .i64 r1, .string t1, .slice a ms.length c] := Cel.new w5 _ _
    have HK8 := Lib.hid (And.intro H8 H8n)
    refine hK.out _ _ (tk4_all H8) (fun hHeldN => ?_)
    clear hK K hHeld
    have hHeld := hHeldN
    clear hHeldN
    try simp only [Act.put, List.setIfInBounds_toArray, List.set_cons_zero, List.set_cons_succ]
    refine wpAnyH_done (by kernel_rfl) ?_ _
    clear hHeld
    have K5 := tk5_all (⟨HK8.out.1, HK8.out.2, tk4_far k5⟩ : Tk5 w _ w5.heap.size r t r1 t1 (.slice a ms.length c)).drew
    clear H8 H8n H7 hz7 h5 d0 d1 d2 j0 j1 j2 HK8 b0 b1 b2 sl1 k5
    generalize w5.heap.size = g7 at *
    generalize (w5.alloc (.cells #[.int .i64 r1, .string t1, .slice a ms.length c] 28)).drew = w6 at *
    clear w5
    go_wp2_with (fail)
    refine wp_region_held_drew (S := fun W => W.cell? ⟨w.heap.size, 1, none⟩ = some (.string t) ∧ W.cell? ⟨g7, 0, none⟩ = some (.int .i64 r1) ∧ W.cell? ⟨g7, 1, none⟩ = some (.string t1) ∧ W.cell? ⟨g7, 2, none⟩ = some (.slice a ms.length c) ∧ Tk5 w W g7 r t r1 t1 (.slice a ms.length c)) (by kernel_rfl) K5 (fun hHeld => ?_)
    refine take_yes (i := 0) (oi := { dst := some 40, op := Op.load 28 (Operand.tmp 7), type := 28, pos := "l09_pieces.go:63", after := #[], guard := none }) (v := .agg #[.int .i64 r1, .string t1, .slice a ms.length c]) rfl (by kernel_rfl) (by kernel_rfl) (by kernel_rfl) (fun _ _ _ h => h) (by rfl) (fun w hSw => by (try dsimp only at hSw); go_simp) (by assumption) ?_
    try simp only [Act.put, List.setIfInBounds_toArray, List.set_cons_zero, List.set_cons_succ]
    refine take_yes (i := 2) (oi := { dst := some 42, op := Op.fieldAddr 28 (Operand.tmp 2) 1, type := 0, pos := "l09_pieces.go:63", after := #[], guard := none }) (v := .pointer (some ⟨w.heap.size, 1, none⟩)) rfl (by kernel_rfl) (by kernel_rfl) (by kernel_rfl) (fun _ _ _ h => h) (by rfl) (fun w hSw => by (try dsimp only at hSw); go_simp) (by assumption) ?_
    try simp only [Act.put, List.setIfInBounds_toArray, List.set_cons_zero, List.set_cons_succ]
    refine take_yes (i := 3) (oi := { dst := some 43, op := Op.load 9 (Operand.tmp 42), type := 9, pos := "l09_pieces.go:63", after := #[{ on := 2, ground := Ground.data }], guard := none }) (v := .string t) rfl (by kernel_rfl) (by kernel_rfl) (by kernel_rfl) (fun _ _ _ h => h) (by rfl) (fun w hSw => by (try dsimp only at hSw); go_simp) (by assumption) ?_
    try simp only [Act.put, List.setIfInBounds_toArray, List.set_cons_zero, List.set_cons_succ]
    refine take_yes (i := 4) (oi := { dst := some 44, op := Op.move (Operand.tmp 6), type := 3, pos := "l09_pieces.go:63", after := #[], guard := none }) (v := .int .i64 tk) rfl (by kernel_rfl) (by kernel_rfl) (by kernel_rfl) (fun _ _ _ h => h) (by rfl) (fun w hSw => by (try dsimp only at hSw); go_simp) (by assumption) ?_
    try simp only [Act.put, List.setIfInBounds_toArray, List.set_cons_zero, List.set_cons_succ]
    refine take_yes (i := 5) (oi := { dst := some 45, op := Op.slice 9 (Operand.tmp 43) none (some (Operand.tmp 44)) none, type := 9, pos := "l09_pieces.go:63", after := #[{ on := 3, ground := Ground.data }, { on := 4, ground := Ground.data }], guard := none }) (v := .string t2) rfl (by kernel_rfl) (by kernel_rfl) (by kernel_rfl) (fun _ _ _ h => h) (by rfl) (fun w hSw => by (try dsimp only at hSw); go_simp) (by assumption) ?_
    try simp only [Act.put, List.setIfInBounds_toArray, List.set_cons_zero, List.set_cons_succ]
    refine wpAnyH_ready (rs := [1]) (by kernel_rfl) (by simp) ?_
    refine AllReadyH.cons (o := { dst := some 41, op := Op.call { callee := Callee.value (Operand.func 33), args := #[Operand.tmp 40], argTypes := #[28] }, type := 28, pos := "l09_pieces.go:63", after := #[{ on := 0, ground := Ground.data }], guard := none }) rfl (fun K hK => ?_) AllReadyH.nil
    go_simp
    with_reducible refine (cP _ (hv.below hHeld.2.2.2.2.below)).mono ?_
    rintro e w7 ⟨u7, rfl, hO7, hb7⟩
    obtain ⟨ua, uc, rfl, -⟩ := hO7.form
    have H7 := tk5_all (hHeld.2.2.2.2.kept hb7)
    have far7 := tk5_far hHeld.2.2.2.2
    refine hK.out _ _ H7 (fun hHeldN => ?_)
    clear hK K hHeld
    have hHeld := hHeldN
    clear hHeldN
    try simp only [Act.put, List.setIfInBounds_toArray, List.set_cons_zero, List.set_cons_succ]
    refine wpAnyH_ready (rs := [6]) (by kernel_rfl) (by simp) ?_
    refine AllReadyH.cons (o := { dst := some 46, op := Op.call { callee := Callee.value (Operand.func 37), args := #[Operand.tmp 45], argTypes := #[9] }, type := 9, pos := "l09_pieces.go:63", after := #[{ on := 5, ground := Ground.data }, { on := 1, ground := Ground.chain }], guard := none }) rfl (fun K hK => ?_) AllReadyH.nil
    go_simp
    with_reducible refine (cl _).mono ?_
    rintro e w8 ⟨rfl, hb8⟩
    have H9 := tk5_all (hHeld.2.2.2.2.kept hb8)
    have hO8 := hO7.full hb8
    refine hK.out _ _ H9 (fun hHeldN => ?_)
    clear hK K hHeld
    have hHeld := hHeldN
    clear hHeldN
    try simp only [Act.put, List.setIfInBounds_toArray, List.set_cons_zero, List.set_cons_succ]
    refine wpAnyH_ready (rs := [7]) (by kernel_rfl) (by simp) ?_
    refine AllReadyH.cons (o := { dst := none, op := Op.store 28 (Operand.tmp 4) (Operand.tmp 41), type := 0, pos := "l09_pieces.go:63", after := #[{ on := 1, ground := Ground.data }, { on := 6, ground := Ground.chain }, { on := 0, ground := Ground.phase }, { on := 1, ground := Ground.phase }, { on := 2, ground := Ground.textOnly Departure.lateStores }, { on := 3, ground := Ground.textOnly Departure.lateStores }, { on := 4, ground := Ground.textOnly Departure.lateStores }, { on := 5, ground := Ground.textOnly Departure.lateStoresUnsure }, { on := 6, ground := Ground.textOnly Departure.lateStoresUnsure }], guard := none }) rfl (fun K hK => ?_) AllReadyH.nil
    obtain ⟨x0, x1, x2, hz⟩ := hHeld.2.2.2.2.res
    obtain ⟨d0, d1, d2⟩ := cel3' hz
    have j0 := hz.frozen 0
    have j1 := hz.frozen 1
    have j2 := hz.frozen 2
    go_simp
    obtain ⟨p1, p2, p3⟩ := ps_fin (r := r1) (t := t1) hz hHeld.2.2.2.2.below (Nat.le_succ _) hO8 far7
    have HF := Lib.hid (And.intro p1 (And.intro p2 (p3.mono (B' := w.heap.size) (by omega) (Nat.le_refl _))))
    have H10 := tk5_fin (r2 := r1) (t2 := t1) (u := .slice ua ms.length uc) hHeld.2.2.2.2 p1 p2
    refine hK.out _ _ H10 (fun hHeldN => ?_)
    clear hK K hHeld
    have hHeld := hHeldN
    clear hHeldN
    try simp only [Act.put, List.setIfInBounds_toArray, List.set_cons_zero, List.set_cons_succ]
    refine take_yes (i := 8) (oi := { dst := some 5, op := Op.assign (Operand.tmp 46), type := 9, pos := "l09_pieces.go:63", after := #[{ on := 6, ground := Ground.data }, { on := 7, ground := Ground.chain }, { on := 0, ground := Ground.phase }, { on := 1, ground := Ground.phase }, { on := 2, ground := Ground.phase }, { on := 3, ground := Ground.phase }, { on := 4, ground := Ground.phase }, { on := 5, ground := Ground.phase }, { on := 6, ground := Ground.phase }, { on := 7, ground := Ground.phase }], guard := none }) (v := .string t2) rfl (by kernel_rfl) (by kernel_rfl) (by kernel_rfl) (fun _ _ _ h => h) (by rfl) (fun w hSw => by (try dsimp only at hSw); go_simp) (by assumption) ?_
    try simp only [Act.put, List.setIfInBounds_toArray, List.set_cons_zero, List.set_cons_succ]
    refine wpAnyH_done (by kernel_rfl) ?_ _
    clear hHeld
    obtain ⟨p1, p2, p3⟩ := HF.out
    go_wp2_with (fail)
    refine bodyPost_ret (ps_result2 p1 rfl _ rfl) rfl ⟨_, rfl, p3, p2⟩
  · rw [if_neg hm]
    simp only
    cases ok with
    | false =>
      clear hm hpo htk hs hn
      have H0 := Lib.hid K0
      have hv0 := hv
      obtain ⟨a, c, rfl⟩ := hv.form
      clear K0 hv
      have hv := hv0
      clear hv0
      go_enter Try.func15, Try.ntmps15
      go_wp2_with (fail)
      with_reducible refine (cO _ (hv.below H0.out.below)).mono ?_
      rintro e w5 ⟨rfl, hb5⟩
      have h5 := Lib.hid (H0.out.kept hb5)
      obtain ⟨b0, b1, b2⟩ := cel3' h5.out.box
      clear hb5 cO H0
      go_wp2_with (fail)
      with_reducible refine (cC _ (hv.below h5.out.below)).mono ?_
      rintro e w6 ⟨u, rfl, hO, hb6⟩
      obtain ⟨ua, uc, rfl, -⟩ := hO.form
      have h6 := h5.out.kept hb6
      obtain ⟨x0, x1, x2, hz⟩ := h6.res
      obtain ⟨d0, d1, d2⟩ := cel3' hz
      have j0 := hz.frozen 0
      have j1 := hz.frozen 1
      have j2 := hz.frozen 2
      have far := tk4_far h5.out
      obtain ⟨p1, p2, p3⟩ := ps_fin (r := r) (t := t) hz h6.below (Nat.le_succ _) hO (by omega)
      have HF := Lib.hid (And.intro p1 (And.intro p2 (p3.mono (B' := w.heap.size) (by omega) (Nat.le_refl _))))
      clear h5 h6 hO hb6 hz p1 p2 p3 b0 b1 b2
      go_wp2_with (fail)
      obtain ⟨p1, p2, p3⟩ := HF.out
      refine bodyPost_ret (ps_result2 p1 rfl _ rfl) rfl ⟨_, rfl, p3, p2⟩
    | true =>
      obtain ⟨hr0, ht2⟩ := hpo rfl
      by_cases q1 : many < 0
      · clear hm hpo htk hs hn hr0 ht2
        have H0 := Lib.hid K0
        have hv0 := hv
        obtain ⟨a, c, rfl⟩ := hv.form
        clear K0 hv
        have hv := hv0
        clear hv0
        go_enter Try.func15, Try.ntmps15
        go_wp2_with (fail)
        with_reducible refine (cO _ (hv.below H0.out.below)).mono ?_
        rintro e w5 ⟨rfl, hb5⟩
        have h5 := Lib.hid (H0.out.kept hb5)
        obtain ⟨b0, b1, b2⟩ := cel3' h5.out.box
        clear hb5 cO H0
        go_wp2_with (fail)
        with_reducible refine (cC _ (hv.below h5.out.below)).mono ?_
        rintro e w6 ⟨u, rfl, hO, hb6⟩
        obtain ⟨ua, uc, rfl, -⟩ := hO.form
        have h6 := h5.out.kept hb6
        obtain ⟨x0, x1, x2, hz⟩ := h6.res
        obtain ⟨d0, d1, d2⟩ := cel3' hz
        have j0 := hz.frozen 0
        have j1 := hz.frozen 1
        have j2 := hz.frozen 2
        have far := tk4_far h5.out
        obtain ⟨p1, p2, p3⟩ := ps_fin (r := r) (t := t) hz h6.below (Nat.le_succ _) hO (by omega)
        have HF := Lib.hid (And.intro p1 (And.intro p2 (p3.mono (B' := w.heap.size) (by omega) (Nat.le_refl _))))
        clear h5 h6 hO hb6 hz p1 p2 p3 b0 b1 b2
        go_wp2_with (fail)
        obtain ⟨p1, p2, p3⟩ := HF.out
        refine bodyPost_ret (ps_result2 p1 rfl _ rfl) rfl ⟨_, rfl, p3, p2⟩
      · obtain ⟨r1, hr1⟩ : ∃ r1, r + tk = r1 := ⟨_, rfl⟩
        have e1 : IntKind.i64.wrap (r + tk) = r1 := (IntWalk.i64_in _ (by omega)).trans hr1
        have q2 : (1000000000 : Int) < r1 := by
          rw [← hr1]
          exact Int.not_le.1 (fun h => hm ⟨rfl, by omega, h⟩)
        clear hm hpo hs hn hr0 ht2 hr1
        have H0 := Lib.hid K0
        have hv0 := hv
        obtain ⟨a, c, rfl⟩ := hv.form
        clear K0 hv
        have hv := hv0
        clear hv0
        go_enter Try.func15, Try.ntmps15
        go_wp2_with (fail)
        with_reducible refine (cO _ (hv.below H0.out.below)).mono ?_
        rintro e w5 ⟨rfl, hb5⟩
        have h5 := Lib.hid (H0.out.kept hb5)
        obtain ⟨b0, b1, b2⟩ := cel3' h5.out.box
        clear hb5 cO H0
        go_wp2_with (fail)
        with_reducible refine (cC _ (hv.below h5.out.below)).mono ?_
        rintro e w6 ⟨u, rfl, hO, hb6⟩
        obtain ⟨ua, uc, rfl, -⟩ := hO.form
        have h6 := h5.out.kept hb6
        obtain ⟨x0, x1, x2, hz⟩ := h6.res
        obtain ⟨d0, d1, d2⟩ := cel3' hz
        have j0 := hz.frozen 0
        have j1 := hz.frozen 1
        have j2 := hz.frozen 2
        have far := tk4_far h5.out
        obtain ⟨p1, p2, p3⟩ := ps_fin (r := r) (t := t) hz h6.below (Nat.le_succ _) hO (by omega)
        have HF := Lib.hid (And.intro p1 (And.intro p2 (p3.mono (B' := w.heap.size) (by omega) (Nat.le_refl _))))
        clear h5 h6 hO hb6 hz p1 p2 p3 b0 b1 b2
        go_wp2_with (fail)
        obtain ⟨p1, p2, p3⟩ := HF.out
        refine bodyPost_ret (ps_result2 p1 rfl _ rfl) rfl ⟨_, rfl, p3, p2⟩
end Go.Proofs.Ytkpajakangaekaa
