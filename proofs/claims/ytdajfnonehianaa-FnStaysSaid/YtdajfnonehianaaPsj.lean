import Derived.Test.YtdajfnonehianaaPtk
namespace Go.Proofs.Ytdajfnonehianaa
open Go.RowKit

theorem ext_to (t : ByteArray) (k : Nat) (h : t.size ≤ k) : t.extract 0 k = t := by
  apply ByteArray.ext
  apply Array.toList_inj.1
  rw [xlist, List.drop_zero, List.take_of_length_le (by rw [bsize]; omega)]
theorem ext_past (t : ByteArray) (k : Nat) (h : t.size ≤ k) : t.extract k t.size = ⟨#[]⟩ := by
  apply ByteArray.ext
  apply Array.toList_inj.1
  rw [xlist, List.drop_of_length_le (by rw [bsize]; omega), List.take_nil]
theorem ext_whole (t : ByteArray) : t.extract 0 t.size = t := ext_to t t.size (Nat.le_refl _)

theorem pc_result {W : World} {g : Nat} {r : Int} {t : ByteArray} (h : Cel W g 41 #[.int .i64 r, .string t]) {fn : Func} {p : Tmp} (hr : fn.results = #[.cell p 41]) (tmps : Array Value) (hp : tmps.getD p undef = .pointer (some ⟨g, 0, none⟩)) :
    (results fn tmps).run Try.prog W = .ok (.agg #[.int .i64 r, .string t]) W :=
  Cel.result h hr tmps hp Try.underlying41 rfl (by show _ = some 2; kernel_rfl)

theorem below3 (w : World) (A B C : Obj) : Below w.heap.size w (((w.alloc A).alloc B).alloc C) := (((Below.refl _ _).alloc (Nat.le_refl _) _).alloc (by simp) _).alloc (by simp; omega) _

set_option maxRecDepth 100000 in
set_option maxHeartbeats 4000000 in
theorem spec_join (a b : Pc) (w : World) (ha : 0 ≤ a.pos ∧ a.pos ≤ 4294967296) (hb : 0 ≤ b.pos ∧ b.pos ≤ 4294967296) (sa : a.text.size ≤ 1048576) (sb : b.text.size ≤ 1048576) (ht : b.pos ≤ a.fin) :
    Calls Try.prog 49 #[.agg #[.int .i64 a.pos, .string a.text], .agg #[.int .i64 b.pos, .string b.text]] w fun e w' => e = .returned (.agg #[.int .i64 (joinP a b).pos, .string (joinP a b).text]) ∧ Below w.heap.size w w' := by
  obtain ⟨p, s⟩ := a
  obtain ⟨q, u⟩ := b
  unfold Pc.fin at ht
  unfold joinP Pc.fin
  simp only at ha hb sa sb ht ⊢
  by_cases c1 : q < p
  · rw [if_pos c1]
    simp only
    obtain ⟨n, hn⟩ : ∃ n, p - q = n := ⟨_, rfl⟩
    have e1 : IntKind.i64.wrap (p - q) = n := (IntWalk.i64_in _ (by omega)).trans hn
    have e2 : IntKind.i64.wrap (n + (s.size : Int)) = n + (s.size : Int) := IntWalk.i64_in _ (by omega)
    have hn0 : 0 < n ∧ n ≤ 4294967296 := by omega
    rw [hn]
    have et : n.toNat + s.size = (n + (s.size : Int)).toNat := by omega
    rw [et]
    by_cases c2 : n < (u.size : Int)
    · have sl1 := fun W => cut_to u n (by omega) (by omega) W
      by_cases c3 : n + (s.size : Int) < (u.size : Int)
      · have sl2 := fun W => cut_from u (n + (s.size : Int)) (by omega) (by omega) W
        have z1 := cut_size u 0 n.toNat
        have z2 := cut_size u (n + (s.size : Int)).toNat u.size
        have HB := Lib.hid (below3 w (.cells #[.int .i64 p, .string s] 41) (.cells #[.int .i64 q, .string u] 41) (.cells #[.int .i64 q, .string (u.extract 0 n.toNat ++ s ++ u.extract (n + (s.size : Int)).toNat u.size)] 41))
        generalize u.extract 0 n.toNat = x at *
        generalize u.extract (n + (s.size : Int)).toNat u.size = y at *
        have y1 : x.size + s.size ≤ 9223372036854775807 := by omega
        have y2 : (x ++ s).size + y.size ≤ 9223372036854775807 := by rw [ByteArray.size_append]; omega
        have y3 : x.size + s.size + y.size ≤ 9223372036854775807 := by omega
        clear ht hn et ha hb hn0 z1 z2 sa sb
        go_enter Try.func49, Try.ntmps49
        go_wp2_with (fail)
        exact bodyPost_ret (v := .agg #[.int .i64 q, .string (x ++ s ++ y)]) (by simp [results, Try.results49, go_sem]) rfl ⟨rfl, HB.out⟩
      · rw [ext_past u _ (by omega)]
        have z1 := cut_size u 0 n.toNat
        have HB := Lib.hid (below3 w (.cells #[.int .i64 p, .string s] 41) (.cells #[.int .i64 q, .string u] 41) (.cells #[.int .i64 q, .string (u.extract 0 n.toNat ++ s ++ ⟨#[]⟩)] 41))
        generalize u.extract 0 n.toNat = x at *
        have y1 : x.size + s.size ≤ 9223372036854775807 := by omega
        have y2 : (x ++ s).size + ByteArray.size ⟨#[]⟩ ≤ 9223372036854775807 := by rw [ByteArray.size_append]; show _ + 0 ≤ _; omega
        clear ht hn et ha hb hn0 z1 sa sb
        go_enter Try.func49, Try.ntmps49
        go_wp2_with (fail)
        exact bodyPost_ret (v := .agg #[.int .i64 q, .string (x ++ s ++ ⟨#[]⟩)]) (by simp [results, Try.results49, go_sem]) rfl ⟨rfl, HB.out⟩
    · rw [ext_to u _ (by omega), ext_past u _ (by omega)]
      have c3 : ¬ n + (s.size : Int) < (u.size : Int) := by omega
      have HB := Lib.hid (below3 w (.cells #[.int .i64 p, .string s] 41) (.cells #[.int .i64 q, .string u] 41) (.cells #[.int .i64 q, .string (u ++ s ++ ⟨#[]⟩)] 41))
      have y1 : u.size + s.size ≤ 9223372036854775807 := by omega
      have y2 : (u ++ s).size + ByteArray.size ⟨#[]⟩ ≤ 9223372036854775807 := by rw [ByteArray.size_append]; show _ + 0 ≤ _; omega
      clear ht hn et ha hb hn0 sa sb
      go_enter Try.func49, Try.ntmps49
      go_wp2_with (fail)
      exact bodyPost_ret (v := .agg #[.int .i64 q, .string (u ++ s ++ ⟨#[]⟩)]) (by simp [results, Try.results49, go_sem]) rfl ⟨rfl, HB.out⟩
  · rw [if_neg c1]
    obtain ⟨n, hn⟩ : ∃ n, q - p + (u.size : Int) - (s.size : Int) = n := ⟨_, rfl⟩
    have e1 : IntKind.i64.wrap (q - p) = q - p := IntWalk.i64_in _ (by omega)
    have e2 : IntKind.i64.wrap (q - p + (u.size : Int)) = q - p + (u.size : Int) := IntWalk.i64_in _ (by omega)
    have e3 : IntKind.i64.wrap (q - p + (u.size : Int) - (s.size : Int)) = n := (IntWalk.i64_in _ (by omega)).trans hn
    by_cases c2 : q + (u.size : Int) ≤ p + (s.size : Int)
    · rw [if_pos c2]
      simp only
      have c3 : n ≤ 0 := by omega
      have HB := Lib.hid (below3 w (.cells #[.int .i64 p, .string s] 41) (.cells #[.int .i64 q, .string u] 41) (.cells #[.int .i64 p, .string s] 41))
      clear ht hn ha hb sa sb c2
      go_enter Try.func49, Try.ntmps49
      go_wp2_with (fail)
      exact bodyPost_ret (v := .agg #[.int .i64 p, .string s]) (by simp [results, Try.results49, go_sem]) rfl ⟨rfl, HB.out⟩
    · rw [if_neg c2]
      simp only
      have c3 : ¬ n ≤ 0 := by omega
      obtain ⟨k, hk⟩ : ∃ k, (u.size : Int) - n = k := ⟨_, rfl⟩
      have e4 : IntKind.i64.wrap ((u.size : Int) - n) = k := (IntWalk.i64_in _ (by omega)).trans hk
      have ek : p + (s.size : Int) - q = k := by omega
      rw [ek]
      have sl2 := fun W => cut_from u k (by omega) (by omega) W
      have z1 := cut_size u k.toNat u.size
      generalize u.extract k.toNat u.size = y at *
      have y1 : s.size + y.size ≤ 9223372036854775807 := by omega
      have HB := below3 w (.cells #[.int .i64 p, .string s] 41) (.cells #[.int .i64 q, .string u] 41) (.cells #[.int .i64 0, .string ⟨#[]⟩] 41)
      have hA : Cel (((w.alloc (.cells #[.int .i64 p, .string s] 41)).alloc (.cells #[.int .i64 q, .string u] 41)).alloc (.cells #[.int .i64 0, .string ⟨#[]⟩] 41)) w.heap.size 41 #[.int .i64 p, .string s] := ((Cel.new w _ _).alloc _).alloc _
      have hBx : Cel (((w.alloc (.cells #[.int .i64 p, .string s] 41)).alloc (.cells #[.int .i64 q, .string u] 41)).alloc (.cells #[.int .i64 0, .string ⟨#[]⟩] 41)) (w.heap.size + 1) 41 #[.int .i64 q, .string u] := by
        have := (Cel.new (w.alloc (.cells #[.int .i64 p, .string s] 41)) 41 #[.int .i64 q, .string u]).alloc (.cells #[.int .i64 0, .string ⟨#[]⟩] 41)
        rw [World.size_alloc] at this
        exact this
      have hZ : Cel (((w.alloc (.cells #[.int .i64 p, .string s] 41)).alloc (.cells #[.int .i64 q, .string u] 41)).alloc (.cells #[.int .i64 0, .string ⟨#[]⟩] 41)) (w.heap.size + 2) 41 #[.int .i64 0, .string ⟨#[]⟩] := by
        have := Cel.new ((w.alloc (.cells #[.int .i64 p, .string s] 41)).alloc (.cells #[.int .i64 q, .string u] 41)) 41 #[.int .i64 0, .string ⟨#[]⟩]
        rw [World.size_alloc, World.size_alloc] at this
        exact this
      have HH := Lib.hid (And.intro HB (And.intro hA (And.intro hBx hZ)))
      clear ht hn ha hb sa sb c2 hk ek HB hA hBx hZ z1
      go_enter Try.func49, Try.ntmps49
      go_wp2_with (fail)
      obtain ⟨hB, hA, hBx, hZ⟩ := HH.out
      clear HH
      generalize ((w.alloc (.cells #[.int .i64 p, .string s] 41)).alloc (.cells #[.int .i64 q, .string u] 41)).alloc (.cells #[.int .i64 0, .string ⟨#[]⟩] 41) = W at *
      have S0 : W.drew.cell? ⟨w.heap.size, 0, none⟩ = some (.int .i64 p) ∧ W.drew.cell? ⟨w.heap.size, 1, none⟩ = some (.string s) ∧ W.drew.cell? ⟨w.heap.size + 1, 1, none⟩ = some (.string u) ∧ True := ⟨(cel2 hA).1, (cel2 hA).2, (cel2 hBx).2, trivial⟩
      have hA2 : Cel ((W.setCell ⟨w.heap.size + 2, 0, none⟩ (.int .i64 p)).setCell ⟨w.heap.size + 2, 1, none⟩ (.string (s ++ y))).drew w.heap.size 41 #[.int .i64 p, .string s] := (hA.other _ _ (by simp)).other _ _ (by simp)
      have hB2 : Cel ((W.setCell ⟨w.heap.size + 2, 0, none⟩ (.int .i64 p)).setCell ⟨w.heap.size + 2, 1, none⟩ (.string (s ++ y))).drew (w.heap.size + 1) 41 #[.int .i64 q, .string u] := (hBx.other _ _ (by simp)).other _ _ (by simp)
      have hZ2 : Cel ((W.setCell ⟨w.heap.size + 2, 0, none⟩ (.int .i64 p)).setCell ⟨w.heap.size + 2, 1, none⟩ (.string (s ++ y))).drew (w.heap.size + 2) 41 #[.int .i64 p, .string (s ++ y)] := by
        have := (hZ.set 0 (.int .i64 p)).set 1 (.string (s ++ y))
        simp at this
        exact this
      obtain ⟨A0, A1⟩ := cel2 hA2
      obtain ⟨-, B1⟩ := cel2 hB2
      have HF := Lib.hid (And.intro hZ2 ((hB.setCell (p := ⟨w.heap.size + 2, 0, none⟩) (by simp) (.int .i64 p)).setCell (p := ⟨w.heap.size + 2, 1, none⟩) (by simp) (.string (s ++ y))).drew)
      clear hA2 hB2 hZ2 hB hA hBx
      refine wp_region_held_drew (S := fun W => W.cell? ⟨w.heap.size, 0, none⟩ = some (.int .i64 p) ∧ W.cell? ⟨w.heap.size, 1, none⟩ = some (.string s) ∧ W.cell? ⟨w.heap.size + 1, 1, none⟩ = some (.string u) ∧ True) (by kernel_rfl) S0 (fun hHeld => ?_)
      refine take_yes (i := 0) (oi := { dst := some 70, op := Op.fieldAddr 41 (Operand.tmp 2) 0, type := 0, pos := "l09_pieces.go:57", after := #[], guard := none }) (v := .pointer (some ⟨w.heap.size, 0, none⟩)) rfl (by kernel_rfl) (by kernel_rfl) (by kernel_rfl) (fun _ _ _ h => h) (by rfl) (fun w hSw => by (try dsimp only at hSw); go_simp) (by assumption) ?_
      try simp only [Act.put, List.setIfInBounds_toArray, List.set_cons_zero, List.set_cons_succ]
      refine take_yes (i := 1) (oi := { dst := some 71, op := Op.load 3 (Operand.tmp 70), type := 3, pos := "l09_pieces.go:57", after := #[{ on := 0, ground := Ground.data }], guard := none }) (v := .int .i64 p) rfl (by kernel_rfl) (by kernel_rfl) (by kernel_rfl) (fun _ _ _ h => h) (by rfl) (fun w hSw => by (try dsimp only at hSw); go_simp) (by assumption) ?_
      try simp only [Act.put, List.setIfInBounds_toArray, List.set_cons_zero, List.set_cons_succ]
      refine take_yes (i := 2) (oi := { dst := some 72, op := Op.fieldAddr 41 (Operand.tmp 2) 1, type := 0, pos := "l09_pieces.go:57", after := #[], guard := none }) (v := .pointer (some ⟨w.heap.size, 1, none⟩)) rfl (by kernel_rfl) (by kernel_rfl) (by kernel_rfl) (fun _ _ _ h => h) (by rfl) (fun w hSw => by (try dsimp only at hSw); go_simp) (by assumption) ?_
      try simp only [Act.put, List.setIfInBounds_toArray, List.set_cons_zero, List.set_cons_succ]
      refine take_yes (i := 3) (oi := { dst := some 73, op := Op.load 9 (Operand.tmp 72), type := 9, pos := "l09_pieces.go:57", after := #[{ on := 2, ground := Ground.data }], guard := none }) (v := .string s) rfl (by kernel_rfl) (by kernel_rfl) (by kernel_rfl) (fun _ _ _ h => h) (by rfl) (fun w hSw => by (try dsimp only at hSw); go_simp) (by assumption) ?_
      try simp only [Act.put, List.setIfInBounds_toArray, List.set_cons_zero, List.set_cons_succ]
      refine take_yes (i := 4) (oi := { dst := some 74, op := Op.fieldAddr 41 (Operand.tmp 3) 1, type := 0, pos := "l09_pieces.go:57", after := #[], guard := none }) (v := .pointer (some ⟨w.heap.size + 1, 1, none⟩)) rfl (by kernel_rfl) (by kernel_rfl) (by kernel_rfl) (fun _ _ _ h => h) (by rfl) (fun w hSw => by (try dsimp only at hSw); go_simp) (by assumption) ?_
      try simp only [Act.put, List.setIfInBounds_toArray, List.set_cons_zero, List.set_cons_succ]
      refine take_yes (i := 5) (oi := { dst := some 75, op := Op.load 9 (Operand.tmp 74), type := 9, pos := "l09_pieces.go:57", after := #[{ on := 4, ground := Ground.data }], guard := none }) (v := .string u) rfl (by kernel_rfl) (by kernel_rfl) (by kernel_rfl) (fun _ _ _ h => h) (by rfl) (fun w hSw => by (try dsimp only at hSw); go_simp) (by assumption) ?_
      try simp only [Act.put, List.setIfInBounds_toArray, List.set_cons_zero, List.set_cons_succ]
      refine take_yes (i := 6) (oi := { dst := some 76, op := Op.fieldAddr 41 (Operand.tmp 3) 1, type := 0, pos := "l09_pieces.go:57", after := #[], guard := none }) (v := .pointer (some ⟨w.heap.size + 1, 1, none⟩)) rfl (by kernel_rfl) (by kernel_rfl) (by kernel_rfl) (fun _ _ _ h => h) (by rfl) (fun w hSw => by (try dsimp only at hSw); go_simp) (by assumption) ?_
      try simp only [Act.put, List.setIfInBounds_toArray, List.set_cons_zero, List.set_cons_succ]
      refine take_yes (i := 7) (oi := { dst := some 77, op := Op.load 9 (Operand.tmp 76), type := 9, pos := "l09_pieces.go:57", after := #[{ on := 6, ground := Ground.data }], guard := none }) (v := .string u) rfl (by kernel_rfl) (by kernel_rfl) (by kernel_rfl) (fun _ _ _ h => h) (by rfl) (fun w hSw => by (try dsimp only at hSw); go_simp) (by assumption) ?_
      try simp only [Act.put, List.setIfInBounds_toArray, List.set_cons_zero, List.set_cons_succ]
      refine take_yes (i := 8) (oi := { dst := some 78, op := Op.call { callee := Callee.builtin Builtin.len, args := #[Operand.tmp 77], argTypes := #[9] }, type := 3, pos := "l09_pieces.go:57", after := #[{ on := 7, ground := Ground.data }], guard := none }) (v := .int .i64 (u.size : Int)) rfl (by kernel_rfl) (by kernel_rfl) (by kernel_rfl) (fun _ _ _ h => h) (by rfl) (fun w hSw => by (try dsimp only at hSw); go_simp) (by assumption) ?_
      try simp only [Act.put, List.setIfInBounds_toArray, List.set_cons_zero, List.set_cons_succ]
      refine take_yes (i := 9) (oi := { dst := some 79, op := Op.move (Operand.tmp 8), type := 3, pos := "l09_pieces.go:57", after := #[], guard := none }) (v := .int .i64 n) rfl (by kernel_rfl) (by kernel_rfl) (by kernel_rfl) (fun _ _ _ h => h) (by rfl) (fun w hSw => by (try dsimp only at hSw); go_simp) (by assumption) ?_
      try simp only [Act.put, List.setIfInBounds_toArray, List.set_cons_zero, List.set_cons_succ]
      refine take_yes (i := 10) (oi := { dst := some 80, op := Op.binOp BinOp.sub 3 (Operand.tmp 78) (Operand.tmp 79) 3, type := 3, pos := "l09_pieces.go:57", after := #[{ on := 8, ground := Ground.data }, { on := 9, ground := Ground.data }], guard := none }) (v := .int .i64 k) rfl (by kernel_rfl) (by kernel_rfl) (by kernel_rfl) (fun _ _ _ h => h) (by rfl) (fun w hSw => by (try dsimp only at hSw); go_simp) (by assumption) ?_
      try simp only [Act.put, List.setIfInBounds_toArray, List.set_cons_zero, List.set_cons_succ]
      refine take_yes (i := 11) (oi := { dst := some 81, op := Op.slice 9 (Operand.tmp 75) (some (Operand.tmp 80)) none none, type := 9, pos := "l09_pieces.go:57", after := #[{ on := 5, ground := Ground.data }, { on := 10, ground := Ground.data }], guard := none }) (v := .string y) rfl (by kernel_rfl) (by kernel_rfl) (by kernel_rfl) (fun _ _ _ h => h) (by rfl) (fun w hSw => by (try dsimp only at hSw); go_simp) (by assumption) ?_
      try simp only [Act.put, List.setIfInBounds_toArray, List.set_cons_zero, List.set_cons_succ]
      refine take_yes (i := 12) (oi := { dst := some 82, op := Op.binOp BinOp.add 9 (Operand.tmp 73) (Operand.tmp 81) 9, type := 9, pos := "l09_pieces.go:57", after := #[{ on := 3, ground := Ground.data }, { on := 11, ground := Ground.data }], guard := none }) (v := .string (s ++ y)) rfl (by kernel_rfl) (by kernel_rfl) (by kernel_rfl) (fun _ _ _ h => h) (by rfl) (fun w hSw => by (try dsimp only at hSw); go_simp) (by assumption) ?_
      try simp only [Act.put, List.setIfInBounds_toArray, List.set_cons_zero, List.set_cons_succ]
      refine take_yes (i := 13) (oi := { dst := some 83, op := Op.build 41 #[(0, Operand.tmp 71), (1, Operand.tmp 82)], type := 41, pos := "l09_pieces.go:57", after := #[{ on := 1, ground := Ground.data }, { on := 12, ground := Ground.data }], guard := none }) (v := .agg #[.int .i64 p, .string (s ++ y)]) rfl (by kernel_rfl) (by kernel_rfl) (by kernel_rfl) (fun _ _ _ h => h) (by rfl) (fun w hSw => by (try dsimp only at hSw); go_simp) (by assumption) ?_
      try simp only [Act.put, List.setIfInBounds_toArray, List.set_cons_zero, List.set_cons_succ]
      refine wpAnyH_ready (rs := [14]) (by kernel_rfl) (by simp) ?_
      refine AllReadyH.cons (o := { dst := none, op := Op.store 41 (Operand.tmp 4) (Operand.tmp 83), type := 0, pos := "l09_pieces.go:57", after := #[{ on := 13, ground := Ground.data }, { on := 0, ground := Ground.phase }, { on := 1, ground := Ground.phase }, { on := 2, ground := Ground.phase }, { on := 3, ground := Ground.phase }, { on := 4, ground := Ground.phase }, { on := 5, ground := Ground.phase }, { on := 6, ground := Ground.phase }, { on := 7, ground := Ground.phase }, { on := 8, ground := Ground.phase }, { on := 9, ground := Ground.phase }, { on := 10, ground := Ground.phase }, { on := 11, ground := Ground.phase }, { on := 12, ground := Ground.phase }, { on := 13, ground := Ground.phase }], guard := none }) rfl (fun K hK => ?_) AllReadyH.nil
      obtain ⟨d0, d1⟩ := cel2 hZ
      have j0 := hZ.frozen 0
      have j1 := hZ.frozen 1
      go_simp
      refine hK.out _ _ ⟨A0, A1, B1, trivial⟩ (fun hHeldN => ?_)
      clear hK K hHeld
      have hHeld := hHeldN
      clear hHeldN
      try simp only [Act.put, List.setIfInBounds_toArray, List.set_cons_zero, List.set_cons_succ]
      refine wpAnyH_done (by kernel_rfl) ?_ _
      clear hHeld
      go_wp2_with (fail)
      refine bodyPost_ret (pc_result HF.out.1 rfl _ rfl) rfl ⟨rfl, HF.out.2⟩
end Go.Proofs.Ytdajfnonehianaa
