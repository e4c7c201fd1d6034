import Derived.Test.YtdajfnonehianaaPxm
namespace Go.Proofs.Ytdajfnonehianaa
open Go.RowKit

/-- FnStays' streams: the two drawn ones, what came of the first, once and twice, and with other bytes. -/
structure Fy (w W : World) (g3 g6 g9 g10 g13 : Nat) (r : Int) (t : ByteArray) (a1 a2 : Option Addr) (c1 c2 : Nat) (ms : List Pc) (r1 : Int) (t1 : ByteArray) (a3 a4 : Option Addr) (c3 c4 : Nat) (m1 : List Pc) (r3 : Int) (t3 : ByteArray) (u6 : Value) (m3 : List Pc) : Prop where
  p3 : P1 W g3 r t (.slice a1 ms.length c1) ms
  p6 : P1 W g6 r t (.slice a2 ms.length c2) ms
  p9 : P1 W g9 r1 t1 (.slice a3 m1.length c3) m1
  p10 : P1 W g10 r1 t1 (.slice a4 m1.length c4) m1
  p13 : P1 W g13 r3 t3 u6 m3
  bl : Below w.heap.size w W
section
variable {w W W' : World} {g3 g6 g9 g10 g13 : Nat} {r : Int} {t : ByteArray} {a1 a2 : Option Addr} {c1 c2 : Nat} {ms : List Pc} {r1 : Int} {t1 : ByteArray} {a3 a4 : Option Addr} {c3 c4 : Nat} {m1 : List Pc} {r3 : Int} {t3 : ByteArray} {u6 : Value} {m3 : List Pc}
theorem Fy.kept (h : Fy w W g3 g6 g9 g10 g13 r t a1 a2 c1 c2 ms r1 t1 a3 a4 c3 c4 m1 r3 t3 u6 m3) (hb : Below W.heap.size W W') : Fy w W' g3 g6 g9 g10 g13 r t a1 a2 c1 c2 ms r1 t1 a3 a4 c3 c4 m1 r3 t3 u6 m3 :=
  ⟨h.p3.kept hb, h.p6.kept hb, h.p9.kept hb, h.p10.kept hb, h.p13.kept hb, Below.then_ h.bl hb⟩
theorem Fy.cells (h : Fy w W g3 g6 g9 g10 g13 r t a1 a2 c1 c2 ms r1 t1 a3 a4 c3 c4 m1 r3 t3 u6 m3) : W.cell? ⟨g3, 0, none⟩ = some (.int .i64 r) ∧ W.cell? ⟨g3, 1, none⟩ = some (.string t) ∧ W.cell? ⟨g3, 2, none⟩ = some (.slice a1 ms.length c1) ∧ W.cell? ⟨g6, 0, none⟩ = some (.int .i64 r) ∧ W.cell? ⟨g6, 1, none⟩ = some (.string t) ∧ W.cell? ⟨g6, 2, none⟩ = some (.slice a2 ms.length c2) ∧ W.cell? ⟨g9, 0, none⟩ = some (.int .i64 r1) ∧ W.cell? ⟨g9, 1, none⟩ = some (.string t1) ∧ W.cell? ⟨g9, 2, none⟩ = some (.slice a3 m1.length c3) ∧ W.cell? ⟨g10, 0, none⟩ = some (.int .i64 r1) ∧ W.cell? ⟨g10, 1, none⟩ = some (.string t1) ∧ W.cell? ⟨g10, 2, none⟩ = some (.slice a4 m1.length c4) ∧ W.cell? ⟨g13, 1, none⟩ = some (.string t3) :=
  ⟨h.p3.c.cell 0, h.p3.c.cell 1, h.p3.c.cell 2, h.p6.c.cell 0, h.p6.c.cell 1, h.p6.c.cell 2, h.p9.c.cell 0, h.p9.c.cell 1, h.p9.c.cell 2, h.p10.c.cell 0, h.p10.c.cell 1, h.p10.c.cell 2, h.p13.c.cell 1⟩
end

set_option linter.unusedSimpArgs false in
set_option maxRecDepth 100000 in
set_option maxHeartbeats 16000000 in
theorem fnstays_law (v : Value) (w : World) (n : Nat) (hr : RdB w v n) :
    Calls Try.prog 3 #[v] w fun e w' => e = .returned (.bool true) ∧ Below w.heap.size w w' := by
  have cb := big_call v n w hr
  by_cases hn : 1048576 < n
  · rw [decide_eq_true hn] at cb
    clear hn hr
    go_enter Try.func3, Try.ntmps3
    go_wp2_with (fail)
    with_reducible refine cb.mono ?_
    rintro e w1 ⟨rfl, rfl⟩
    go_wp2_with (fail)
    go_ret
    exact ⟨rfl, Below.refl _ _⟩
  · rw [decide_eq_false hn] at cb
    obtain ⟨bs, hbl, hlt, hrd⟩ := hr.bytes
    have cD := fun W h => draw_put_x bs hlt (by omega) v W h
    obtain ⟨hmid, -, -⟩ := any_ok (newS bs) (newS_ok bs hlt (by omega))
    have htz := drT_size bs
    generalize (anyP (newS bs)).1 = P0 at *
    generalize drAt bs = at_ at *
    generalize drT bs = tx at *
    have hmid1 := mid_put at_ tx hmid
    have hag := put_again P0 at_ tx
    obtain ⟨r, t, ms⟩ := P0
    obtain ⟨O, hO⟩ : ∃ O, putPiece ⟨r, t, ms⟩ at_ tx = O := ⟨_, rfl⟩
    rw [hO] at hmid1 hag
    obtain ⟨r1, t1, m1⟩ := O
    simp only at cD
    unfold MidP at hmid hmid1
    simp only at hmid hmid1
    have cP := fun u B C W h => impl_putPiece r t u ms at_ tx B C W h (by omega) (by omega) (by omega)
    have cP2 := fun u B C W h => impl_putPiece r1 t1 u m1 at_ tx B C W h (by omega) (by omega) (by omega)
    have cP3 := fun (s : ByteArray) (hs : s.size ≤ 120) u B C W h => impl_putPiece r1 t1 u m1 at_ s B C W h (by omega) (by omega) (by omega)
    have cP5 := fun u W h => spec_putPiece r t u ms at_ tx W h (by omega) (by omega)
    have pr := fun (s : ByteArray) => put_ready ⟨r1, t1, m1⟩ at_ s
    rw [hO] at cP cP5
    rw [hag] at cP2
    simp only at cP cP2 cP5
    have cS0 := fun u u' W h1 h2 => same_pieces r t u u' ms W h1 h2 (by omega)
    have cS1 := fun u u' W h1 h2 => same_pieces r1 t1 u u' m1 W h1 h2 (by omega)
    have cO1 := fun u W h => impl_piecesOk r1 t1 u m1 W h (by omega) (by omega)
    have cO2 := fun u W h => spec_piecesOk r1 t1 u m1 W h (by omega) (by omega)
    generalize piecesOk ⟨r1, t1, m1⟩ = ok at *
    have hrl := hrd.lt
    have htl : tx.data.toList.length = tx.size := by rw [Array.length_toList]; rfl
    clear hn hr hlt hbl hO hag hmid
    go_enter Try.func3, Try.ntmps3
    go_wp2_with (fail)
    with_reducible refine cb.mono ?_
    rintro e w0 ⟨rfl, rfl⟩
    clear cb
    go_wp2_with (fail)
    with_reducible refine (cD _ hrd).mono ?_
    rintro e w1 ⟨u1, rfl, hl1, hb1⟩
    obtain ⟨a1, c1, rfl, -⟩ := hl1.form
    have hbn := below_new w1 (.cells #[.int .i64 r, .string t, (.slice a1 ms.length c1)] 26)
    have K1 := Lib.hid (And.intro (P1.new (r := r) (t := t) hl1) (And.intro (Below.then_ hb1 hbn) (hrd.below (Below.then_ hb1 hbn) hrl)))
    clear hl1 hb1 hbn
    go_upto_region 4 with (fail)
    obtain ⟨g3, hg⟩ : ∃ g3, w1.heap.size = g3 := ⟨_, rfl⟩
    rw [hg] at K1 ⊢
    generalize w1.alloc (.cells #[.int .i64 r, .string t, (.slice a1 ms.length c1)] 26) = w2 at *
    clear hg
    go_wp2_with (fail)
    with_reducible refine (cD _ K1.out.2.2).mono ?_
    rintro e w3 ⟨u2, rfl, hl3, hb3⟩
    obtain ⟨a2, c2, rfl, -⟩ := hl3.form
    have hbn := below_new w3 (.cells #[.int .i64 r, .string t, (.slice a2 ms.length c2)] 26)
    have K2 := Lib.hid (And.intro ((K1.out.1.kept hb3).kept hbn) (And.intro (P1.new (r := r) (t := t) hl3) (Below.then_ (Below.then_ K1.out.2.1 hb3) hbn)))
    clear hl3 hb3 hbn K1 cD hrd hrl
    go_upto_region 5 with (fail)
    obtain ⟨g6, hg⟩ : ∃ g6, w3.heap.size = g6 := ⟨_, rfl⟩
    rw [hg] at K2 ⊢
    generalize w3.alloc (.cells #[.int .i64 r, .string t, (.slice a2 ms.length c2)] 26) = w4 at *
    clear hg
    obtain ⟨x0, x1, x2⟩ := cel3' K2.out.1.c
    obtain ⟨B1, C1, hl⟩ := K2.out.1.l
    go_wp2_with (fail)
    with_reducible refine (cP _ _ _ _ hl).mono ?_
    rintro e w5 ⟨u3, rfl, ho5, hb5⟩
    obtain ⟨a3, c3, rfl, -⟩ := ho5.lie.form
    have hbn := below_new w5 (.cells #[.int .i64 r1, .string t1, (.slice a3 m1.length c3)] 26)
    have K3 := Lib.hid (And.intro ((K2.out.1.kept hb5).kept hbn) (And.intro ((K2.out.2.1.kept hb5).kept hbn) (And.intro (P1.new (r := r1) (t := t1) ho5.lie) (Below.then_ (Below.then_ K2.out.2.2 hb5) hbn))))
    clear K2 hl ho5 hb5 hbn cP x0 x1 x2
    go_upto_region 6 with (fail)
    obtain ⟨g9, hg⟩ : ∃ g9, w5.heap.size = g9 := ⟨_, rfl⟩
    rw [hg] at K3 ⊢
    generalize w5.alloc (.cells #[.int .i64 r1, .string t1, (.slice a3 m1.length c3)] 26) = w6 at *
    clear hg
    obtain ⟨x0, x1, x2⟩ := cel3' K3.out.2.2.1.c
    obtain ⟨B1, C1, hl⟩ := K3.out.2.2.1.l
    go_wp2_with (fail)
    with_reducible refine (cP2 _ _ _ _ hl).mono ?_
    rintro e w7 ⟨u4, rfl, ho7, hb7⟩
    obtain ⟨a4, c4, rfl, -⟩ := ho7.lie.form
    have hbn := below_new w7 (.cells #[.int .i64 r1, .string t1, (.slice a4 m1.length c4)] 26)
    have K4 := Lib.hid (And.intro ((K3.out.1.kept hb7).kept hbn) (And.intro ((K3.out.2.1.kept hb7).kept hbn) (And.intro ((K3.out.2.2.1.kept hb7).kept hbn) (And.intro (P1.new (r := r1) (t := t1) ho7.lie) (Below.then_ (Below.then_ K3.out.2.2.2 hb7) hbn)))))
    clear K3 hl ho7 hb7 hbn cP2 x0 x1 x2
    go_upto_region 7 with (fail)
    obtain ⟨g10, hg⟩ : ∃ g10, w7.heap.size = g10 := ⟨_, rfl⟩
    rw [hg] at K4 ⊢
    generalize w7.alloc (.cells #[.int .i64 r1, .string t1, (.slice a4 m1.length c4)] 26) = w8 at *
    clear hg
    have hcv := fun W : World => run_bytes_of_string W 9 22 5 tx Try.underlying9 Try.underlying22 Try.underlying5
    have hrow := BRow.of_string w8 tx w8.heap.size (Nat.le_refl _) (by unfold maxLen; omega)
    have hB : Below w8.heap.size w8 (w8.alloc (.cells (bytesRow tx (grownCap w8 tx.size 0 5)) 5 ((bytesRow tx (grownCap w8 tx.size 0 5)).size, (bytesRow tx (grownCap w8 tx.size 0 5)).size + 1))).drew := ((Below.refl _ _).alloc (Nat.le_refl _) _).drew
    go_upto_region 8 with (fail)
    clear hcv
    have hrow : BRow (w8.alloc (.cells (bytesRow tx (grownCap w8 tx.size 0 5)) 5 ((bytesRow tx (grownCap w8 tx.size 0 5)).size, (bytesRow tx (grownCap w8 tx.size 0 5)).size + 1))).drew w8.heap.size (.slice (some ⟨w8.heap.size, 0, none⟩) tx.size (grownCap w8 tx.size 0 5)) tx.data.toList := hrow
    generalize (w8.alloc (.cells (bytesRow tx (grownCap w8 tx.size 0 5)) 5 ((bytesRow tx (grownCap w8 tx.size 0 5)).size, (bytesRow tx (grownCap w8 tx.size 0 5)).size + 1))).drew = w9 at hrow hB ⊢
    generalize grownCap w8 tx.size 0 5 = cap at hrow ⊢
    obtain ⟨gb, hgb⟩ : ∃ gb, w8.heap.size = gb := ⟨_, rfl⟩
    rw [hgb] at hrow hB ⊢
    rw [← htl] at hrow
    have K5 := Lib.hid (And.intro (BB.of_row hrow) hB)
    clear hrow hB
    go_wp2_with (fail)
    go_loopw [12] (fun i wr => ∃ (k : Nat) (l : List UInt8), k ≤ tx.size ∧ i = .int .i64 (k : Int) ∧ l.length = tx.size ∧ BB wr gb l ∧ Below gb w8 wr) (fun i _ => 300 - (intOf i).toNat)
    case atStart => exact ⟨0, tx.data.toList, Nat.zero_le _, rfl, htl, K5.out.1, K5.out.2⟩
    case round =>
      clear K5
      obtain ⟨k, l, hk, rfl, hll, hbb, hB⟩ := hrel
      by_cases hlt : k < tx.size
      · have q1 : (k : Int) < (tx.size : Int) := by omega
        have q2 : (0 : Int) ≤ (k : Int) := by omega
        have e9 : IntKind.i64.wrap ((k : Int) + 1) = (k : Int) + 1 := IntWalk.i64_in _ (by omega)
        obtain ⟨cl, fr⟩ := hbb.cell k (by omega)
        have hx := bits_xor_u8 (l[k]'(by omega)) 1
        rw [show ((1 : UInt8).toNat : Int) = 1 from rfl] at hx
        have HS := Lib.hid (And.intro (hbb.set k (l[k]'(by omega) ^^^ 1)) (hB.setCell (p := ⟨gb, k, none⟩) (Nat.le_refl _) (.int .u8 ((l[k]'(by omega) ^^^ 1).toNat : Int))))
        generalize (l[k]'(by omega)) ^^^ 1 = y at *
        generalize (l[k]'(by omega)) = y0 at *
        clear hbb hB
        go_wp2_with (fail)
        go_roundw
        case rel => exact ⟨k + 1, l.set k y, by omega, by go_num, by rw [List.length_set]; exact hll, HS.out.1, HS.out.2⟩
        case measure => simp [intOf]; omega
      · have q1 : ¬ (k : Int) < (tx.size : Int) := by omega
        have hcv := hbb.conv (cap := cap) hll
        obtain ⟨s, hs⟩ : ∃ s : ByteArray, s = ⟨l.toArray⟩ := ⟨_, rfl⟩
        have hsz : s.size ≤ 120 := by rw [hs]; show l.toArray.size ≤ 120; rw [List.size_toArray]; omega
        rw [← hs] at hcv
        have cQ := cP3 s hsz
        obtain ⟨tail, htail⟩ := pr s
        rw [← hgb] at hB
        have K6 := Lib.hid (And.intro (K4.out.1.kept hB) (And.intro (K4.out.2.1.kept hB) (And.intro (K4.out.2.2.1.kept hB) (And.intro (K4.out.2.2.2.1.kept hB) (Below.then_ K4.out.2.2.2.2 hB)))))
        clear K4 hB hbb hll hk hlt hs cP3 pr htl hgb
        generalize putPiece ⟨r1, t1, m1⟩ at_ s = Q at *
        obtain ⟨r3, t3, m3⟩ := Q
        simp only at cQ htail
        have ht3 : t3.size = t1.size + tail.size := by rw [htail]; exact ByteArray.size_append
        have hsl := cut_to t3 (t1.size : Int) (by omega) (by omega)
        rw [show ((t1.size : Nat) : Int).toNat = t1.size by omega] at hsl
        have hfr : t3.extract 0 t1.size = t1 := by rw [htail]; exact app_front t1 tail
        rw [hfr] at hsl
        have hge : (t1.size : Int) ≤ (t3.size : Int) := by omega
        clear htail ht3 hfr
        obtain ⟨x0, x1, x2⟩ := cel3' K6.out.2.2.1.c
        obtain ⟨B1, C1, hl⟩ := K6.out.2.2.1.l
        go_wp2_with (fail)
        with_reducible refine (cQ _ _ _ _ hl).mono ?_
        rintro e wa ⟨u6, rfl, hoa, hba⟩
        obtain ⟨a6, c6, rfl, -⟩ := hoa.lie.form
        have hbn := below_new wa (.cells #[.int .i64 r3, .string t3, .slice a6 m3.length c6] 26)
        have hY : Fy w (wa.alloc (.cells #[.int .i64 r3, .string t3, .slice a6 m3.length c6] 26)) g3 g6 g9 g10 wa.heap.size r t a1 a2 c1 c2 ms r1 t1 a3 a4 c3 c4 m1 r3 t3 (.slice a6 m3.length c6) m3 :=
          ⟨(K6.out.1.kept hba).kept hbn, (K6.out.2.1.kept hba).kept hbn, (K6.out.2.2.1.kept hba).kept hbn, (K6.out.2.2.2.1.kept hba).kept hbn, P1.new hoa.lie, Below.then_ (Below.then_ K6.out.2.2.2.2 hba) hbn⟩
        have KY := Lib.hid hY
        clear K6 hl hoa hba hbn cQ x0 x1 x2 hY hcv hsz
        go_upto_region 13 with (fail)
        obtain ⟨g13, hg⟩ : ∃ g13, wa.heap.size = g13 := ⟨_, rfl⟩
        rw [hg] at KY ⊢
        generalize wa.alloc (.cells #[.int .i64 r3, .string t3, .slice a6 m3.length c6] 26) = wb at *
        clear hg
        have KZ := Lib.hid (KY.out.kept (Below.refl _ _).drew)
        have KZe := KZ.out.cells
        clear KY
        refine wp_region_held_drew (S := fun W => W.cell? ⟨g3, 0, none⟩ = some (.int .i64 r) ∧ W.cell? ⟨g3, 1, none⟩ = some (.string t) ∧ W.cell? ⟨g3, 2, none⟩ = some (.slice a1 ms.length c1) ∧ W.cell? ⟨g6, 0, none⟩ = some (.int .i64 r) ∧ W.cell? ⟨g6, 1, none⟩ = some (.string t) ∧ W.cell? ⟨g6, 2, none⟩ = some (.slice a2 ms.length c2) ∧ W.cell? ⟨g9, 0, none⟩ = some (.int .i64 r1) ∧ W.cell? ⟨g9, 1, none⟩ = some (.string t1) ∧ W.cell? ⟨g9, 2, none⟩ = some (.slice a3 m1.length c3) ∧ W.cell? ⟨g10, 0, none⟩ = some (.int .i64 r1) ∧ W.cell? ⟨g10, 1, none⟩ = some (.string t1) ∧ W.cell? ⟨g10, 2, none⟩ = some (.slice a4 m1.length c4) ∧ W.cell? ⟨g13, 1, none⟩ = some (.string t3)) (by kernel_rfl) KZe (fun hHeld => ?_)
        refine take_yes (i := 0) (oi := { dst := some 57, op := Op.load 26 (Operand.tmp 9), type := 26, pos := "laws.go:462", after := #[], guard := none }) (v := .agg #[.int .i64 r1, .string t1, (.slice a3 m1.length c3)]) rfl (by kernel_rfl) (by kernel_rfl) (by kernel_rfl) (fun _ _ _ h => h) (by rfl) (fun w hSw => by (try dsimp only at hSw); go_simp) (by assumption) ?_
        try simp only [Act.put, List.setIfInBounds_toArray, List.set_cons_zero, List.set_cons_succ]
        refine take_yes (i := 1) (oi := { dst := some 58, op := Op.load 26 (Operand.tmp 6), type := 26, pos := "laws.go:462", after := #[], guard := none }) (v := .agg #[.int .i64 r, .string t, (.slice a2 ms.length c2)]) rfl (by kernel_rfl) (by kernel_rfl) (by kernel_rfl) (fun _ _ _ h => h) (by rfl) (fun w hSw => by (try dsimp only at hSw); go_simp) (by assumption) ?_
        try simp only [Act.put, List.setIfInBounds_toArray, List.set_cons_zero, List.set_cons_succ]
        refine take_yes (i := 2) (oi := { dst := some 59, op := Op.move (Operand.tmp 4), type := 3, pos := "laws.go:462", after := #[], guard := none }) (v := .int .i64 at_) rfl (by kernel_rfl) (by kernel_rfl) (by kernel_rfl) (fun _ _ _ h => h) (by rfl) (fun w hSw => by (try dsimp only at hSw); go_simp) (by assumption) ?_
        try simp only [Act.put, List.setIfInBounds_toArray, List.set_cons_zero, List.set_cons_succ]
        refine take_yes (i := 3) (oi := { dst := some 60, op := Op.move (Operand.tmp 5), type := 9, pos := "laws.go:462", after := #[], guard := none }) (v := .string tx) rfl (by kernel_rfl) (by kernel_rfl) (by kernel_rfl) (fun _ _ _ h => h) (by rfl) (fun w hSw => by (try dsimp only at hSw); go_simp) (by assumption) ?_
        try simp only [Act.put, List.setIfInBounds_toArray, List.set_cons_zero, List.set_cons_succ]
        refine wpAnyH_ready (rs := [4]) (by kernel_rfl) (by simp) ?_
        refine AllReadyH.cons (o := { dst := some 61, op := Op.call { callee := Callee.value (Operand.func 15), args := #[Operand.tmp 58, Operand.tmp 59, Operand.tmp 60], argTypes := #[26, 3, 9] }, type := 26, pos := "laws.go:462", after := #[{ on := 1, ground := Ground.data }, { on := 2, ground := Ground.data }, { on := 3, ground := Ground.data }], guard := none }) rfl (fun K hK => ?_) AllReadyH.nil
        go_simp
        with_reducible refine (cP5 _ _ KZ.out.p6.rd).mono ?_
        rintro e wX1 ⟨u5, rfl, hl5, hbX⟩
        have HX1 := Lib.hid (KZ.out.kept hbX)
        have HX1e := HX1.out.cells
        obtain ⟨a5, c5, rfl, -⟩ := hl5.form
        have h5 := Lib.hid hl5.rd
        clear hl5
        clear hbX KZ
        refine hK.out _ _ HX1e (fun hHeldN => ?_)
        clear hK K hHeld
        have hHeld := hHeldN
        clear hHeldN
        try simp only [Act.put, List.setIfInBounds_toArray, List.set_cons_zero, List.set_cons_succ]
        refine wpAnyH_ready (rs := [5]) (by kernel_rfl) (by simp) ?_
        refine AllReadyH.cons (o := { dst := some 62, op := Op.call { callee := Callee.value (Operand.func 14), args := #[Operand.tmp 57, Operand.tmp 61], argTypes := #[26, 26] }, type := 4, pos := "laws.go:462", after := #[{ on := 0, ground := Ground.data }, { on := 4, ground := Ground.data }, { on := 4, ground := Ground.chain }], guard := none }) rfl (fun K hK => ?_) AllReadyH.nil
        go_simp
        with_reducible refine (cS1 _ _ _ HX1.out.p9.rd h5.out).mono ?_
        rintro e wX2 ⟨rfl, hbX⟩
        have HX2 := Lib.hid (HX1.out.kept hbX)
        have HX2e := HX2.out.cells
        clear h5
        clear hbX HX1
        refine hK.out _ _ HX2e (fun hHeldN => ?_)
        clear hK K hHeld
        have hHeld := hHeldN
        clear hHeldN
        try simp only [Act.put, List.setIfInBounds_toArray, List.set_cons_zero, List.set_cons_succ]
        refine take_yes (i := 6) (oi := { dst := some 63, op := Op.move (Operand.tmp 62), type := 4, pos := "laws.go:462", after := #[{ on := 5, ground := Ground.data }, { on := 5, ground := Ground.chain }], guard := none }) (v := .bool true) rfl (by kernel_rfl) (by kernel_rfl) (by kernel_rfl) (fun _ _ _ h => h) (by rfl) (fun w hSw => by (try dsimp only at hSw); go_simp) (by assumption) ?_
        try simp only [Act.put, List.setIfInBounds_toArray, List.set_cons_zero, List.set_cons_succ]
        refine take_yes (i := 7) (oi := { dst := some 64, op := Op.load 26 (Operand.tmp 9), type := 26, pos := "laws.go:462", after := #[{ on := 6, ground := Ground.guard }], guard := some (6, true) }) (v := .agg #[.int .i64 r1, .string t1, (.slice a3 m1.length c3)]) rfl (by kernel_rfl) (by kernel_rfl) (by kernel_rfl) (fun _ _ _ h => h) (by rfl) (fun w hSw => by (try dsimp only at hSw); go_simp) (by assumption) ?_
        try simp only [Act.put, List.setIfInBounds_toArray, List.set_cons_zero, List.set_cons_succ]
        refine take_yes (i := 8) (oi := { dst := some 65, op := Op.load 26 (Operand.tmp 10), type := 26, pos := "laws.go:462", after := #[{ on := 6, ground := Ground.guard }], guard := some (6, true) }) (v := .agg #[.int .i64 r1, .string t1, (.slice a4 m1.length c4)]) rfl (by kernel_rfl) (by kernel_rfl) (by kernel_rfl) (fun _ _ _ h => h) (by rfl) (fun w hSw => by (try dsimp only at hSw); go_simp) (by assumption) ?_
        try simp only [Act.put, List.setIfInBounds_toArray, List.set_cons_zero, List.set_cons_succ]
        refine wpAnyH_ready (rs := [9]) (by kernel_rfl) (by simp) ?_
        refine AllReadyH.cons (o := { dst := some 66, op := Op.call { callee := Callee.value (Operand.func 14), args := #[Operand.tmp 64, Operand.tmp 65], argTypes := #[26, 26] }, type := 4, pos := "laws.go:462", after := #[{ on := 7, ground := Ground.data }, { on := 8, ground := Ground.data }, { on := 6, ground := Ground.chain }, { on := 6, ground := Ground.guard }], guard := some (6, true) }) rfl (fun K hK => ?_) AllReadyH.nil
        go_simp
        with_reducible refine (cS1 _ _ _ HX2.out.p9.rd HX2.out.p10.rd).mono ?_
        rintro e wX3 ⟨rfl, hbX⟩
        have HX3 := Lib.hid (HX2.out.kept hbX)
        have HX3e := HX3.out.cells
        clear hbX HX2
        refine hK.out _ _ HX3e (fun hHeldN => ?_)
        clear hK K hHeld
        have hHeld := hHeldN
        clear hHeldN
        try simp only [Act.put, List.setIfInBounds_toArray, List.set_cons_zero, List.set_cons_succ]
        refine take_yes (i := 10) (oi := { dst := some 67, op := Op.pick (Operand.tmp 63) (Operand.tmp 66) (Operand.const (Value.bool false)), type := 4, pos := "laws.go:462", after := #[{ on := 6, ground := Ground.data }, { on := 9, ground := Ground.data }], guard := none }) (v := .bool true) rfl (by kernel_rfl) (by kernel_rfl) (by kernel_rfl) (fun _ _ _ h => h) (by rfl) (fun w hSw => by (try dsimp only at hSw); go_simp) (by assumption) ?_
        try simp only [Act.put, List.setIfInBounds_toArray, List.set_cons_zero, List.set_cons_succ]
        refine take_yes (i := 11) (oi := { dst := some 68, op := Op.move (Operand.tmp 67), type := 4, pos := "laws.go:462", after := #[{ on := 10, ground := Ground.data }, { on := 9, ground := Ground.chain }], guard := none }) (v := .bool true) rfl (by kernel_rfl) (by kernel_rfl) (by kernel_rfl) (fun _ _ _ h => h) (by rfl) (fun w hSw => by (try dsimp only at hSw); go_simp) (by assumption) ?_
        try simp only [Act.put, List.setIfInBounds_toArray, List.set_cons_zero, List.set_cons_succ]
        refine take_yes (i := 12) (oi := { dst := some 69, op := Op.load 26 (Operand.tmp 3), type := 26, pos := "laws.go:462", after := #[{ on := 11, ground := Ground.guard }], guard := some (11, true) }) (v := .agg #[.int .i64 r, .string t, (.slice a1 ms.length c1)]) rfl (by kernel_rfl) (by kernel_rfl) (by kernel_rfl) (fun _ _ _ h => h) (by rfl) (fun w hSw => by (try dsimp only at hSw); go_simp) (by assumption) ?_
        try simp only [Act.put, List.setIfInBounds_toArray, List.set_cons_zero, List.set_cons_succ]
        refine take_yes (i := 13) (oi := { dst := some 70, op := Op.load 26 (Operand.tmp 6), type := 26, pos := "laws.go:462", after := #[{ on := 11, ground := Ground.guard }], guard := some (11, true) }) (v := .agg #[.int .i64 r, .string t, (.slice a2 ms.length c2)]) rfl (by kernel_rfl) (by kernel_rfl) (by kernel_rfl) (fun _ _ _ h => h) (by rfl) (fun w hSw => by (try dsimp only at hSw); go_simp) (by assumption) ?_
        try simp only [Act.put, List.setIfInBounds_toArray, List.set_cons_zero, List.set_cons_succ]
        refine wpAnyH_ready (rs := [14]) (by kernel_rfl) (by simp) ?_
        refine AllReadyH.cons (o := { dst := some 71, op := Op.call { callee := Callee.value (Operand.func 14), args := #[Operand.tmp 69, Operand.tmp 70], argTypes := #[26, 26] }, type := 4, pos := "laws.go:462", after := #[{ on := 12, ground := Ground.data }, { on := 13, ground := Ground.data }, { on := 11, ground := Ground.chain }, { on := 11, ground := Ground.guard }], guard := some (11, true) }) rfl (fun K hK => ?_) AllReadyH.nil
        go_simp
        with_reducible refine (cS0 _ _ _ HX3.out.p3.rd HX3.out.p6.rd).mono ?_
        rintro e wX4 ⟨rfl, hbX⟩
        have HX4 := Lib.hid (HX3.out.kept hbX)
        have HX4e := HX4.out.cells
        clear hbX HX3
        refine hK.out _ _ HX4e (fun hHeldN => ?_)
        clear hK K hHeld
        have hHeld := hHeldN
        clear hHeldN
        try simp only [Act.put, List.setIfInBounds_toArray, List.set_cons_zero, List.set_cons_succ]
        refine take_yes (i := 15) (oi := { dst := some 72, op := Op.pick (Operand.tmp 68) (Operand.tmp 71) (Operand.const (Value.bool false)), type := 4, pos := "laws.go:462", after := #[{ on := 11, ground := Ground.data }, { on := 14, ground := Ground.data }], guard := none }) (v := .bool true) rfl (by kernel_rfl) (by kernel_rfl) (by kernel_rfl) (fun _ _ _ h => h) (by rfl) (fun w hSw => by (try dsimp only at hSw); go_simp) (by assumption) ?_
        try simp only [Act.put, List.setIfInBounds_toArray, List.set_cons_zero, List.set_cons_succ]
        refine take_yes (i := 16) (oi := { dst := some 73, op := Op.move (Operand.tmp 72), type := 4, pos := "laws.go:462", after := #[{ on := 15, ground := Ground.data }, { on := 14, ground := Ground.chain }], guard := none }) (v := .bool true) rfl (by kernel_rfl) (by kernel_rfl) (by kernel_rfl) (fun _ _ _ h => h) (by rfl) (fun w hSw => by (try dsimp only at hSw); go_simp) (by assumption) ?_
        try simp only [Act.put, List.setIfInBounds_toArray, List.set_cons_zero, List.set_cons_succ]
        refine take_yes (i := 17) (oi := { dst := some 74, op := Op.fieldAddr 26 (Operand.tmp 13) 1, type := 0, pos := "laws.go:462", after := #[{ on := 16, ground := Ground.guard }], guard := some (16, true) }) (v := .pointer (some ⟨g13, 1, none⟩)) rfl (by kernel_rfl) (by kernel_rfl) (by kernel_rfl) (fun _ _ _ h => h) (by rfl) (fun w hSw => by (try dsimp only at hSw); go_simp) (by assumption) ?_
        try simp only [Act.put, List.setIfInBounds_toArray, List.set_cons_zero, List.set_cons_succ]
        refine take_yes (i := 18) (oi := { dst := some 75, op := Op.load 9 (Operand.tmp 74), type := 9, pos := "laws.go:462", after := #[{ on := 17, ground := Ground.data }, { on := 16, ground := Ground.guard }], guard := some (16, true) }) (v := .string t3) rfl (by kernel_rfl) (by kernel_rfl) (by kernel_rfl) (fun _ _ _ h => h) (by rfl) (fun w hSw => by (try dsimp only at hSw); go_simp) (by assumption) ?_
        try simp only [Act.put, List.setIfInBounds_toArray, List.set_cons_zero, List.set_cons_succ]
        refine take_yes (i := 19) (oi := { dst := some 76, op := Op.call { callee := Callee.builtin Builtin.len, args := #[Operand.tmp 75], argTypes := #[9] }, type := 3, pos := "laws.go:462", after := #[{ on := 18, ground := Ground.data }, { on := 16, ground := Ground.guard }], guard := some (16, true) }) (v := .int .i64 (t3.size : Int)) rfl (by kernel_rfl) (by kernel_rfl) (by kernel_rfl) (fun _ _ _ h => h) (by rfl) (fun w hSw => by (try dsimp only at hSw); go_simp) (by assumption) ?_
        try simp only [Act.put, List.setIfInBounds_toArray, List.set_cons_zero, List.set_cons_succ]
        refine take_yes (i := 20) (oi := { dst := some 77, op := Op.fieldAddr 26 (Operand.tmp 9) 1, type := 0, pos := "laws.go:462", after := #[{ on := 16, ground := Ground.guard }], guard := some (16, true) }) (v := .pointer (some ⟨g9, 1, none⟩)) rfl (by kernel_rfl) (by kernel_rfl) (by kernel_rfl) (fun _ _ _ h => h) (by rfl) (fun w hSw => by (try dsimp only at hSw); go_simp) (by assumption) ?_
        try simp only [Act.put, List.setIfInBounds_toArray, List.set_cons_zero, List.set_cons_succ]
        refine take_yes (i := 21) (oi := { dst := some 78, op := Op.load 9 (Operand.tmp 77), type := 9, pos := "laws.go:462", after := #[{ on := 20, ground := Ground.data }, { on := 16, ground := Ground.guard }], guard := some (16, true) }) (v := .string t1) rfl (by kernel_rfl) (by kernel_rfl) (by kernel_rfl) (fun _ _ _ h => h) (by rfl) (fun w hSw => by (try dsimp only at hSw); go_simp) (by assumption) ?_
        try simp only [Act.put, List.setIfInBounds_toArray, List.set_cons_zero, List.set_cons_succ]
        refine take_yes (i := 22) (oi := { dst := some 79, op := Op.call { callee := Callee.builtin Builtin.len, args := #[Operand.tmp 78], argTypes := #[9] }, type := 3, pos := "laws.go:462", after := #[{ on := 21, ground := Ground.data }, { on := 16, ground := Ground.guard }], guard := some (16, true) }) (v := .int .i64 (t1.size : Int)) rfl (by kernel_rfl) (by kernel_rfl) (by kernel_rfl) (fun _ _ _ h => h) (by rfl) (fun w hSw => by (try dsimp only at hSw); go_simp) (by assumption) ?_
        try simp only [Act.put, List.setIfInBounds_toArray, List.set_cons_zero, List.set_cons_succ]
        refine take_yes (i := 23) (oi := { dst := some 80, op := Op.binOp BinOp.geq 3 (Operand.tmp 76) (Operand.tmp 79) 3, type := 4, pos := "laws.go:462", after := #[{ on := 19, ground := Ground.data }, { on := 22, ground := Ground.data }, { on := 16, ground := Ground.guard }], guard := some (16, true) }) (v := .bool true) rfl (by kernel_rfl) (by kernel_rfl) (by kernel_rfl) (fun _ _ _ h => h) (by rfl) (fun w hSw => by (try dsimp only at hSw); go_simp) (by assumption) ?_
        try simp only [Act.put, List.setIfInBounds_toArray, List.set_cons_zero, List.set_cons_succ]
        refine take_yes (i := 24) (oi := { dst := some 81, op := Op.pick (Operand.tmp 73) (Operand.tmp 80) (Operand.const (Value.bool false)), type := 4, pos := "laws.go:462", after := #[{ on := 16, ground := Ground.data }, { on := 23, ground := Ground.data }], guard := none }) (v := .bool true) rfl (by kernel_rfl) (by kernel_rfl) (by kernel_rfl) (fun _ _ _ h => h) (by rfl) (fun w hSw => by (try dsimp only at hSw); go_simp) (by assumption) ?_
        try simp only [Act.put, List.setIfInBounds_toArray, List.set_cons_zero, List.set_cons_succ]
        refine take_yes (i := 25) (oi := { dst := some 82, op := Op.move (Operand.tmp 81), type := 4, pos := "laws.go:462", after := #[{ on := 24, ground := Ground.data }, { on := 16, ground := Ground.chain }], guard := none }) (v := .bool true) rfl (by kernel_rfl) (by kernel_rfl) (by kernel_rfl) (fun _ _ _ h => h) (by rfl) (fun w hSw => by (try dsimp only at hSw); go_simp) (by assumption) ?_
        try simp only [Act.put, List.setIfInBounds_toArray, List.set_cons_zero, List.set_cons_succ]
        refine take_yes (i := 26) (oi := { dst := some 83, op := Op.fieldAddr 26 (Operand.tmp 13) 1, type := 0, pos := "laws.go:462", after := #[{ on := 25, ground := Ground.guard }], guard := some (25, true) }) (v := .pointer (some ⟨g13, 1, none⟩)) rfl (by kernel_rfl) (by kernel_rfl) (by kernel_rfl) (fun _ _ _ h => h) (by rfl) (fun w hSw => by (try dsimp only at hSw); go_simp) (by assumption) ?_
        try simp only [Act.put, List.setIfInBounds_toArray, List.set_cons_zero, List.set_cons_succ]
        refine take_yes (i := 27) (oi := { dst := some 84, op := Op.load 9 (Operand.tmp 83), type := 9, pos := "laws.go:462", after := #[{ on := 26, ground := Ground.data }, { on := 25, ground := Ground.guard }], guard := some (25, true) }) (v := .string t3) rfl (by kernel_rfl) (by kernel_rfl) (by kernel_rfl) (fun _ _ _ h => h) (by rfl) (fun w hSw => by (try dsimp only at hSw); go_simp) (by assumption) ?_
        try simp only [Act.put, List.setIfInBounds_toArray, List.set_cons_zero, List.set_cons_succ]
        refine take_yes (i := 28) (oi := { dst := some 85, op := Op.fieldAddr 26 (Operand.tmp 9) 1, type := 0, pos := "laws.go:462", after := #[{ on := 25, ground := Ground.guard }], guard := some (25, true) }) (v := .pointer (some ⟨g9, 1, none⟩)) rfl (by kernel_rfl) (by kernel_rfl) (by kernel_rfl) (fun _ _ _ h => h) (by rfl) (fun w hSw => by (try dsimp only at hSw); go_simp) (by assumption) ?_
        try simp only [Act.put, List.setIfInBounds_toArray, List.set_cons_zero, List.set_cons_succ]
        refine take_yes (i := 29) (oi := { dst := some 86, op := Op.load 9 (Operand.tmp 85), type := 9, pos := "laws.go:462", after := #[{ on := 28, ground := Ground.data }, { on := 25, ground := Ground.guard }], guard := some (25, true) }) (v := .string t1) rfl (by kernel_rfl) (by kernel_rfl) (by kernel_rfl) (fun _ _ _ h => h) (by rfl) (fun w hSw => by (try dsimp only at hSw); go_simp) (by assumption) ?_
        try simp only [Act.put, List.setIfInBounds_toArray, List.set_cons_zero, List.set_cons_succ]
        refine take_yes (i := 30) (oi := { dst := some 87, op := Op.call { callee := Callee.builtin Builtin.len, args := #[Operand.tmp 86], argTypes := #[9] }, type := 3, pos := "laws.go:462", after := #[{ on := 29, ground := Ground.data }, { on := 25, ground := Ground.guard }], guard := some (25, true) }) (v := .int .i64 (t1.size : Int)) rfl (by kernel_rfl) (by kernel_rfl) (by kernel_rfl) (fun _ _ _ h => h) (by rfl) (fun w hSw => by (try dsimp only at hSw); go_simp) (by assumption) ?_
        try simp only [Act.put, List.setIfInBounds_toArray, List.set_cons_zero, List.set_cons_succ]
        refine take_yes (i := 31) (oi := { dst := some 88, op := Op.slice 9 (Operand.tmp 84) none (some (Operand.tmp 87)) none, type := 9, pos := "laws.go:462", after := #[{ on := 27, ground := Ground.data }, { on := 30, ground := Ground.data }, { on := 25, ground := Ground.guard }], guard := some (25, true) }) (v := .string t1) rfl (by kernel_rfl) (by kernel_rfl) (by kernel_rfl) (fun _ _ _ h => h) (by rfl) (fun w hSw => by (try dsimp only at hSw); go_simp) (by assumption) ?_
        try simp only [Act.put, List.setIfInBounds_toArray, List.set_cons_zero, List.set_cons_succ]
        refine take_yes (i := 32) (oi := { dst := some 89, op := Op.fieldAddr 26 (Operand.tmp 9) 1, type := 0, pos := "laws.go:462", after := #[{ on := 25, ground := Ground.guard }], guard := some (25, true) }) (v := .pointer (some ⟨g9, 1, none⟩)) rfl (by kernel_rfl) (by kernel_rfl) (by kernel_rfl) (fun _ _ _ h => h) (by rfl) (fun w hSw => by (try dsimp only at hSw); go_simp) (by assumption) ?_
        try simp only [Act.put, List.setIfInBounds_toArray, List.set_cons_zero, List.set_cons_succ]
        refine take_yes (i := 33) (oi := { dst := some 90, op := Op.load 9 (Operand.tmp 89), type := 9, pos := "laws.go:462", after := #[{ on := 32, ground := Ground.data }, { on := 25, ground := Ground.guard }], guard := some (25, true) }) (v := .string t1) rfl (by kernel_rfl) (by kernel_rfl) (by kernel_rfl) (fun _ _ _ h => h) (by rfl) (fun w hSw => by (try dsimp only at hSw); go_simp) (by assumption) ?_
        try simp only [Act.put, List.setIfInBounds_toArray, List.set_cons_zero, List.set_cons_succ]
        refine take_yes (i := 34) (oi := { dst := some 91, op := Op.binOp BinOp.eql 9 (Operand.tmp 88) (Operand.tmp 90) 9, type := 4, pos := "laws.go:462", after := #[{ on := 31, ground := Ground.data }, { on := 33, ground := Ground.data }, { on := 25, ground := Ground.guard }], guard := some (25, true) }) (v := .bool true) rfl (by kernel_rfl) (by kernel_rfl) (by kernel_rfl) (fun _ _ _ h => h) (by rfl) (fun w hSw => by (try dsimp only at hSw); go_simp) (by assumption) ?_
        try simp only [Act.put, List.setIfInBounds_toArray, List.set_cons_zero, List.set_cons_succ]
        refine take_yes (i := 35) (oi := { dst := some 92, op := Op.pick (Operand.tmp 82) (Operand.tmp 91) (Operand.const (Value.bool false)), type := 4, pos := "laws.go:462", after := #[{ on := 25, ground := Ground.data }, { on := 34, ground := Ground.data }], guard := none }) (v := .bool true) rfl (by kernel_rfl) (by kernel_rfl) (by kernel_rfl) (fun _ _ _ h => h) (by rfl) (fun w hSw => by (try dsimp only at hSw); go_simp) (by assumption) ?_
        try simp only [Act.put, List.setIfInBounds_toArray, List.set_cons_zero, List.set_cons_succ]
        refine take_yes (i := 36) (oi := { dst := some 93, op := Op.move (Operand.tmp 92), type := 4, pos := "laws.go:462", after := #[{ on := 35, ground := Ground.data }, { on := 25, ground := Ground.chain }], guard := none }) (v := .bool true) rfl (by kernel_rfl) (by kernel_rfl) (by kernel_rfl) (fun _ _ _ h => h) (by rfl) (fun w hSw => by (try dsimp only at hSw); go_simp) (by assumption) ?_
        try simp only [Act.put, List.setIfInBounds_toArray, List.set_cons_zero, List.set_cons_succ]
        refine take_yes (i := 37) (oi := { dst := some 94, op := Op.load 26 (Operand.tmp 9), type := 26, pos := "laws.go:462", after := #[{ on := 36, ground := Ground.guard }], guard := some (36, true) }) (v := .agg #[.int .i64 r1, .string t1, (.slice a3 m1.length c3)]) rfl (by kernel_rfl) (by kernel_rfl) (by kernel_rfl) (fun _ _ _ h => h) (by rfl) (fun w hSw => by (try dsimp only at hSw); go_simp) (by assumption) ?_
        try simp only [Act.put, List.setIfInBounds_toArray, List.set_cons_zero, List.set_cons_succ]
        refine take_yes (i := 39) (oi := { dst := some 96, op := Op.load 26 (Operand.tmp 9), type := 26, pos := "laws.go:462", after := #[{ on := 36, ground := Ground.guard }], guard := some (36, true) }) (v := .agg #[.int .i64 r1, .string t1, (.slice a3 m1.length c3)]) rfl (by kernel_rfl) (by kernel_rfl) (by kernel_rfl) (fun _ _ _ h => h) (by rfl) (fun w hSw => by (try dsimp only at hSw); go_simp) (by assumption) ?_
        try simp only [Act.put, List.setIfInBounds_toArray, List.set_cons_zero, List.set_cons_succ]
        refine wpAnyH_ready (rs := [38]) (by kernel_rfl) (by simp) ?_
        refine AllReadyH.cons (o := { dst := some 95, op := Op.call { callee := Callee.value (Operand.func 16), args := #[Operand.tmp 94], argTypes := #[26] }, type := 4, pos := "laws.go:462", after := #[{ on := 37, ground := Ground.data }, { on := 36, ground := Ground.chain }, { on := 36, ground := Ground.guard }], guard := some (36, true) }) rfl (fun K hK => ?_) AllReadyH.nil
        go_simp
        with_reducible refine (cO1 _ _ HX4.out.p9.rd).mono ?_
        rintro e wX5 ⟨rfl, hbX⟩
        have HX5 := Lib.hid (HX4.out.kept hbX)
        have HX5e := HX5.out.cells
        clear hbX HX4
        refine hK.out _ _ HX5e (fun hHeldN => ?_)
        clear hK K hHeld
        have hHeld := hHeldN
        clear hHeldN
        try simp only [Act.put, List.setIfInBounds_toArray, List.set_cons_zero, List.set_cons_succ]
        refine wpAnyH_ready (rs := [40]) (by kernel_rfl) (by simp) ?_
        refine AllReadyH.cons (o := { dst := some 97, op := Op.call { callee := Callee.value (Operand.func 17), args := #[Operand.tmp 96], argTypes := #[26] }, type := 4, pos := "laws.go:462", after := #[{ on := 39, ground := Ground.data }, { on := 38, ground := Ground.chain }, { on := 36, ground := Ground.guard }], guard := some (36, true) }) rfl (fun K hK => ?_) AllReadyH.nil
        go_simp
        with_reducible refine (cO2 _ _ HX5.out.p9.rd).mono ?_
        rintro e wX6 ⟨rfl, hbX⟩
        have HX6 := Lib.hid (HX5.out.kept hbX)
        have HX6e := HX6.out.cells
        clear hbX HX5
        refine hK.out _ _ HX6e (fun hHeldN => ?_)
        clear hK K hHeld
        have hHeld := hHeldN
        clear hHeldN
        try simp only [Act.put, List.setIfInBounds_toArray, List.set_cons_zero, List.set_cons_succ]
        refine take_yes (i := 41) (oi := { dst := some 98, op := Op.binOp BinOp.eql 4 (Operand.tmp 95) (Operand.tmp 97) 4, type := 4, pos := "laws.go:462", after := #[{ on := 38, ground := Ground.data }, { on := 40, ground := Ground.data }, { on := 36, ground := Ground.guard }], guard := some (36, true) }) (v := .bool true) rfl (by kernel_rfl) (by kernel_rfl) (by kernel_rfl) (fun _ _ _ h => h) (by rfl) (fun w hSw => by (try dsimp only at hSw); go_simp) (by assumption) ?_
        try simp only [Act.put, List.setIfInBounds_toArray, List.set_cons_zero, List.set_cons_succ]
        refine take_yes (i := 42) (oi := { dst := some 99, op := Op.pick (Operand.tmp 93) (Operand.tmp 98) (Operand.const (Value.bool false)), type := 4, pos := "laws.go:462", after := #[{ on := 36, ground := Ground.data }, { on := 41, ground := Ground.data }], guard := none }) (v := .bool true) rfl (by kernel_rfl) (by kernel_rfl) (by kernel_rfl) (fun _ _ _ h => h) (by rfl) (fun w hSw => by (try dsimp only at hSw); go_simp) (by assumption) ?_
        try simp only [Act.put, List.setIfInBounds_toArray, List.set_cons_zero, List.set_cons_succ]
        refine take_yes (i := 43) (oi := { dst := some 2, op := Op.assign (Operand.tmp 99), type := 4, pos := "laws.go:462", after := #[{ on := 42, ground := Ground.data }, { on := 40, ground := Ground.chain }, { on := 0, ground := Ground.phase }, { on := 1, ground := Ground.phase }, { on := 2, ground := Ground.phase }, { on := 3, ground := Ground.phase }, { on := 4, ground := Ground.phase }, { on := 5, ground := Ground.phase }, { on := 6, ground := Ground.phase }, { on := 7, ground := Ground.phase }, { on := 8, ground := Ground.phase }, { on := 9, ground := Ground.phase }, { on := 10, ground := Ground.phase }, { on := 11, ground := Ground.phase }, { on := 12, ground := Ground.phase }, { on := 13, ground := Ground.phase }, { on := 14, ground := Ground.phase }, { on := 15, ground := Ground.phase }, { on := 16, ground := Ground.phase }, { on := 17, ground := Ground.phase }, { on := 18, ground := Ground.phase }, { on := 19, ground := Ground.phase }, { on := 20, ground := Ground.phase }, { on := 21, ground := Ground.phase }, { on := 22, ground := Ground.phase }, { on := 23, ground := Ground.phase }, { on := 24, ground := Ground.phase }, { on := 25, ground := Ground.phase }, { on := 26, ground := Ground.phase }, { on := 27, ground := Ground.phase }, { on := 28, ground := Ground.phase }, { on := 29, ground := Ground.phase }, { on := 30, ground := Ground.phase }, { on := 31, ground := Ground.phase }, { on := 32, ground := Ground.phase }, { on := 33, ground := Ground.phase }, { on := 34, ground := Ground.phase }, { on := 35, ground := Ground.phase }, { on := 36, ground := Ground.phase }, { on := 37, ground := Ground.phase }, { on := 38, ground := Ground.phase }, { on := 39, ground := Ground.phase }, { on := 40, ground := Ground.phase }, { on := 41, ground := Ground.phase }, { on := 42, ground := Ground.phase }], guard := none }) (v := .bool true) rfl (by kernel_rfl) (by kernel_rfl) (by kernel_rfl) (fun _ _ _ h => h) (by rfl) (fun w hSw => by (try dsimp only at hSw); go_simp) (by assumption) ?_
        try simp only [Act.put, List.setIfInBounds_toArray, List.set_cons_zero, List.set_cons_succ]
        refine wpAnyH_done (by kernel_rfl) ?_ _
        clear hHeld
        have hbf := HX6.out.bl
        have HB := Lib.hid hbf
        clear hbf HX6e HX6
        go_wp2_with (fail)
        go_ret
        exact ⟨rfl, HB.out⟩
end Go.Proofs.Ytdajfnonehianaa
