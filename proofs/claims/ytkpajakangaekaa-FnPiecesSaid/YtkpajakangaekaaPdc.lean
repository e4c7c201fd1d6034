import Derived.Test.YtkpajakangaekaaPdc0
import Derived.Test.YtkpajakangaekaaPcs9
import Derived.Test.YtkpajakangaekaaDrT
import Derived.Test.YtkpajakangaekaaPart
namespace Go.Proofs.Ytkpajakangaekaa
open Go.RowKit
attribute [-go_sem] loadCells loadCellsFrom

theorem pbel_dr (g : Nat) (v : Value) (n k : Nat) (i : Int) (hi : (k : Int) = i) (w : World) (hd : Dr w g v n) (h0 : 0 < k) (hk : k ≤ 1000000000) :
    Calls Try.prog 31 #[.pointer (some ⟨g, 0, none⟩), .int .i64 i] w fun e w' => ∃ r : Nat, r < k ∧ e = .returned (.int .i64 (r : Int)) ∧ Dr w' g v n ∧ Only g w w' := by
  subst hi
  exact below_dr g v n k w hd h0 hk

theorem ptext_dr (g : Nat) (v : Value) (n k : Nat) (i : Int) (hi : (k : Int) = i) (w : World) (hd : Dr w g v n) (hk : k ≤ 5000) :
    Calls Try.prog 30 #[.pointer (some ⟨g, 0, none⟩), .int .i64 i] w fun e w' => ∃ s : ByteArray, s.size = k ∧ e = .returned (.string s) ∧ Dr w' g v n ∧ Grew g w w' := by
  subst hi
  exact draw_text g v n k w hd hk

/-- A cursor and a row of pieces above it. -/
structure Dc (w W : World) (g : Nat) (v : Value) (n : Nat) (u : Value) (xs : List Pc) : Prop where
  own : OwnP W (g + 1) W.heap.size u xs
  dr : Dr W g v n
  bl : Below w.heap.size w W
  ge : w.heap.size ≤ g

theorem Dc.only {w W W' : World} {g : Nat} {v u : Value} {n : Nat} {xs : List Pc} (h : Dc w W g v n u xs) (o : Only g W W') (d : Dr W' g v n) : Dc w W' g v n u xs := by
  refine ⟨?_, d, o.below h.bl h.ge, h.ge⟩
  have := (OwnE.keepAt h.own (W' := W') (fun k hk => o.at_ k (by have := (OwnE.block h.own k hk).1; omega)))
  rw [o.size]
  exact this

/-- .. and what is above it, too, changes as it likes, the row apart. -/
theorem Dc.step {w W W' : World} {g : Nat} {v u u' : Value} {n : Nat} {xs ys : List Pc} (h : Dc w W g v n u xs) (hb : Below (g + 1) W W') (ho : OwnP W' (g + 1) W'.heap.size u' ys) : Dc w W' g v n u' ys :=
  ⟨ho, h.dr.below hb (Nat.lt_succ_self _), h.bl.trans (hb.mono (Nat.le_succ_of_le h.ge)), h.ge⟩

/-- A piece in a block of its own, loaded. -/
theorem one_load {P : Program} {W W' : World} {h : Nat} {x : Pc} (hr : RdP W (.slice (some ⟨h, 0, none⟩) 1 1) [x]) (hb : W'.heap[h]? = W.heap[h]?) :
    (loadCells ⟨h, 0, none⟩ 2).run P W' = .ok #[.int .i64 x.pos, .string x.text] W' := by
  obtain ⟨a, c, he, hx⟩ := hr
  injection he with e1 _ _
  subst e1
  obtain ⟨b, off, h1, h2⟩ := hx (by simp)
  injection h1 with h1
  injection h1 with h1 h3
  subst h1 h3
  have hr' : RdP W' (.slice (some ⟨h, 0, none⟩) 1 1) [x] := ⟨_, 1, rfl, fun _ => ⟨h, 0, rfl, erange_block h2 hb⟩⟩
  obtain ⟨b', off, h1, -, -, -, h4⟩ := pc_at (P := P) hr' 0 (by simp)
  injection h1 with h1
  injection h1 with h1 h3
  subst h1 h3
  exact h4

/-- An element of a row, loaded. -/
theorem el_load {P : Program} {W : World} {B C b n c : Nat} {xs : List Pc} (h : OwnP W B C (.slice (some ⟨b, 0, none⟩) n c) xs) (k : Nat) (hk : k < xs.length) :
    (loadCells ⟨b, k * 2, none⟩ 2).run P W = .ok #[.int .i64 xs[k].pos, .string xs[k].text] W := by
  obtain ⟨b', off, h1, -, -, -, h2⟩ := pc_at (P := P) (OwnE.rd h) k hk
  injection h1 with h1
  injection h1 with h1 h3
  subst h1 h3
  rw [Nat.zero_add] at h2
  exact h2

set_option maxRecDepth 100000 in
set_option linter.unusedSimpArgs false in
set_option maxHeartbeats 8000000 in
theorem draw_cuts (v : Value) (n : Nat) (w : World) (hv : RdB w v n) (hn : n ≤ 1048576) :
    Calls Try.prog 11 #[v] w fun e w' => ∃ (s : ByteArray) (u : Value) (xs : List Pc), e = .returned (.tuple #[.string s, u]) ∧ OwnP w' w.heap.size w'.heap.size u xs ∧ s.size ≤ 60 ∧ xs.length ≤ 60 ∧ Whole s xs ∧ Below w.heap.size w w' := by
  have cN := new_dr v n w hv hn
  clear hv
  go_enter Try.func11, Try.ntmps11
  go_wp2_with (fail)
  with_reducible refine cN.mono ?_
  rintro e w1 ⟨rfl, d1, hb1⟩
  have cB := pbel_dr _ v n 60 60 rfl w1 d1 (by omega) (by omega)
  have h1 := Lib.hid hb1
  clear cN hb1 d1
  go_wp2_with (fail)
  with_reducible refine cB.mono ?_
  rintro e w2 ⟨r, hr, rfl, d2, o2⟩
  have e1 : IntKind.i64.wrap (1 + (r : Int)) = 1 + (r : Int) := IntWalk.i64_in _ (by omega)
  have cT := ptext_dr _ v n (1 + r) (1 + (r : Int)) (by omega) w2 d2 (by omega)
  have h2 := Lib.hid (o2.below h1.out (Nat.le_refl _))
  clear cB o2 d2 h1
  go_wp2_with (fail)
  with_reducible refine cT.mono ?_
  rintro e w3 ⟨s, hs, rfl, d3, hG3⟩
  have hs60 : s.size ≤ 60 := by omega
  have hb3 : Below w.heap.size w w3 := hG3.chain h2.out (Nat.le_refl _) h2.out.size
  have D4 : Dc w (w3.alloc (.cells #[] 31)) w.heap.size v n (.slice (some ⟨w3.heap.size, 0, none⟩) 0 0) [] :=
    ⟨(eown_empty pcK w3).mono (by have := d3.blk; omega) (Nat.le_refl _), d3.kept (below_new w3 _), Below.then_ hb3 (below_new w3 _), Nat.le_refl _⟩
  clear cT d3 hG3 hb3 h2 e1 hs
  go_wp2_with (fail)
  go_loopw [6, 7] (fun i d wr => ∃ (A : Nat) (xs : List Pc) (xa : Option Addr) (xc : Nat), i = .int .i64 (A : Int) ∧ d = .slice xa xs.length xc ∧ Cuts s A xs ∧ Dc w wr w.heap.size v n (.slice xa xs.length xc) xs) (fun i _ _ => s.size - (intOf i).toNat)
  case atStart => exact ⟨0, [], _, 0, rfl, rfl, Cuts.nil s, D4⟩
  case round =>
    clear D4
    obtain ⟨A, xs, xa, xc, rfl, rfl, hC, D1⟩ := hrel
    by_cases hlt : A < s.size
    · have q1 : (A : Int) < (s.size : Int) := by omega
      have hlen := hC.len
      have cB2 := pbel_dr _ v n 11 11 rfl wr D1.dr (by omega) (by omega)
      have cB3 := fun W d => pbel_dr w.heap.size v n 3 3 rfl W d (by omega) (by omega)
      go_wp2_with (fail)
      with_reducible refine cB2.mono ?_
      rintro e wr2 ⟨r2, hr2, rfl, d2, o2⟩
      have D2 := D1.only o2 d2
      clear D1 d2 o2 cB2
      obtain ⟨m0, hm0⟩ : ∃ m0 : Nat, m0 = 2 + r2 := ⟨_, rfl⟩
      obtain ⟨m1, hm1⟩ : ∃ m1 : Nat, m1 = s.size - A := ⟨_, rfl⟩
      have e2 : IntKind.i64.wrap (2 + (r2 : Int)) = (m0 : Int) := by rw [IntWalk.i64_in _ (by omega)]; omega
      have e3 : IntKind.i64.wrap ((s.size : Int) - (A : Int)) = (m1 : Int) := by rw [IntWalk.i64_in _ (by omega)]; omega
      by_cases q3 : (m1 : Int) < (m0 : Int)
      · obtain ⟨m, rfl⟩ : ∃ m, m = m1 := ⟨_, rfl⟩
        have p1 : 1 ≤ m := by omega
        have p2 : A + m ≤ s.size := by omega
        have p3 := Lib.hid (show 2 ≤ m ∨ A + m = s.size by omega)
        clear hm0 hm1 hr2
        go_wp2_with (fail)
        with_reducible refine (cB3 _ D2.dr).mono ?_
        rintro e wr3 ⟨r3, hr3, rfl, d3, o3⟩
        have D3 := D2.only o3 d3
        clear D2 d3 o3 cB3

        obtain ⟨z, hz⟩ : ∃ z : Int, z = (A : Int) - (r3 : Int) := ⟨_, rfl⟩
        have e4 : IntKind.i64.wrap ((A : Int) - (r3 : Int)) = z := by rw [hz]; exact IntWalk.i64_in _ (by omega)
        have p4 : z ≤ (A : Int) := by omega
        clear hz
        by_cases q4 : z < 0
        · skip
          obtain ⟨M, hM⟩ : ∃ M : Nat, M = A + m := ⟨_, rfl⟩
          have sl := fun W => slice_part s 0 (M : Int) (by omega) (by omega) (by omega) W
          have hst := (by simpa using hC.step 0 m p1 p2 p3.out (Nat.zero_le _) : Cuts s (A + m) (xs ++ [⟨0, s.extract 0 (A + m)⟩]))
          rw [← hM] at hst
          simp only [Int.toNat_natCast, Int.toNat_zero] at sl
          generalize s.extract 0 M = y at *
          have e5 : IntKind.i64.wrap ((A : Int) + (m : Int)) = (M : Int) := by rw [IntWalk.i64_in _ (by omega)]; omega
          have p6 : A < M := by omega
          clear hM
          have hbn := below_new wr3 (.cells #[.int .i64 0, .string y] 31)
          have hbz : w.heap.size + 1 ≤ (wr3.alloc (.cells #[.int .i64 0, .string y] 31)).heap.size := by have := D3.dr.blk; simp; omega
          have ho1 := rd_onePc wr3 ⟨0, y⟩
          have hoA : OwnP (wr3.alloc (.cells #[.int .i64 0, .string y] 31)) (w.heap.size + 1) (wr3.alloc (.cells #[.int .i64 0, .string y] 31)).heap.size (.slice xa xs.length xc) xs := eown_alloc D3.own (.cells #[.int .i64 0, .string y] 31)
          have hbA : Below (w.heap.size + 1) wr3 (wr3.alloc (.cells #[.int .i64 0, .string y] 31)) := hbn.mono (by have := D3.dr.blk; omega)
          have hl1 : (xs ++ [(⟨0, y⟩ : Pc)]).length = xs.length + 1 := by simp
          have HD := Lib.hid (And.intro D3 (And.intro hbA (And.intro hoA (And.intro hl1 hst))))
          clear D3 hbn hbA hoA hl1 hst
          go_wp2_with (at_builtin; refine wpList_append_els pcK rfl _ _ 24 24 rfl uPc uPc (w.heap.size + 1) (.slice xa xs.length xc) _ xs [⟨0, y⟩] rfl rfl HD.out.2.2.1 hbz ho1 (by have := hC.len; simp; omega) ?_; intro v' w5 hown hgrow _; obtain ⟨D3, hbA, hoA, hl1, hst⟩ := HD.out; have hrow : ∀ k, (Value.slice xa xs.length xc).ownBlock = some k → w.heap.size + 1 ≤ k := (fun k hk => (OwnE.block hoA k hk).1); have hb5 : Below (w.heap.size + 1) wr3 w5 := hbA.grown hgrow hbz (fun k hk => hrow k hk); have D5 := D3.step hb5 hown; obtain ⟨ya, yc, hfe, -⟩ := OwnE.form hown; rw [hl1] at hfe; subst hfe; have HN := Lib.hid (And.intro D5 (And.intro hst hl1)); clear D3 hbA hoA hl1 hst hown hgrow hrow hb5 D5 HD)
          go_roundw
          case rel => exact ⟨M, _, ya, yc, rfl, by rw [HN.out.2.2], HN.out.2.1, by rw [HN.out.2.2]; exact HN.out.1⟩
          case measure => simp [intOf]; omega
        · obtain ⟨f, rfl⟩ : ∃ f : Nat, z = (f : Int) := ⟨z.toNat, by omega⟩
          obtain ⟨M, hM⟩ : ∃ M : Nat, M = A + m := ⟨_, rfl⟩
          have sl := fun W => slice_part s (f : Int) (M : Int) (by omega) (by omega) (by omega) W
          have hst := hC.step f m p1 p2 p3.out (by omega)
          rw [← hM] at hst
          simp only [Int.toNat_natCast, Int.toNat_zero] at sl
          generalize s.extract f M = y at *
          have e5 : IntKind.i64.wrap ((A : Int) + (m : Int)) = (M : Int) := by rw [IntWalk.i64_in _ (by omega)]; omega
          have p6 : A < M := by omega
          clear hM
          have hbn := below_new wr3 (.cells #[.int .i64 (f : Int), .string y] 31)
          have hbz : w.heap.size + 1 ≤ (wr3.alloc (.cells #[.int .i64 (f : Int), .string y] 31)).heap.size := by have := D3.dr.blk; simp; omega
          have ho1 := rd_onePc wr3 ⟨(f : Int), y⟩
          have hoA : OwnP (wr3.alloc (.cells #[.int .i64 (f : Int), .string y] 31)) (w.heap.size + 1) (wr3.alloc (.cells #[.int .i64 (f : Int), .string y] 31)).heap.size (.slice xa xs.length xc) xs := eown_alloc D3.own (.cells #[.int .i64 (f : Int), .string y] 31)
          have hbA : Below (w.heap.size + 1) wr3 (wr3.alloc (.cells #[.int .i64 (f : Int), .string y] 31)) := hbn.mono (by have := D3.dr.blk; omega)
          have hl1 : (xs ++ [(⟨(f : Int), y⟩ : Pc)]).length = xs.length + 1 := by simp
          have HD := Lib.hid (And.intro D3 (And.intro hbA (And.intro hoA (And.intro hl1 hst))))
          clear D3 hbn hbA hoA hl1 hst
          go_wp2_with (at_builtin; refine wpList_append_els pcK rfl _ _ 24 24 rfl uPc uPc (w.heap.size + 1) (.slice xa xs.length xc) _ xs [⟨(f : Int), y⟩] rfl rfl HD.out.2.2.1 hbz ho1 (by have := hC.len; simp; omega) ?_; intro v' w5 hown hgrow _; obtain ⟨D3, hbA, hoA, hl1, hst⟩ := HD.out; have hrow : ∀ k, (Value.slice xa xs.length xc).ownBlock = some k → w.heap.size + 1 ≤ k := (fun k hk => (OwnE.block hoA k hk).1); have hb5 : Below (w.heap.size + 1) wr3 w5 := hbA.grown hgrow hbz (fun k hk => hrow k hk); have D5 := D3.step hb5 hown; obtain ⟨ya, yc, hfe, -⟩ := OwnE.form hown; rw [hl1] at hfe; subst hfe; have HN := Lib.hid (And.intro D5 (And.intro hst hl1)); clear D3 hbA hoA hl1 hst hown hgrow hrow hb5 D5 HD)
          go_roundw
          case rel => exact ⟨M, _, ya, yc, rfl, by rw [HN.out.2.2], HN.out.2.1, by rw [HN.out.2.2]; exact HN.out.1⟩
          case measure => simp [intOf]; omega
      · obtain ⟨m, rfl⟩ : ∃ m, m = m0 := ⟨_, rfl⟩
        have p1 : 1 ≤ m := by omega
        have p2 : A + m ≤ s.size := by omega
        have p3 := Lib.hid (show 2 ≤ m ∨ A + m = s.size by omega)
        clear hm0 hm1 hr2
        go_wp2_with (fail)
        with_reducible refine (cB3 _ D2.dr).mono ?_
        rintro e wr3 ⟨r3, hr3, rfl, d3, o3⟩
        have D3 := D2.only o3 d3
        clear D2 d3 o3 cB3

        obtain ⟨z, hz⟩ : ∃ z : Int, z = (A : Int) - (r3 : Int) := ⟨_, rfl⟩
        have e4 : IntKind.i64.wrap ((A : Int) - (r3 : Int)) = z := by rw [hz]; exact IntWalk.i64_in _ (by omega)
        have p4 : z ≤ (A : Int) := by omega
        clear hz
        by_cases q4 : z < 0
        · skip
          obtain ⟨M, hM⟩ : ∃ M : Nat, M = A + m := ⟨_, rfl⟩
          have sl := fun W => slice_part s 0 (M : Int) (by omega) (by omega) (by omega) W
          have hst := (by simpa using hC.step 0 m p1 p2 p3.out (Nat.zero_le _) : Cuts s (A + m) (xs ++ [⟨0, s.extract 0 (A + m)⟩]))
          rw [← hM] at hst
          simp only [Int.toNat_natCast, Int.toNat_zero] at sl
          generalize s.extract 0 M = y at *
          have e5 : IntKind.i64.wrap ((A : Int) + (m : Int)) = (M : Int) := by rw [IntWalk.i64_in _ (by omega)]; omega
          have p6 : A < M := by omega
          clear hM
          have hbn := below_new wr3 (.cells #[.int .i64 0, .string y] 31)
          have hbz : w.heap.size + 1 ≤ (wr3.alloc (.cells #[.int .i64 0, .string y] 31)).heap.size := by have := D3.dr.blk; simp; omega
          have ho1 := rd_onePc wr3 ⟨0, y⟩
          have hoA : OwnP (wr3.alloc (.cells #[.int .i64 0, .string y] 31)) (w.heap.size + 1) (wr3.alloc (.cells #[.int .i64 0, .string y] 31)).heap.size (.slice xa xs.length xc) xs := eown_alloc D3.own (.cells #[.int .i64 0, .string y] 31)
          have hbA : Below (w.heap.size + 1) wr3 (wr3.alloc (.cells #[.int .i64 0, .string y] 31)) := hbn.mono (by have := D3.dr.blk; omega)
          have hl1 : (xs ++ [(⟨0, y⟩ : Pc)]).length = xs.length + 1 := by simp
          have HD := Lib.hid (And.intro D3 (And.intro hbA (And.intro hoA (And.intro hl1 hst))))
          clear D3 hbn hbA hoA hl1 hst
          go_wp2_with (at_builtin; refine wpList_append_els pcK rfl _ _ 24 24 rfl uPc uPc (w.heap.size + 1) (.slice xa xs.length xc) _ xs [⟨0, y⟩] rfl rfl HD.out.2.2.1 hbz ho1 (by have := hC.len; simp; omega) ?_; intro v' w5 hown hgrow _; obtain ⟨D3, hbA, hoA, hl1, hst⟩ := HD.out; have hrow : ∀ k, (Value.slice xa xs.length xc).ownBlock = some k → w.heap.size + 1 ≤ k := (fun k hk => (OwnE.block hoA k hk).1); have hb5 : Below (w.heap.size + 1) wr3 w5 := hbA.grown hgrow hbz (fun k hk => hrow k hk); have D5 := D3.step hb5 hown; obtain ⟨ya, yc, hfe, -⟩ := OwnE.form hown; rw [hl1] at hfe; subst hfe; have HN := Lib.hid (And.intro D5 (And.intro hst hl1)); clear D3 hbA hoA hl1 hst hown hgrow hrow hb5 D5 HD)
          go_roundw
          case rel => exact ⟨M, _, ya, yc, rfl, by rw [HN.out.2.2], HN.out.2.1, by rw [HN.out.2.2]; exact HN.out.1⟩
          case measure => simp [intOf]; omega
        · obtain ⟨f, rfl⟩ : ∃ f : Nat, z = (f : Int) := ⟨z.toNat, by omega⟩
          obtain ⟨M, hM⟩ : ∃ M : Nat, M = A + m := ⟨_, rfl⟩
          have sl := fun W => slice_part s (f : Int) (M : Int) (by omega) (by omega) (by omega) W
          have hst := hC.step f m p1 p2 p3.out (by omega)
          rw [← hM] at hst
          simp only [Int.toNat_natCast, Int.toNat_zero] at sl
          generalize s.extract f M = y at *
          have e5 : IntKind.i64.wrap ((A : Int) + (m : Int)) = (M : Int) := by rw [IntWalk.i64_in _ (by omega)]; omega
          have p6 : A < M := by omega
          clear hM
          have hbn := below_new wr3 (.cells #[.int .i64 (f : Int), .string y] 31)
          have hbz : w.heap.size + 1 ≤ (wr3.alloc (.cells #[.int .i64 (f : Int), .string y] 31)).heap.size := by have := D3.dr.blk; simp; omega
          have ho1 := rd_onePc wr3 ⟨(f : Int), y⟩
          have hoA : OwnP (wr3.alloc (.cells #[.int .i64 (f : Int), .string y] 31)) (w.heap.size + 1) (wr3.alloc (.cells #[.int .i64 (f : Int), .string y] 31)).heap.size (.slice xa xs.length xc) xs := eown_alloc D3.own (.cells #[.int .i64 (f : Int), .string y] 31)
          have hbA : Below (w.heap.size + 1) wr3 (wr3.alloc (.cells #[.int .i64 (f : Int), .string y] 31)) := hbn.mono (by have := D3.dr.blk; omega)
          have hl1 : (xs ++ [(⟨(f : Int), y⟩ : Pc)]).length = xs.length + 1 := by simp
          have HD := Lib.hid (And.intro D3 (And.intro hbA (And.intro hoA (And.intro hl1 hst))))
          clear D3 hbn hbA hoA hl1 hst
          go_wp2_with (at_builtin; refine wpList_append_els pcK rfl _ _ 24 24 rfl uPc uPc (w.heap.size + 1) (.slice xa xs.length xc) _ xs [⟨(f : Int), y⟩] rfl rfl HD.out.2.2.1 hbz ho1 (by have := hC.len; simp; omega) ?_; intro v' w5 hown hgrow _; obtain ⟨D3, hbA, hoA, hl1, hst⟩ := HD.out; have hrow : ∀ k, (Value.slice xa xs.length xc).ownBlock = some k → w.heap.size + 1 ≤ k := (fun k hk => (OwnE.block hoA k hk).1); have hb5 : Below (w.heap.size + 1) wr3 w5 := hbA.grown hgrow hbz (fun k hk => hrow k hk); have D5 := D3.step hb5 hown; obtain ⟨ya, yc, hfe, -⟩ := OwnE.form hown; rw [hl1] at hfe; subst hfe; have HN := Lib.hid (And.intro D5 (And.intro hst hl1)); clear D3 hbA hoA hl1 hst hown hgrow hrow hb5 D5 HD)
          go_roundw
          case rel => exact ⟨M, _, ya, yc, rfl, by rw [HN.out.2.2], HN.out.2.1, by rw [HN.out.2.2]; exact HN.out.1⟩
          case measure => simp [intOf]; omega
    · obtain rfl : A = s.size := by have := hC.le; omega
      have q1 : ¬ (s.size : Int) < (s.size : Int) := by omega
      have hlen := hC.len
      have hW := hC.whole
      clear hC hlt
      go_wp2_with (fail)
      go_loopw [10] (fun i wr => ∃ (k : Nat) (ys : List Pc), k ≤ xs.length ∧ ys.length = xs.length ∧ i = .int .i64 (k : Int) ∧ Whole s ys ∧ Dc w wr w.heap.size v n (.slice xa xs.length xc) ys) (fun i _ => xs.length - (intOf i).toNat)
      case atStart => exact ⟨0, xs, Nat.zero_le _, rfl, rfl, hW, D1⟩
      case round =>
        clear D1 hW
        rename_i wr
        obtain ⟨k, ys, hk, hly, rfl, hW, D1⟩ := hrel
        by_cases hlt : k < xs.length
        · have q2 : (k : Int) < (xs.length : Int) := by omega
          have cB4 := pbel_dr _ v n xs.length (xs.length : Int) rfl wr D1.dr (by omega) (by omega)
          go_wp2_with (fail)
          with_reducible refine cB4.mono ?_
          rintro e wr2 ⟨r, hr, rfl, d2, o2⟩
          have D2 := D1.only o2 d2
          clear D1 d2 o2 cB4
          have hf := OwnE.form D2.own
          obtain ⟨xa', xc', hfe, hff⟩ := hf
          rw [hly] at hfe
          injection hfe with hfe1 _ hfe2
          subst hfe1 hfe2
          obtain ⟨b, rfl, hb1, hb2⟩ := hff (by omega)
          have q3 : (0 : Int) ≤ (k : Int) := by omega
          have q4 : (0 : Int) ≤ (r : Int) := by omega
          have q5 : (r : Int) < (xs.length : Int) := by omega
          have hk' : k < ys.length := by omega
          have hr' : r < ys.length := by omega
          have hsw := hW.swap k r hk' hr'
          have O2 : OwnP wr2 (w.heap.size + 1) wr2.heap.size (.slice (some ⟨b, 0, none⟩) xs.length xc) ys := D2.own
          obtain ⟨c0, c1, fr, hbl, -⟩ := pc_own O2 k hk'
          have hbn := below_new wr2 (.cells #[.int .i64 ys[k].pos, .string ys[k].text] 31)
          have O3 := eown_alloc O2 (.cells #[.int .i64 ys[k].pos, .string ys[k].text] 31)
          have ld := el_load (P := Try.prog) O2 k hk'
          have R3 := rd_onePc wr2 ys[k]
          have H3 := Lib.hid (And.intro D2 (And.intro hbn (And.intro O3 (And.intro hsw R3))))
          clear O2 O3 D2 hbn hsw R3 fr hW
          go_upto_region 19 with (fail)
          obtain ⟨D2, hbn, O3, hsw, R3⟩ := H3.out
          have D3 := D2.step (hbn.mono (by omega)) O3
          clear D2 hbn H3 O3 ld c0 c1
          generalize wr2.alloc (.cells #[.int .i64 ys[k].pos, .string ys[k].text] 31) = W3 at *
          generalize wr2.heap.size = h at *
          obtain ⟨yk, hyk⟩ : ∃ yk, yk = ys[k] := ⟨_, rfl⟩
          obtain ⟨yr, hyr⟩ : ∃ yr, yr = ys[r] := ⟨_, rfl⟩
          rw [← hyk] at R3 hsw ⊢
          rw [← hyr] at hsw
          have O3 : OwnP W3 (w.heap.size + 1) W3.heap.size (.slice (some ⟨b, 0, none⟩) xs.length xc) ys := D3.own
          have ld3 := el_load (P := Try.prog) O3 r hr'
          rw [← hyr] at ld3
          obtain ⟨c0, c1, fr, hbW, -⟩ := pc_own O3 k hk'
          have f0 := fr (k * 2)
          obtain ⟨-, c1a, fra, -, -⟩ := pc_own (pc_put0 O3 k hk' yr.pos) k (by simpa using hk')
          simp only [List.getElem_set_self] at c1a
          have f1 := fra (k * 2 + 1)
          have O4 := pc_put O3 k hk' yr
          have l4 : r < (ys.set k yr).length := by simpa using hr'
          obtain ⟨d0, d1, fr4, -, -⟩ := pc_own O4 r l4
          have g0 := fr4 (r * 2)
          obtain ⟨-, d1a, frb, -, -⟩ := pc_own (pc_put0 O4 r l4 yk.pos) r (by simpa using l4)
          simp only [List.getElem_set_self] at d1a
          have g1 := frb (r * 2 + 1)
          have O5 := pc_put O4 r l4 yk
          have ld4 := one_load (P := Try.prog) (W' := (W3.setCell ⟨b, k * 2, none⟩ (.int .i64 yr.pos)).setCell ⟨b, k * 2 + 1, none⟩ (.string yr.text)) R3 (by rw [Below.heap_setCell _ _ _ _ (by simp; omega), Below.heap_setCell _ _ _ _ (by simp; omega)])
          have hb5 : Below (w.heap.size + 1) W3 ((((W3.setCell ⟨b, k * 2, none⟩ (.int .i64 yr.pos)).setCell ⟨b, k * 2 + 1, none⟩ (.string yr.text)).setCell ⟨b, r * 2, none⟩ (.int .i64 yk.pos)).setCell ⟨b, r * 2 + 1, none⟩ (.string yk.text)) :=
            ((((Below.refl _ _).setCell (p := ⟨b, k * 2, none⟩) hb1 _).setCell (p := ⟨b, k * 2 + 1, none⟩) hb1 _).setCell (p := ⟨b, r * 2, none⟩) hb1 _).setCell (p := ⟨b, r * 2 + 1, none⟩) hb1 _
          have H5 := Lib.hid (And.intro (D3.step hb5 (O5.mono (Nat.le_refl _) (by simp))) hsw)
          clear D3 O3 O4 O5 hb5 hsw R3 fr fr4 fra frb hyk hyr c1 d1
          go_wp2_with (fail)
          go_roundw
          case rel => exact ⟨k + 1, _, by omega, by simp [hly], by go_num, H5.out.2, H5.out.1⟩
          case measure => simp [intOf]; omega
        · obtain rfl : k = xs.length := by omega
          have q2 : ¬ (xs.length : Int) < (xs.length : Int) := by omega
          go_wp2_with (fail)
          go_ret2
          exact ⟨s, .slice xa xs.length xc, rfl, ys, D1.own.mono (by omega) (Nat.le_refl _), hs60, by omega, hW, D1.bl⟩
end Go.Proofs.Ytkpajakangaekaa
