import Derived.Test.YtkpajakangaekabSok
namespace Go.Proofs.Ytkpajakangaekab
open Go.RowKit
attribute [-go_sem] loadCells loadCellsFrom

/-- The text of a field, of the fields, of the Ids behind them. -/
def txtAt (o : Ov) (x c : Int) : ByteArray :=
  match numL o x with
  | some n => numText n (wideOf c)
  | none => textL o x
def txtUp (o : Ov) (sh : ByteArray) : Nat → ByteArray
  | 0 => ⟨#[]⟩
  | k + 1 => txtUp o sh k ++ txtAt o (letOf sh k) (widOf sh k)
theorem txtUp_zero (o : Ov) (sh : ByteArray) : txtUp o sh 0 = ⟨#[]⟩ := rfl
theorem txtUp_succ (o : Ov) (sh : ByteArray) (k : Nat) : txtUp o sh (k + 1) = txtUp o sh k ++ txtAt o (letOf sh k) (widOf sh k) := rfl
def sUp (zs : List Int) (s : ByteArray) : Nat → ByteArray
  | 0 => s
  | j + 1 => sUp zs s j ++ numText (zs.getD j 0) 1
theorem sUp_zero (zs : List Int) (s : ByteArray) : sUp zs s 0 = s := rfl
theorem sUp_succ (zs : List Int) (s : ByteArray) (j : Nat) : sUp zs s (j + 1) = sUp zs s j ++ numText (zs.getD j 0) 1 := rfl
def specS (o : Ov) : ByteArray := sUp o.ids (txtUp o (shapeOf o.kind) (shN o.kind)) o.ids.length
/-- What the model's OptText answers. -/
def specTx (o : Ov) : ByteArray := if specOk o = true then numText o.kind 1 ++ numText (specS o).size 1 ++ specS o else ⟨#[]⟩

theorem okUp_at (o : Ov) (sh : ByteArray) (k m : Nat) (h : k < m) (hu : okUp o sh m = true) : okAt o (letOf sh k) (widOf sh k) = true := by
  cases hs : okAt o (letOf sh k) (widOf sh k) with
  | true => rfl
  | false => rw [okUp_no o sh k m h hs] at hu; cases hu

theorem widOf_le (sh : ByteArray) (k : Nat) : 0 ≤ widOf sh k ∧ widOf sh k ≤ 255 := by
  unfold widOf
  have := (sh[2 * k + 1]!).toNat_lt
  omega

theorem txtAt_le (o : Ov) (sh : ByteArray) (k : Nat) (h : okAt o (letOf sh k) (widOf sh k) = true) : (txtAt o (letOf sh k) (widOf sh k)).size ≤ 300 := by
  have hw := widOf_le sh k
  unfold txtAt
  unfold okAt at h
  cases hn : numL o (letOf sh k) with
  | some n => have := numTx_le n (wideOf (widOf sh k)); simp only; omega
  | none =>
    rw [hn] at h
    simp only [decide_eq_true_eq] at h ⊢
    unfold wideOf at h
    split at h <;> omega

theorem txtUp_le (o : Ov) (sh : ByteArray) (n k : Nat) (hk : k ≤ n) (h : okUp o sh n = true) : (txtUp o sh k).size ≤ 300 * k := by
  induction k with
  | zero => show 0 ≤ _; omega
  | succ k ih =>
    rw [txtUp_succ, ByteArray.size_append]
    have h1 := ih (by omega)
    have h2 := txtAt_le o sh k (okUp_at o sh k n (by omega) h)
    omega

theorem sUp_le (zs : List Int) (s : ByteArray) (j : Nat) : (sUp zs s j).size ≤ s.size + 6 * j := by
  induction j with
  | zero => show s.size ≤ _; omega
  | succ j ih =>
    rw [sUp_succ, ByteArray.size_append]
    have := numTx_le (zs.getD j 0) 1
    omega
attribute [irreducible] txtUp sUp

theorem specOk_up (o : Ov) (h : specOk o = true) : (1 ≤ o.kind ∧ o.kind ≤ 10) ∧ okUp o (shapeOf o.kind) (shN o.kind) = true := by
  unfold specOk at h
  simp only [Bool.and_eq_true, decide_eq_true_eq] at h
  exact ⟨h.1.1.1, h.1.2⟩

set_option maxRecDepth 100000 in
set_option maxHeartbeats 4000000 in
theorem spec_optTx (o : Ov) (v : Value) (w : World) (hv : Rd w v o.ids) (hn : o.ids.length ≤ 1048576) :
    Calls Try.prog 40 #[.agg (o.cells v)] w fun e w' => e = .returned (.string (specTx o)) ∧ Below w.heap.size w w' := by
  have hB0 := below_new w (.cells (o.cells v) 26)
  have B0 : Box (w.alloc (.cells (o.cells v) 26)) w.heap.size o v := ⟨Cel.new w _ _, hv.below hB0⟩
  have c1 := spec_ok_head o v _ B0.r hn
  generalize hr : specTx o = r
  have HR := Lib.hid hr
  clear hr
  have l0 := (box_all (w := w) B0 hB0).2.1
  obtain ⟨va, vc, rfl⟩ : ∃ x c, v = .slice x o.ids.length c := by obtain ⟨x, c, h, -⟩ := hv; exact ⟨x, c, h⟩
  clear hv
  cases hs : specOk o with
  | false =>
    rw [hs] at c1
    have HS := Lib.hid hs
    clear hs
    go_enter Try.func40, Try.ntmps40
    go_wp2_with (fail)
    with_reducible refine c1.mono ?_
    rintro e w1 ⟨rfl, hb1⟩
    go_wp2_with (fail)
    go_ret
    exact ⟨by rw [← HR.out]; unfold specTx; rw [HS.out]; rfl, Below.then_ hB0 hb1⟩
  | true =>
    rw [hs] at c1
    obtain ⟨hkd, hup⟩ := specOk_up o hs
    obtain ⟨he, h4⟩ := shape_even o.kind
    have hRS : numText o.kind 1 ++ numText (specS o).size 1 ++ specS o = r := by rw [← HR.out]; unfold specTx; rw [if_pos hs]
    unfold specS at hRS
    have hle := fun k hk => txtUp_le o (shapeOf o.kind) (shN o.kind) k hk hup
    have c2 := fun W => spec_shape o.kind hkd.1 hkd.2 W
    generalize shapeOf o.kind = sh at *
    generalize shN o.kind = n at *
    have HH := Lib.hid (And.intro he (And.intro hup (And.intro hRS hle)))
    clear hs hkd he hup hRS hle
    go_enter Try.func40, Try.ntmps40
    go_wp2_with (fail)
    with_reducible refine c1.mono ?_
    rintro e w1 ⟨rfl, hb1⟩
    have B1 := B0.kept hb1
    have hB1 := Below.then_ hB0 hb1
    have k1 := (Cel.cell (show Cel _ w.heap.size _ _ from B1.c) 0).trans (o.ats _).1
    clear B0 hB0 hb1 c1 l0
    go_wp2_with (fail)
    with_reducible refine (c2 _).mono ?_
    rintro e w2 ⟨rfl, hb2⟩
    have B2 := B1.kept hb2
    have hB2 := Below.then_ hB1 hb2
    clear B1 hB1 hb2 c2 k1
    go_wp2_with (fail)
    go_loopw [3, 5] (fun t i wr => ∃ k x : Nat, x = 2 * k ∧ k ≤ n ∧ i = .int .i64 x ∧ t = .string (txtUp o sh k) ∧ Box wr w.heap.size o (.slice va o.ids.length vc) ∧ Below w.heap.size w wr) (fun _ i _ => 8 - (intOf i).toNat)
    case atStart => exact ⟨0, 0, rfl, by omega, rfl, by rw [txtUp_zero], B2, hB2⟩
    case round =>
      clear B2 hB2
      obtain ⟨k, x, hx, hk, rfl, rfl, B, hB⟩ := hrel
      obtain ⟨he, hup, hRS, hle⟩ := HH.out
      have qb : (x : Int) ≤ 8 := by omega
      have hsz := hle k hk
      by_cases hlt : k < n
      · have q0 : (x : Int) + 1 < (sh.size : Int) := by omega
        have q1 : x < sh.size := by omega
        have q2 : x + 1 < sh.size := by omega
        have q3 : (0 : Int) ≤ (x : Int) ∧ (x : Int) < (sh.size : Int) := by omega
        have e2 : ((x : Int) + 1).toNat = x + 1 := by omega
        have hlet : letOf sh k = ((sh[x]'q1).toNat : Int) := by unfold letOf; rw [getElem!_pos sh (2 * k) (by omega)]; simp [hx]
        have hwid : widOf sh k = ((sh[x + 1]'q2).toNat : Int) := by unfold widOf; rw [getElem!_pos sh (2 * k + 1) (by omega)]; simp [hx]
        have hw255 : ((sh[x + 1]'q2).toNat : Int) ≤ 255 := by have := (sh[x + 1]'q2).toNat_lt; omega
        have htl := txtAt_le o sh k (okUp_at o sh k n hlt hup)
        have hsu := txtUp_succ o sh k
        have cw := fun W => spec_wide ((sh[x + 1]'q2).toNat : Int) (by omega) hw255 W
        have cl := fun W => spec_numl o (.slice va o.ids.length vc) ((sh[x]'q1).toNat : Int) W
        have ctx := fun W => spec_textl o (.slice va o.ids.length vc) ((sh[x]'q1).toNat : Int) W
        have hat : txtAt o (letOf sh k) (widOf sh k) = (match numL o ((sh[x]'q1).toNat : Int) with | some m => numText m (wideOf ((sh[x + 1]'q2).toNat : Int)) | none => textL o ((sh[x]'q1).toNat : Int)) := by rw [hlet, hwid]; rfl
        rw [hat] at hsu htl
        have HX := Lib.hid hx
        clear hlet hwid hat hx he hup hRS hle
        generalize wideOf ((sh[x + 1]'q2).toNat : Int) = wd at cw hsu htl
        generalize textL o ((sh[x]'q1).toNat : Int) = tx at ctx hsu htl
        generalize txtUp o sh k = s at *
        have S0 := box_drew B hB
        clear B hB
        cases hnum : numL o ((sh[x]'q1).toNat : Int) with
        | some m =>
          rw [hnum] at cl hsu htl
          simp only [Option.getD_some, Option.isSome_some] at cl hsu htl
          clear hnum ctx
          have ct := fun W => spec_numTextA m wd W
          generalize numText m wd = nt at *
          have HSU := Lib.hid hsu
          have qs : s.size + nt.size ≤ 9223372036854775807 := by omega
          clear hsu
          go_wp2_with (fail)
          go_region_held3 (fun W => Box W w.heap.size o (.slice va o.ids.length vc) ∧ (loadCells ⟨w.heap.size, 0, none⟩ 14).run Try.prog W = .ok (o.cells (.slice va o.ids.length vc)) W ∧ Below w.heap.size w W)
            (first | exact S0 | exact box_keep (by assumption) (by assumption) | go_keep)
            (first | (go_at_call 36; (with_reducible refine (cl _).mono ?_); rintro e w3 ⟨rfl, hb3⟩))
          have S3 : Box w3 w.heap.size o (.slice va o.ids.length vc) ∧ (loadCells ⟨w.heap.size, 0, none⟩ 14).run Try.prog w3 = .ok (o.cells (.slice va o.ids.length vc)) w3 ∧ Below w.heap.size w w3 := by assumption
          obtain ⟨B3, -, hB3⟩ := S3
          clear S0 hb3 cl
          go_wp2_with (fail)
          with_reducible refine (cw _).mono ?_
          rintro e w4 ⟨rfl, rfl⟩
          go_wp2_with (fail)
          with_reducible refine (ct _).mono ?_
          rintro e w5 ⟨rfl, hb5⟩
          have B5 := B3.kept hb5
          have hB5 := Below.then_ hB3 hb5
          clear B3 hB3 hb5 ct cw
          go_wp2_with (fail)
          go_roundw
          case rel => exact ⟨k + 1, x + 2, by have := HX.out; omega, by omega, by go_num, by rw [HSU.out], B5, hB5⟩
          case measure => have := HX.out; simp [intOf]; omega
        | none =>
          rw [hnum] at cl hsu htl
          simp only [Option.getD_none, Option.isSome_none] at cl hsu htl
          clear hnum cw
          have HSU := Lib.hid hsu
          have qs : s.size + tx.size ≤ 9223372036854775807 := by omega
          have qs2 : ¬ 9223372036854775807 < s.size + tx.size := by omega
          clear hsu
          go_wp2_with (fail)
          go_region_held3 (fun W => Box W w.heap.size o (.slice va o.ids.length vc) ∧ (loadCells ⟨w.heap.size, 0, none⟩ 14).run Try.prog W = .ok (o.cells (.slice va o.ids.length vc)) W ∧ Below w.heap.size w W)
            (first | exact S0 | exact box_keep (by assumption) (by assumption) | go_keep)
            (first | (go_at_call 36; (with_reducible refine (cl _).mono ?_); rintro e w3 ⟨rfl, hb3⟩))
          have S3 : Box w3 w.heap.size o (.slice va o.ids.length vc) ∧ (loadCells ⟨w.heap.size, 0, none⟩ 14).run Try.prog w3 = .ok (o.cells (.slice va o.ids.length vc)) w3 ∧ Below w.heap.size w w3 := by assumption
          have S4 := box_drew S3.1 S3.2.2
          clear S0 hb3 cl S3
          go_wp2_with (fail)
          go_region_held3 (fun W => Box W w.heap.size o (.slice va o.ids.length vc) ∧ (loadCells ⟨w.heap.size, 0, none⟩ 14).run Try.prog W = .ok (o.cells (.slice va o.ids.length vc)) W ∧ Below w.heap.size w W)
            (first | exact S4 | exact box_keep (by assumption) (by assumption) | go_keep)
            (first | (go_at_call 39; (with_reducible refine (ctx _).mono ?_); rintro e w5 ⟨rfl, hb5⟩))
          have S5 : Box w5 w.heap.size o (.slice va o.ids.length vc) ∧ (loadCells ⟨w.heap.size, 0, none⟩ 14).run Try.prog w5 = .ok (o.cells (.slice va o.ids.length vc)) w5 ∧ Below w.heap.size w w5 := by assumption
          have HS5 := Lib.hid S5
          clear S4 hb5 S5 ctx
          go_wp2_with (fail)
          go_roundw
          case rel => exact ⟨k + 1, x + 2, by have := HX.out; omega, by omega, by go_num, by rw [HSU.out], HS5.out.1, HS5.out.2.2⟩
          case measure => have := HX.out; simp [intOf]; omega
      · obtain rfl : k = n := by omega
        have q0 : ¬ ((x : Int) + 1 < (sh.size : Int)) := by omega
        have hsz2 := sUp_le o.ids (txtUp o sh k)
        have HT := Lib.hid hRS
        clear he hx hup hRS hle
        generalize txtUp o sh k = s at *
        go_wp2_with (fail)
        go_loopw [3, 8] (fun t j wi => ∃ i : Nat, i ≤ o.ids.length ∧ j = .int .i64 i ∧ t = .string (sUp o.ids s i) ∧ Box wi w.heap.size o (.slice va o.ids.length vc) ∧ Below w.heap.size w wi) (fun _ j _ => o.ids.length - (intOf j).toNat)
        case atStart => exact ⟨0, by omega, rfl, by rw [sUp_zero], B, hB⟩
        case round =>
          clear B hB
          obtain ⟨i, hi, rfl, rfl, B, hB⟩ := hrel
          have l13 := (Cel.cell (show Cel _ w.heap.size _ _ from B.c) 13).trans (o.ats _).2.2.2.2.2.2.2.2.2.2.2.2.2
          have l0 := (Cel.cell (show Cel _ w.heap.size _ _ from B.c) 0).trans (o.ats _).1
          have hsi := hsz2 i
          by_cases hit : i < o.ids.length
          · have q4 : (i : Int) < (o.ids.length : Int) := by omega
            have q5 : (0 : Int) ≤ (i : Int) := by omega
            obtain ⟨b, off, hva, hcc⟩ : ∃ b off, va = some ⟨b, off, none⟩ ∧ ∀ j (h : j < o.ids.length), wr.cell? ⟨b, off + j, none⟩ = some (.int .i64 o.ids[j]) := by
              obtain ⟨a', c', he', hc'⟩ := B.r
              injection he' with e1 e2 e3
              obtain ⟨b, off, h, hcc⟩ := hc' (by omega)
              exact ⟨b, off, e1.trans h, hcc⟩
            subst hva
            have h1 := hcc i hit
            have hsu := sUp_succ o.ids s i
            have hgi : o.ids.getD i 0 = o.ids[i]'hit := by rw [List.getD, List.getElem?_eq_getElem hit]; rfl
            rw [hgi] at hsu
            generalize o.ids[i]'hit = z at *
            have ct := fun W => spec_numTextA z 1 W
            have z6 := numTx_le z 1
            generalize numText z 1 = nt at *
            have HSU := Lib.hid hsu
            generalize sUp o.ids s i = si at *
            have qs : si.size + nt.size ≤ 9223372036854775807 := by omega
            clear hsu hgi hcc l0
            go_wp2_with (fail)
            with_reducible refine (ct _).mono ?_
            rintro e w5 ⟨rfl, hb5⟩
            have B5 := B.kept hb5
            have hB5 := Below.then_ hB hb5
            clear B hB hb5 ct l13 h1
            go_wp2_with (fail)
            go_roundw
            case rel => exact ⟨i + 1, by omega, by go_num, by rw [HSU.out], B5, hB5⟩
            case measure => simp [intOf]; omega
          · obtain rfl : i = o.ids.length := by omega
            have q4 : ¬ ((o.ids.length : Int) < (o.ids.length : Int)) := by omega
            have z1 := numTx_le o.kind 1
            have cn1 := fun W => spec_numTextA o.kind 1 W
            have hT := HT.out
            generalize sUp o.ids s o.ids.length = si at *
            have z2 := numTx_le (si.size : Int) 1
            have cn2 := fun W => spec_numTextA (si.size : Int) 1 W
            generalize numText o.kind 1 = n1 at *
            generalize numText (si.size : Int) 1 = n2 at *
            have q5 : n1.size + n2.size ≤ 9223372036854775807 := by omega
            have q6 : (n1 ++ n2).size + si.size ≤ 9223372036854775807 := by rw [ByteArray.size_append]; omega
            have HT2 := Lib.hid hT
            clear hT HT
            go_wp2_with (fail)
            with_reducible refine (cn1 _).mono ?_
            rintro e w5 ⟨rfl, hb5⟩
            have hB5 := Below.then_ hB hb5
            clear B hB hb5 l13 l0
            go_wp2_with (fail)
            with_reducible refine (cn2 _).mono ?_
            rintro e w6 ⟨rfl, hb6⟩
            go_wp2_with (fail)
            go_ret
            exact ⟨by rw [← HT2.out]; rfl, Below.then_ hB5 hb6⟩

theorem spec_optSz (o : Ov) (v : Value) (w : World) (hv : Rd w v o.ids) (hn : o.ids.length ≤ 1048576) :
    Calls Try.prog 12 #[.agg (o.cells v)] w fun e w' => e = .returned (.int .i64 ((specTx o).size : Int)) ∧ Below w.heap.size w w' := by
  have hB0 := below_new w (.cells (o.cells v) 26)
  have B0 : Box (w.alloc (.cells (o.cells v) 26)) w.heap.size o v := ⟨Cel.new w _ _, hv.below hB0⟩
  have l0 := (box_all (w := w) B0 hB0).2.1
  have c1 := spec_optTx o v _ B0.r hn
  generalize specTx o = t at *
  go_enter Try.func12, Try.ntmps12
  go_wp2_with (fail)
  with_reducible refine c1.mono ?_
  rintro e w1 ⟨rfl, hb1⟩
  go_wp2_with (fail)
  go_ret
  exact ⟨rfl, Below.then_ hB0 hb1⟩
end Go.Proofs.Ytkpajakangaekab
