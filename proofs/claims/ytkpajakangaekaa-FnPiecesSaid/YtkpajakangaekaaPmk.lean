import Derived.Test.YtkpajakangaekaaPto
import Derived.Test.YtkpajakangaekaaMt
import Derived.Test.YtkpajakangaekaaQuiet
namespace Go.Proofs.Ytkpajakangaekaa
open Go.RowKit

/-- Marks from k on, two a piece. -/
def markP (k : Nat) : Nat → List Pc
  | 0 => []
  | n + 1 => ⟨(k : Int), mtext (k + 1)⟩ :: markP (k + 2) n
theorem markP_length (k n : Nat) : (markP k n).length = n := by
  induction n generalizing k with
  | zero => rfl
  | succ n ih => simp [markP, ih]
theorem markP_at (k n i : Nat) (h : i < n) : (markP k n)[i]'(by rw [markP_length]; exact h) = ⟨((k + i * 2 : Nat) : Int), mtext (k + i * 2 + 1)⟩ := by
  induction n generalizing k i with
  | zero => omega
  | succ n ih =>
    cases i with
    | zero => simp [markP]
    | succ i =>
      simp only [markP, List.getElem_cons_succ]
      rw [ih (k + 2) i (by omega)]
      have e : k + 2 + i * 2 = k + (i + 1) * 2 := by omega
      rw [e]
theorem markP_snoc (k n : Nat) : markP k (n + 1) = markP k n ++ [⟨((k + n * 2 : Nat) : Int), mtext (k + n * 2 + 1)⟩] := by
  induction n generalizing k with
  | zero => simp [markP]
  | succ n ih =>
    rw [markP, ih (k + 2), markP]
    simp only [List.cons_append]
    have e : k + 2 + n * 2 = k + (n + 1) * 2 := by omega
    rw [e]
/-- The first p replaced by marks. -/
def markedP (ms : List Pc) (k p : Nat) : List Pc := markP k p ++ ms.drop p
theorem markedP_zero (ms : List Pc) (k : Nat) : markedP ms k 0 = ms := by simp [markedP, markP]
theorem markedP_all (ms : List Pc) (k : Nat) : markedP ms k ms.length = markP k ms.length := by simp [markedP]
theorem markedP_length (ms : List Pc) (k p : Nat) (h : p ≤ ms.length) : (markedP ms k p).length = ms.length := by simp [markedP, markP_length]; omega
theorem markedP_succ (ms : List Pc) (k p : Nat) (h : p < ms.length) : markedP ms k (p + 1) = (markedP ms k p).set p ⟨((k + p * 2 : Nat) : Int), mtext (k + p * 2 + 1)⟩ := by
  unfold markedP
  rw [markP_snoc, List.set_append_right _ _ (by rw [markP_length]; omega), markP_length, Nat.sub_self]
  conv => rhs; rw [List.drop_eq_getElem_cons h]
  rw [List.set_cons_zero, List.append_assoc]
  rfl
attribute [irreducible] markP markedP

theorem mtext_small (k : Nat) (h : k ≤ 1099511627776) : (mtext k).size ≤ 21 := by
  have := dg_len k (by omega)
  show (109 :: Lib.decDigits k).toArray.size ≤ 21
  simp
  omega

theorem set_set_pc (l : List Pc) (j : Nat) (x : Int) (t : ByteArray) (h : j < l.length) : ((l.set j ⟨x, l[j].text⟩).set j ⟨((l.set j ⟨x, l[j].text⟩)[j]'(by simpa using h)).pos, t⟩) = l.set j ⟨x, t⟩ := by
  rw [List.getElem_set_self, List.set_set]

set_option maxRecDepth 100000 in
set_option maxHeartbeats 2000000 in
theorem mark_pieceS (v : Value) (ms : List Pc) (w : World) (B C k : Nat) (hv : OwnP w B C v ms) (hn : ms.length ≤ 2097152) (hk1 : 1 ≤ k) (hk : k ≤ 1000000000000) (hC : C ≤ w.heap.size) :
    Calls Try.prog 47 #[v, .int .i64 (k : Int)] w fun e w' => e = .returned (.int .i64 ((k + ms.length * 2 : Nat) : Int)) ∧ OwnP w' B C v (markP k ms.length) ∧ Below B w w' ∧ w.grownBy w' v.ownBlock := by
  obtain ⟨a, c, rfl, hform⟩ := hv.form
  go_enter Try.func47, Try.ntmps47
  go_wp2_with (fail)
  go_loopw [1, 5] (fun m i wr => ∃ j : Nat, j ≤ ms.length ∧ m = .int .i64 ((k + j * 2 : Nat) : Int) ∧ i = .int .i64 j ∧ OwnP wr B C (.slice a ms.length c) (markedP ms k j) ∧ Below B w wr ∧ w.grownBy wr (Value.slice a ms.length c).ownBlock) (fun _ i _ => ms.length - (intOf i).toNat)
  case atStart => exact ⟨0, by omega, by simp, rfl, by rw [markedP_zero]; exact hv, Below.refl _ _, World.grownBy.refl _ _⟩
  case round =>
    clear hv
    obtain ⟨j, hj, rfl, rfl, hr, hB, hG⟩ := hrel
    by_cases hlt : j < ms.length
    · obtain ⟨g, rfl, hg, hgC⟩ := hform (by omega)
      have hl : j < (markedP ms k j).length := by rw [markedP_length _ _ _ (by omega)]; exact hlt
      have hs := markedP_succ ms k j hlt
      have hwz : w.heap.size ≤ wr.heap.size := hG.size
      obtain ⟨c0, -, hf, hgw, -⟩ := pc_own hr j hl
      have hput := pc_put0 hr j hl ((k + j * 2 : Nat) : Int)
      have f0 := hf (j * 2)
      have hB2 := hB.setCell (p := ⟨g, j * 2, none⟩) hg (.int .i64 ((k + j * 2 : Nat) : Int))
      have hG2 : w.grownBy (wr.setCell ⟨g, j * 2, none⟩ (.int .i64 ((k + j * 2 : Nat) : Int))) (Value.slice (some ⟨g, 0, none⟩) ms.length c).ownBlock :=
        ⟨hG.os, hG.tape, hG.output, by simpa using hwz, fun i hi hne => by
          rw [Below.heap_setCell _ _ _ _ (fun h => hne (by rw [h]; rfl))]
          exact hG.block i hi hne⟩
      have q : (0 : Int) ≤ (j : Int) ∧ (j : Int) < (ms.length : Int) := by omega
      have e1 : IntKind.i64.wrap (((k + j * 2 : Nat) : Int) + 1) = ((k + j * 2 + 1 : Nat) : Int) := by rw [IntWalk.i64_in _ (by omega)]; omega
      have e2 : IntKind.i64.wrap (((k + j * 2 + 1 : Nat) : Int) + 1) = ((k + j * 2 + 2 : Nat) : Int) := by rw [IntWalk.i64_in _ (by omega)]; omega
      have cm := fun W => mark_text (k + j * 2 + 1) W (by omega) (by omega)
      have hset := set_set_pc (markedP ms k j) j ((k + j * 2 : Nat) : Int) (mtext (k + j * 2 + 1)) hl
      rw [← hs] at hset
      generalize hx0 : ((k + j * 2 : Nat) : Int) = x0 at *
      generalize hx1 : ((k + j * 2 + 1 : Nat) : Int) = x1 at *
      generalize hx2 : ((k + j * 2 + 2 : Nat) : Int) = x2 at *
      generalize mtext (k + j * 2 + 1) = tx at *
      have hl2 : j < ((markedP ms k j).set j ⟨x0, (markedP ms k j)[j].text⟩).length := by simpa using hl
      obtain ⟨cur, hl2, hput, hset⟩ : ∃ cur : List Pc, ∃ hl2 : j < cur.length, OwnP (wr.setCell ⟨g, j * 2, none⟩ (.int .i64 x0)) B C (.slice (some ⟨g, 0, none⟩) ms.length c) cur ∧ cur.set j ⟨cur[j].pos, tx⟩ = markedP ms k (j + 1) := ⟨_, hl2, hput, hset⟩
      have HX := Lib.hid (And.intro hx0 (And.intro hx1 (And.intro hx2 hset)))
      have hgw2 : g < (wr.setCell ⟨g, j * 2, none⟩ (.int .i64 x0)).heap.size := by simpa using hgw
      have HP := Lib.hid (And.intro hput (And.intro hB2 hG2))
      clear hput hB2 hG2 hB hr hf hG hs hx0 hx1 hx2 hset
      go_wp2_with (go_at_call 58; (with_reducible refine (cm _).mono ?_); rintro e w1 ⟨rfl, hb1⟩; obtain ⟨hput, hB2, hG2⟩ := HP.out; have hO1 := OwnE.keep hput hb1 (by simp; omega); obtain ⟨-, c1, hf1, -, -⟩ := pc_own hO1 j hl2; have f1 := hf1 (j * 2 + 1); have hO2 := pc_put1 hO1 j hl2 tx; have hB3 := (Below.trans hB2 (hb1.mono (show B ≤ _ by simp; omega))).setCell (p := ⟨g, j * 2 + 1, none⟩) hg (.string tx); have hG3 := World.grownBy.trans hG2 ⟨hb1.os, hb1.tape, hb1.output, hb1.size, fun i hi _ => hb1.block i hi⟩; have HQ := Lib.hid (And.intro hO2 (And.intro hB3 hG3)); clear hput hB2 hG2 hO1 hO2 hB3 hG3 hf1 hb1)
      go_roundw
      case rel =>
        obtain ⟨hx0, hx1, hx2, hset⟩ := HX.out
        obtain ⟨p1, p2, p3⟩ := HQ.out
        rw [hset] at p1
        refine ⟨j + 1, by omega, congrArg (Value.int .i64) (by omega), by go_num, p1, p2, ?_⟩
        exact ⟨p3.os, p3.tape, p3.output, by simpa using p3.size, fun i hi hne => by
          rw [Below.heap_setCell _ _ _ _ (fun h => hne (by rw [h]; rfl))]
          exact p3.block i hi hne⟩
      case measure => simp [intOf]; omega
    · obtain rfl : j = ms.length := by omega
      rw [markedP_all] at hr
      go_wp2_with (fail)
      go_ret
      exact ⟨rfl, hr, hB, hG⟩
end Go.Proofs.Ytkpajakangaekaa
