import Derived.Test.YtmokepopmfcdnaaAto
namespace Go.Proofs.Ytmokepopmfcdnaa
open Go.RowKit

/-- Marks from k on, four an address. -/
def fl3 (x : Int) : Bool := Int.tmod x 3 == 0
def avM (k : Nat) : Av := ⟨(k : Int), ((k + 1 : Nat) : Int), fl3 ((k + 2 : Nat) : Int), fl3 ((k + 3 : Nat) : Int)⟩
def markV (k : Nat) : Nat → List Av
  | 0 => []
  | n + 1 => avM k :: markV (k + 4) n
theorem markV_length (k n : Nat) : (markV k n).length = n := by
  induction n generalizing k with
  | zero => rfl
  | succ n ih => simp [markV, ih]
theorem markV_at (k n i : Nat) (h : i < n) : (markV k n)[i]'(by rw [markV_length]; exact h) = avM (k + i * 4) := by
  induction n generalizing k i with
  | zero => omega
  | succ n ih =>
    cases i with
    | zero => simp [markV]
    | succ i =>
      simp only [markV, List.getElem_cons_succ]
      rw [ih (k + 4) i (by omega)]
      congr 1
      omega
theorem markV_snoc (k n : Nat) : markV k (n + 1) = markV k n ++ [avM (k + n * 4)] := by
  induction n generalizing k with
  | zero => simp [markV]
  | succ n ih =>
    rw [markV, ih (k + 4), markV]
    simp only [List.cons_append]
    have e : k + 4 + n * 4 = k + (n + 1) * 4 := by omega
    rw [e]
/-- The first p replaced by marks. -/
def markedV (ms : List Av) (k p : Nat) : List Av := markV k p ++ ms.drop p
theorem markedV_zero (ms : List Av) (k : Nat) : markedV ms k 0 = ms := by simp [markedV, markV]
theorem markedV_all (ms : List Av) (k : Nat) : markedV ms k ms.length = markV k ms.length := by simp [markedV]
theorem markedV_length (ms : List Av) (k p : Nat) (h : p ≤ ms.length) : (markedV ms k p).length = ms.length := by simp [markedV, markV_length]; omega
theorem markedV_succ (ms : List Av) (k p : Nat) (h : p < ms.length) : markedV ms k (p + 1) = (markedV ms k p).set p (avM (k + p * 4)) := by
  unfold markedV
  rw [markV_snoc, List.set_append_right _ _ (by rw [markV_length]; omega), markV_length, Nat.sub_self]
  conv => rhs; rw [List.drop_eq_getElem_cons h]
  rw [List.set_cons_zero, List.append_assoc]
  rfl
attribute [irreducible] markV markedV
theorem av_setC (W : World) (g o : Nat) (x y : Int) (b c : Bool) : W.setCells g o (Av.cells ⟨x, y, b, c⟩) = (((W.setCell ⟨g, o, none⟩ (.int .i64 x)).setCell ⟨g, o + 1, none⟩ (.int .i64 y)).setCell ⟨g, o + 2, none⟩ (.bool b)).setCell ⟨g, o + 3, none⟩ (.bool c) := rfl

set_option maxRecDepth 100000 in
set_option maxHeartbeats 2000000 in
theorem mark_addrS (v : Value) (ms : List Av) (w : World) (B C k : Nat) (hv : OwnV w B C v ms) (hn : ms.length ≤ 2097152) (hk : k ≤ 1099511627776) :
    Calls Try.prog 22 #[v, .int .i64 (k : Int)] w fun e w' => e = .returned (.int .i64 ((k + ms.length * 4 : Nat) : Int)) ∧ OwnV w' B C v (markV k ms.length) ∧ Below B w w' ∧ w'.heap.size = w.heap.size ∧ ∀ i, v.ownBlock ≠ some i → w'.heap[i]? = w.heap[i]? := by
  obtain ⟨a, c, rfl, hform⟩ := hv.form
  go_enter Try.func22, Try.ntmps22
  go_wp2_with (fail)
  go_loopw [1, 5] (fun m i wr => ∃ j : Nat, j ≤ ms.length ∧ m = .int .i64 ((k + j * 4 : Nat) : Int) ∧ i = .int .i64 j ∧ OwnV wr B C (.slice a ms.length c) (markedV ms k j) ∧ Below B w wr ∧ wr.heap.size = w.heap.size ∧ ∀ i, (Value.slice a ms.length c).ownBlock ≠ some i → wr.heap[i]? = w.heap[i]?) (fun _ i _ => ms.length - (intOf i).toNat)
  case atStart => exact ⟨0, by omega, by simp, rfl, by rw [markedV_zero]; exact hv, Below.refl _ _, rfl, fun _ _ => rfl⟩
  case round =>
    clear hv
    obtain ⟨j, hj, rfl, rfl, hr, hB, hz, ho⟩ := hrel
    by_cases hlt : j < ms.length
    · obtain ⟨g, rfl, hg, -⟩ := hform (by omega)
      have hl : j < (markedV ms k j).length := by rw [markedV_length _ _ _ (by omega)]; exact hlt
      have hs := markedV_succ ms k j hlt
      have hat := av_own hr j hl
      generalize (markedV ms k j)[j] = mm at hat
      generalize markedV ms k j = cur at *
      obtain ⟨c0, c1, c2, c3, hf, hgw, -⟩ := hat
      have f0 := hf (j * 4)
      have f1 := hf (j * 4 + 1)
      have f2 := hf (j * 4 + 2)
      have f3 := hf (j * 4 + 3)
      have hput := OwnE.put hr j hl (avM (k + j * 4))
      have hB2 := hB.trans (esetC_below g B hg (j * 4) (Av.cells (avM (k + j * 4))) wr)
      have hz2 := (esetC_size g (j * 4) (Av.cells (avM (k + j * 4))) wr).trans hz
      have ho2 : ∀ i, (Value.slice (some ⟨g, 0, none⟩) ms.length c).ownBlock ≠ some i → (wr.setCells g (j * 4) (Av.cells (avM (k + j * 4)))).heap[i]? = w.heap[i]? := fun i hi => by
        rw [esetC_other g (j * 4) _ wr i (fun h => hi (by simp [Value.ownBlock, h]))]
        exact ho i hi
      have hput : OwnV (wr.setCells g (j * 4) (Av.cells (avM (k + j * 4)))) B C _ (cur.set j (avM (k + j * 4))) := hput
      rw [← hs] at hput
      unfold avM at hput hB2 hz2 ho2
      rw [av_setC] at hput hB2 hz2 ho2
      clear hs
      have q : (0 : Int) ≤ (j : Int) ∧ (j : Int) < (ms.length : Int) := by omega
      have e1 : IntKind.i64.wrap (((k + j * 4 : Nat) : Int) + 1) = ((k + j * 4 + 1 : Nat) : Int) := by rw [IntWalk.i64_in _ (by omega)]; omega
      have e2 : IntKind.i64.wrap (((k + j * 4 + 1 : Nat) : Int) + 1) = ((k + j * 4 + 2 : Nat) : Int) := by rw [IntWalk.i64_in _ (by omega)]; omega
      have e3 : IntKind.i64.wrap (((k + j * 4 + 2 : Nat) : Int) + 1) = ((k + j * 4 + 3 : Nat) : Int) := by rw [IntWalk.i64_in _ (by omega)]; omega
      have e4 : IntKind.i64.wrap (((k + j * 4 + 3 : Nat) : Int) + 1) = ((k + j * 4 + 4 : Nat) : Int) := by rw [IntWalk.i64_in _ (by omega)]; omega
      have m2 : IntKind.i64.wrap (Int.tmod ((k + j * 4 + 2 : Nat) : Int) 3) = Int.tmod ((k + j * 4 + 2 : Nat) : Int) 3 := by rw [Int.tmod_eq_emod_of_nonneg (by omega)]; exact IntWalk.i64_in _ (by omega)
      have m3 : IntKind.i64.wrap (Int.tmod ((k + j * 4 + 3 : Nat) : Int) 3) = Int.tmod ((k + j * 4 + 3 : Nat) : Int) 3 := by rw [Int.tmod_eq_emod_of_nonneg (by omega)]; exact IntWalk.i64_in _ (by omega)
      have b2 : (Int.tmod ((k + j * 4 + 2 : Nat) : Int) 3 == 0) = fl3 ((k + j * 4 + 2 : Nat) : Int) := rfl
      have b3 : (Int.tmod ((k + j * 4 + 3 : Nat) : Int) 3 == 0) = fl3 ((k + j * 4 + 3 : Nat) : Int) := rfl
      generalize fl3 ((k + j * 4 + 2 : Nat) : Int) = y2 at *
      generalize fl3 ((k + j * 4 + 3 : Nat) : Int) = y3 at *
      generalize ((k + j * 4 : Nat) : Int) = x0 at *
      generalize ((k + j * 4 + 1 : Nat) : Int) = x1 at *
      generalize ((k + j * 4 + 2 : Nat) : Int) = x2 at *
      generalize ((k + j * 4 + 3 : Nat) : Int) = x3 at *
      have HP := Lib.hid (And.intro hput (And.intro hB2 (And.intro hz2 ho2)))
      clear hput hB2 hz2 ho2 ho hB hr hf hz
      go_wp2_with (fail)
      go_roundw
      case rel =>
        obtain ⟨p1, p2, p3, p4⟩ := HP.out
        exact ⟨j + 1, by omega, congrArg (Value.int .i64) (by omega), by go_num, p1, p2, p3, p4⟩
      case measure => simp [intOf]; omega
    · obtain rfl : j = ms.length := by omega
      rw [markedV_all] at hr
      go_wp2_with (fail)
      go_ret
      exact ⟨rfl, hr, hB, hz, ho⟩

end Go.Proofs.Ytmokepopmfcdnaa
