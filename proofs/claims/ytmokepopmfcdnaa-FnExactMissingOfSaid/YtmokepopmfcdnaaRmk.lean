import Derived.Test.YtmokepopmfcdnaaRto
namespace Go.Proofs.Ytmokepopmfcdnaa
open Go.RowKit

/-- Marks from k on, three a path. -/
def rvM (k : Nat) : Rv := ⟨(k : Int), ((k + 1 : Nat) : Int), ((k + 2 : Nat) : Int)⟩
def markR (k : Nat) : Nat → List Rv
  | 0 => []
  | n + 1 => rvM k :: markR (k + 3) n
theorem markR_length (k n : Nat) : (markR k n).length = n := by
  induction n generalizing k with
  | zero => rfl
  | succ n ih => simp [markR, ih]
theorem markR_at (k n i : Nat) (h : i < n) : (markR k n)[i]'(by rw [markR_length]; exact h) = rvM (k + i * 3) := by
  induction n generalizing k i with
  | zero => omega
  | succ n ih =>
    cases i with
    | zero => simp [markR]
    | succ i =>
      simp only [markR, List.getElem_cons_succ]
      rw [ih (k + 3) i (by omega)]
      congr 1
      omega
theorem markR_snoc (k n : Nat) : markR k (n + 1) = markR k n ++ [rvM (k + n * 3)] := by
  induction n generalizing k with
  | zero => simp [markR]
  | succ n ih =>
    rw [markR, ih (k + 3), markR]
    simp only [List.cons_append]
    have e : k + 3 + n * 3 = k + (n + 1) * 3 := by omega
    rw [e]
/-- The first p replaced by marks. -/
def markedR (ms : List Rv) (k p : Nat) : List Rv := markR k p ++ ms.drop p
theorem markedR_zero (ms : List Rv) (k : Nat) : markedR ms k 0 = ms := by simp [markedR, markR]
theorem markedR_all (ms : List Rv) (k : Nat) : markedR ms k ms.length = markR k ms.length := by simp [markedR]
theorem markedR_length (ms : List Rv) (k p : Nat) (h : p ≤ ms.length) : (markedR ms k p).length = ms.length := by simp [markedR, markR_length]; omega
theorem markedR_succ (ms : List Rv) (k p : Nat) (h : p < ms.length) : markedR ms k (p + 1) = (markedR ms k p).set p (rvM (k + p * 3)) := by
  unfold markedR
  rw [markR_snoc, List.set_append_right _ _ (by rw [markR_length]; omega), markR_length, Nat.sub_self]
  conv => rhs; rw [List.drop_eq_getElem_cons h]
  rw [List.set_cons_zero, List.append_assoc]
  rfl
attribute [irreducible] markR markedR
theorem rv_setC (W : World) (g o : Nat) (x y z : Int) : W.setCells g o (rvK.cs ⟨x, y, z⟩) = ((W.setCell ⟨g, o, none⟩ (.int .i64 x)).setCell ⟨g, o + 1, none⟩ (.int .i64 y)).setCell ⟨g, o + 2, none⟩ (.int .i64 z) := rfl

set_option maxRecDepth 100000 in
set_option maxHeartbeats 2000000 in
theorem mark_roadS (v : Value) (ms : List Rv) (w : World) (B C k : Nat) (hv : OwnR w B C v ms) (hn : ms.length ≤ 2097152) (hk : k ≤ 1099511627776) :
    Calls Try.prog 23 #[v, .int .i64 (k : Int)] w fun e w' => e = .returned (.int .i64 ((k + ms.length * 3 : Nat) : Int)) ∧ OwnR w' B C v (markR k ms.length) ∧ Below B w w' ∧ w'.heap.size = w.heap.size ∧ ∀ i, v.ownBlock ≠ some i → w'.heap[i]? = w.heap[i]? := by
  obtain ⟨a, c, rfl, hform⟩ := hv.form
  go_enter Try.func23, Try.ntmps23
  go_wp2_with (fail)
  go_loopw [1, 5] (fun m i wr => ∃ j : Nat, j ≤ ms.length ∧ m = .int .i64 ((k + j * 3 : Nat) : Int) ∧ i = .int .i64 j ∧ OwnR wr B C (.slice a ms.length c) (markedR ms k j) ∧ Below B w wr ∧ wr.heap.size = w.heap.size ∧ ∀ i, (Value.slice a ms.length c).ownBlock ≠ some i → wr.heap[i]? = w.heap[i]?) (fun _ i _ => ms.length - (intOf i).toNat)
  case atStart => exact ⟨0, by omega, by simp, rfl, by rw [markedR_zero]; exact hv, Below.refl _ _, rfl, fun _ _ => rfl⟩
  case round =>
    clear hv
    obtain ⟨j, hj, rfl, rfl, hr, hB, hz, ho⟩ := hrel
    by_cases hlt : j < ms.length
    · obtain ⟨g, rfl, hg, -⟩ := hform (by omega)
      have hl : j < (markedR ms k j).length := by rw [markedR_length _ _ _ (by omega)]; exact hlt
      have hs := markedR_succ ms k j hlt
      have hat := rv_own hr j hl
      generalize (markedR ms k j)[j] = mm at hat
      generalize markedR ms k j = cur at *
      obtain ⟨c0, c1, c2, hf, hgw, -⟩ := hat
      have f0 := hf (j * 3)
      have f1 := hf (j * 3 + 1)
      have f2 := hf (j * 3 + 2)
      have hput := OwnE.put hr j hl (rvM (k + j * 3))
      have hB2 := hB.trans (esetC_below g B hg (j * 3) (rvK.cs (rvM (k + j * 3))) wr)
      have hz2 := (esetC_size g (j * 3) (rvK.cs (rvM (k + j * 3))) wr).trans hz
      have ho2 : ∀ i, (Value.slice (some ⟨g, 0, none⟩) ms.length c).ownBlock ≠ some i → (wr.setCells g (j * 3) (rvK.cs (rvM (k + j * 3)))).heap[i]? = w.heap[i]? := fun i hi => by
        rw [esetC_other g (j * 3) _ wr i (fun h => hi (by simp [Value.ownBlock, h]))]
        exact ho i hi
      have hput : OwnR (wr.setCells g (j * 3) (rvK.cs (rvM (k + j * 3)))) B C _ (cur.set j (rvM (k + j * 3))) := hput
      rw [← hs] at hput
      unfold rvM at hput hB2 hz2 ho2
      rw [rv_setC] at hput hB2 hz2 ho2
      clear hs
      have q : (0 : Int) ≤ (j : Int) ∧ (j : Int) < (ms.length : Int) := by omega
      have e1 : IntKind.i64.wrap (((k + j * 3 : Nat) : Int) + 1) = ((k + j * 3 + 1 : Nat) : Int) := by rw [IntWalk.i64_in _ (by omega)]; omega
      have e2 : IntKind.i64.wrap (((k + j * 3 + 1 : Nat) : Int) + 1) = ((k + j * 3 + 2 : Nat) : Int) := by rw [IntWalk.i64_in _ (by omega)]; omega
      have e3 : IntKind.i64.wrap (((k + j * 3 + 2 : Nat) : Int) + 1) = ((k + j * 3 + 3 : Nat) : Int) := by rw [IntWalk.i64_in _ (by omega)]; omega
      have ef : ((k + j * 3 + 3 : Nat) : Int) = ((k + (j + 1) * 3 : Nat) : Int) := by omega
      rw [ef] at e3
      clear ef
      generalize ((k + j * 3 : Nat) : Int) = x0 at *
      generalize ((k + j * 3 + 1 : Nat) : Int) = x1 at *
      generalize ((k + j * 3 + 2 : Nat) : Int) = x2 at *
      have HP := Lib.hid (And.intro hput (And.intro hB2 (And.intro hz2 ho2)))
      clear hput hB2 hz2 ho2 ho hB hr hf hz
      go_wp2_with (fail)
      go_roundw
      case rel =>
        obtain ⟨p1, p2, p3, p4⟩ := HP.out
        exact ⟨j + 1, by omega, rfl, by go_num, p1, p2, p3, p4⟩
      case measure => simp [intOf]; omega
    · obtain rfl : j = ms.length := by omega
      rw [markedR_all] at hr
      go_wp2_with (fail)
      go_ret
      exact ⟨rfl, hr, hB, hz, ho⟩

set_option maxRecDepth 100000 in
set_option maxHeartbeats 2000000 in
theorem held_roadS (v : Value) (k n : Nat) (w : World) (hv : RdR w v (markR k n)) (hn : n ≤ 2097152) (hk : k ≤ 1099511627776) :
    Calls Try.prog 24 #[v, .int .i64 (k : Int)] w fun e w' => e = .returned (.int .i64 ((k + n * 3 : Nat) : Int)) ∧ w = w' := by
  obtain ⟨a, c, rfl⟩ : ∃ a c, v = .slice a n c := by
    obtain ⟨a, c, h⟩ := hv.form
    rw [markR_length] at h
    exact ⟨a, c, h⟩
  go_enter Try.func24, Try.ntmps24
  go_wp2_with (fail)
  go_loop [1, 5] (fun m i => ∃ j : Nat, j ≤ n ∧ m = .int .i64 ((k + j * 3 : Nat) : Int) ∧ i = .int .i64 j) (fun _ i => n - (intOf i).toNat)
  case atStart => exact ⟨0, by omega, by simp, rfl⟩
  case round =>
    obtain ⟨j, hj, rfl, rfl⟩ := hrel
    by_cases hlt : j < n
    · obtain ⟨b, off, ha, -, c0, c1, c2, -⟩ := rv_at (P := Try.prog) hv j (by rw [markR_length]; exact hlt)
      subst ha
      rw [markR_at k n j hlt] at c0 c1 c2
      have q : (0 : Int) ≤ (j : Int) ∧ (j : Int) < (n : Int) := by omega
      have e1 : IntKind.i64.wrap (((k + j * 3 : Nat) : Int) + 1) = ((k + j * 3 + 1 : Nat) : Int) := by rw [IntWalk.i64_in _ (by omega)]; omega
      have e2 : IntKind.i64.wrap (((k + j * 3 + 1 : Nat) : Int) + 1) = ((k + j * 3 + 2 : Nat) : Int) := by rw [IntWalk.i64_in _ (by omega)]; omega
      have e3 : IntKind.i64.wrap (((k + j * 3 + 2 : Nat) : Int) + 1) = ((k + j * 3 + 3 : Nat) : Int) := by rw [IntWalk.i64_in _ (by omega)]; omega
      have ef : ((k + j * 3 + 3 : Nat) : Int) = ((k + (j + 1) * 3 : Nat) : Int) := by omega
      rw [ef] at e3
      clear ef
      unfold rvM at c0 c1 c2
      simp only at c0 c1 c2
      generalize ((k + j * 3 : Nat) : Int) = x0 at *
      generalize ((k + j * 3 + 1 : Nat) : Int) = x1 at *
      generalize ((k + j * 3 + 2 : Nat) : Int) = x2 at *
      clear hv
      go_wp2_with (fail)
      go_round
      case rel => exact ⟨j + 1, by omega, rfl, by go_num⟩
      case measure => simp [intOf]; omega
    · obtain rfl : j = n := by omega
      go_wp2_with (fail)
      go_ret
      exact ⟨rfl, rfl⟩
end Go.Proofs.Ytmokepopmfcdnaa
