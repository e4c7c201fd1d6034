import Derived.Test.YtoeflkmhofkiaaaHto
namespace Go.Proofs.Ytoeflkmhofkiaaa
open Go.RowKit
set_option maxRecDepth 100000

/-- Marks from k on, 8 a struct. -/
def hvM (k : Nat) : Hv := ⟨⟨(k : Int), ((k + 1 : Nat) : Int), ((k + 2 : Nat) : Int)⟩, ((k + 3 : Nat) : Int), ((k + 4 : Nat) : Int), ((k + 5 : Nat) : Int), ((k + 6 : Nat) : Int), ((k + 7 : Nat) : Int)⟩
def markH (k : Nat) : Nat → List Hv
  | 0 => []
  | n + 1 => hvM k :: markH (k + 8) n
theorem markH_length (k n : Nat) : (markH k n).length = n := by
  induction n generalizing k with
  | zero => rfl
  | succ n ih => simp [markH, ih]
theorem markH_at (k n i : Nat) (h : i < n) : (markH k n)[i]'(by rw [markH_length]; exact h) = hvM (k + i * 8) := by
  induction n generalizing k i with
  | zero => omega
  | succ n ih =>
    cases i with
    | zero => simp [markH]
    | succ i =>
      simp only [markH, List.getElem_cons_succ]
      rw [ih (k + 8) i (by omega)]
      congr 1
      omega
theorem markH_snoc (k n : Nat) : markH k (n + 1) = markH k n ++ [hvM (k + n * 8)] := by
  induction n generalizing k with
  | zero => simp [markH]
  | succ n ih =>
    rw [markH, ih (k + 8), markH]
    simp only [List.cons_append]
    have e : k + 8 + n * 8 = k + (n + 1) * 8 := by omega
    rw [e]
/-- The first p replaced by marks. -/
def markedH (ms : List Hv) (k p : Nat) : List Hv := markH k p ++ ms.drop p
theorem markedH_zero (ms : List Hv) (k : Nat) : markedH ms k 0 = ms := by simp [markedH, markH]
theorem markedH_all (ms : List Hv) (k : Nat) : markedH ms k ms.length = markH k ms.length := by simp [markedH]
theorem markedH_length (ms : List Hv) (k p : Nat) (h : p ≤ ms.length) : (markedH ms k p).length = ms.length := by simp [markedH, markH_length]; omega
theorem markedH_succ (ms : List Hv) (k p : Nat) (h : p < ms.length) : markedH ms k (p + 1) = (markedH ms k p).set p (hvM (k + p * 8)) := by
  unfold markedH
  rw [markH_snoc, List.set_append_right _ _ (by rw [markH_length]; omega), markH_length, Nat.sub_self]
  conv => rhs; rw [List.drop_eq_getElem_cons h]
  rw [List.set_cons_zero, List.append_assoc]
  rfl
theorem hv_setC (W : World) (g o : Nat) (x y z u v p q r : Int) : W.setCells g o (hvK.cs ⟨⟨x, y, z⟩, u, v, p, q, r⟩) = ((((((((W.setCell ⟨g, o, none⟩ (.int .i64 x)).setCell ⟨g, o + 1, none⟩ (.int .i64 y)).setCell ⟨g, o + 2, none⟩ (.int .i64 z)).setCell ⟨g, o + 3, none⟩ (.int .i64 u)).setCell ⟨g, o + 4, none⟩ (.int .i64 v)).setCell ⟨g, o + 5, none⟩ (.int .i64 p)).setCell ⟨g, o + 6, none⟩ (.int .i64 q)).setCell ⟨g, o + 7, none⟩ (.int .i64 r)) := rfl
attribute [irreducible] markH markedH


set_option maxRecDepth 100000 in
set_option maxHeartbeats 2000000 in
theorem mark_halfS (v : Value) (ms : List Hv) (w : World) (B C k : Nat) (hv : OwnH w B C v ms) (hn : ms.length ≤ 2097152) (hk : k ≤ 1099511627776) :
    Calls Try.prog 32 #[v, .int .i64 (k : Int)] w fun e w' => e = .returned (.int .i64 ((k + ms.length * 8 : Nat) : Int)) ∧ OwnH w' B C v (markH k ms.length) ∧ Below B w w' ∧ w'.heap.size = w.heap.size ∧ ∀ i, v.ownBlock ≠ some i → w'.heap[i]? = w.heap[i]? := by
  obtain ⟨a, c, rfl, hform⟩ := hv.form
  go_enter Try.func32, Try.ntmps32
  go_wp2_with (fail)
  go_loopw [1, 5] (fun m i wr => ∃ j : Nat, j ≤ ms.length ∧ m = .int .i64 ((k + j * 8 : Nat) : Int) ∧ i = .int .i64 j ∧ OwnH wr B C (.slice a ms.length c) (markedH ms k j) ∧ Below B w wr ∧ wr.heap.size = w.heap.size ∧ ∀ i, (Value.slice a ms.length c).ownBlock ≠ some i → wr.heap[i]? = w.heap[i]?) (fun _ i _ => ms.length - (intOf i).toNat)
  case atStart => exact ⟨0, by omega, by simp, rfl, by rw [markedH_zero]; exact hv, Below.refl _ _, rfl, fun _ _ => rfl⟩
  case round =>
    clear hv
    obtain ⟨j, hj, rfl, rfl, hr, hB, hz, ho⟩ := hrel
    by_cases hlt : j < ms.length
    · obtain ⟨g, rfl, hg, -⟩ := hform (by omega)
      have hl : j < (markedH ms k j).length := by rw [markedH_length _ _ _ (by omega)]; exact hlt
      have hs := markedH_succ ms k j hlt
      have hat := hv_own hr j hl
      generalize (markedH ms k j)[j] = mm at hat
      generalize markedH ms k j = cur at *
      obtain ⟨c0, c1, c2, c3, c4, c5, c6, c7, hf, hgw, -⟩ := hat
      have f0 := hf (j * 8)
      have f1 := hf (j * 8 + 1)
      have f2 := hf (j * 8 + 2)
      have f3 := hf (j * 8 + 3)
      have f4 := hf (j * 8 + 4)
      have f5 := hf (j * 8 + 5)
      have f6 := hf (j * 8 + 6)
      have f7 := hf (j * 8 + 7)
      have hput := OwnE.put hr j hl (hvM (k + j * 8))
      have hB2 := hB.trans (esetC_below g B hg (j * 8) (hvK.cs (hvM (k + j * 8))) wr)
      have hz2 := (esetC_size g (j * 8) (hvK.cs (hvM (k + j * 8))) wr).trans hz
      have ho2 : ∀ i, (Value.slice (some ⟨g, 0, none⟩) ms.length c).ownBlock ≠ some i → (wr.setCells g (j * 8) (hvK.cs (hvM (k + j * 8)))).heap[i]? = w.heap[i]? := fun i hi => by
        rw [esetC_other g (j * 8) _ wr i (fun h => hi (by simp [Value.ownBlock, h]))]
        exact ho i hi
      have hput : OwnH (wr.setCells g (j * 8) (hvK.cs (hvM (k + j * 8)))) B C _ (cur.set j (hvM (k + j * 8))) := hput
      rw [← hs] at hput
      unfold hvM at hput hB2 hz2 ho2
      rw [hv_setC] at hput hB2 hz2 ho2
      clear hs
      have q : (0 : Int) ≤ (j : Int) ∧ (j : Int) < (ms.length : Int) := by omega
      have e1 : IntKind.i64.wrap (((k + j * 8 : Nat) : Int) + 1) = ((k + j * 8 + 1 : Nat) : Int) := by rw [IntWalk.i64_in _ (by omega)]; omega
      have e2 : IntKind.i64.wrap (((k + j * 8 + 1 : Nat) : Int) + 1) = ((k + j * 8 + 2 : Nat) : Int) := by rw [IntWalk.i64_in _ (by omega)]; omega
      have e3 : IntKind.i64.wrap (((k + j * 8 + 2 : Nat) : Int) + 1) = ((k + j * 8 + 3 : Nat) : Int) := by rw [IntWalk.i64_in _ (by omega)]; omega
      have e4 : IntKind.i64.wrap (((k + j * 8 + 3 : Nat) : Int) + 1) = ((k + j * 8 + 4 : Nat) : Int) := by rw [IntWalk.i64_in _ (by omega)]; omega
      have e5 : IntKind.i64.wrap (((k + j * 8 + 4 : Nat) : Int) + 1) = ((k + j * 8 + 5 : Nat) : Int) := by rw [IntWalk.i64_in _ (by omega)]; omega
      have e6 : IntKind.i64.wrap (((k + j * 8 + 5 : Nat) : Int) + 1) = ((k + j * 8 + 6 : Nat) : Int) := by rw [IntWalk.i64_in _ (by omega)]; omega
      have e7 : IntKind.i64.wrap (((k + j * 8 + 6 : Nat) : Int) + 1) = ((k + j * 8 + 7 : Nat) : Int) := by rw [IntWalk.i64_in _ (by omega)]; omega
      have e8 : IntKind.i64.wrap (((k + j * 8 + 7 : Nat) : Int) + 1) = ((k + j * 8 + 8 : Nat) : Int) := by rw [IntWalk.i64_in _ (by omega)]; omega
      have ef : ((k + j * 8 + 8 : Nat) : Int) = ((k + (j + 1) * 8 : Nat) : Int) := by omega
      rw [ef] at e8
      clear ef
      generalize ((k + j * 8 : Nat) : Int) = x0 at *
      generalize ((k + j * 8 + 1 : Nat) : Int) = x1 at *
      generalize ((k + j * 8 + 2 : Nat) : Int) = x2 at *
      generalize ((k + j * 8 + 3 : Nat) : Int) = x3 at *
      generalize ((k + j * 8 + 4 : Nat) : Int) = x4 at *
      generalize ((k + j * 8 + 5 : Nat) : Int) = x5 at *
      generalize ((k + j * 8 + 6 : Nat) : Int) = x6 at *
      generalize ((k + j * 8 + 7 : Nat) : Int) = x7 at *
      have HP := Lib.hid (And.intro hput (And.intro hB2 (And.intro hz2 ho2)))
      clear hput hB2 hz2 ho2 ho hB hr hf hz
      go_wp2_with (fail)
      go_roundw
      case rel =>
        obtain ⟨p1, p2, p3, p4⟩ := HP.out
        exact ⟨j + 1, by omega, rfl, by go_num, p1, p2, p3, p4⟩
      case measure => simp [intOf]; omega
    · obtain rfl : j = ms.length := by omega
      rw [markedH_all] at hr
      go_wp2_with (fail)
      go_ret
      exact ⟨rfl, hr, hB, hz, ho⟩

set_option maxRecDepth 100000 in
set_option maxHeartbeats 2000000 in
theorem held_halfS (v : Value) (k n : Nat) (w : World) (hv : RdH w v (markH k n)) (hn : n ≤ 2097152) (hk : k ≤ 1099511627776) :
    Calls Try.prog 33 #[v, .int .i64 (k : Int)] w fun e w' => e = .returned (.int .i64 ((k + n * 8 : Nat) : Int)) ∧ w = w' := by
  obtain ⟨a, c, rfl⟩ : ∃ a c, v = .slice a n c := by
    obtain ⟨a, c, h⟩ := hv.form
    rw [markH_length] at h
    exact ⟨a, c, h⟩
  go_enter Try.func33, Try.ntmps33
  go_wp2_with (fail)
  go_loop [1, 5] (fun m i => ∃ j : Nat, j ≤ n ∧ m = .int .i64 ((k + j * 8 : Nat) : Int) ∧ i = .int .i64 j) (fun _ i => n - (intOf i).toNat)
  case atStart => exact ⟨0, by omega, by simp, rfl⟩
  case round =>
    obtain ⟨j, hj, rfl, rfl⟩ := hrel
    by_cases hlt : j < n
    · obtain ⟨b, off, ha, -, c0, c1, c2, c3, c4, c5, c6, c7, -⟩ := hv_at (P := Try.prog) hv j (by rw [markH_length]; exact hlt)
      subst ha
      rw [markH_at k n j hlt] at c0 c1 c2 c3 c4 c5 c6 c7
      have q : (0 : Int) ≤ (j : Int) ∧ (j : Int) < (n : Int) := by omega
      have e1 : IntKind.i64.wrap (((k + j * 8 : Nat) : Int) + 1) = ((k + j * 8 + 1 : Nat) : Int) := by rw [IntWalk.i64_in _ (by omega)]; omega
      have e2 : IntKind.i64.wrap (((k + j * 8 + 1 : Nat) : Int) + 1) = ((k + j * 8 + 2 : Nat) : Int) := by rw [IntWalk.i64_in _ (by omega)]; omega
      have e3 : IntKind.i64.wrap (((k + j * 8 + 2 : Nat) : Int) + 1) = ((k + j * 8 + 3 : Nat) : Int) := by rw [IntWalk.i64_in _ (by omega)]; omega
      have e4 : IntKind.i64.wrap (((k + j * 8 + 3 : Nat) : Int) + 1) = ((k + j * 8 + 4 : Nat) : Int) := by rw [IntWalk.i64_in _ (by omega)]; omega
      have e5 : IntKind.i64.wrap (((k + j * 8 + 4 : Nat) : Int) + 1) = ((k + j * 8 + 5 : Nat) : Int) := by rw [IntWalk.i64_in _ (by omega)]; omega
      have e6 : IntKind.i64.wrap (((k + j * 8 + 5 : Nat) : Int) + 1) = ((k + j * 8 + 6 : Nat) : Int) := by rw [IntWalk.i64_in _ (by omega)]; omega
      have e7 : IntKind.i64.wrap (((k + j * 8 + 6 : Nat) : Int) + 1) = ((k + j * 8 + 7 : Nat) : Int) := by rw [IntWalk.i64_in _ (by omega)]; omega
      have e8 : IntKind.i64.wrap (((k + j * 8 + 7 : Nat) : Int) + 1) = ((k + j * 8 + 8 : Nat) : Int) := by rw [IntWalk.i64_in _ (by omega)]; omega
      have ef : ((k + j * 8 + 8 : Nat) : Int) = ((k + (j + 1) * 8 : Nat) : Int) := by omega
      rw [ef] at e8
      clear ef
      unfold hvM at c0 c1 c2 c3 c4 c5 c6 c7
      simp only at c0 c1 c2 c3 c4 c5 c6 c7
      generalize ((k + j * 8 : Nat) : Int) = x0 at *
      generalize ((k + j * 8 + 1 : Nat) : Int) = x1 at *
      generalize ((k + j * 8 + 2 : Nat) : Int) = x2 at *
      generalize ((k + j * 8 + 3 : Nat) : Int) = x3 at *
      generalize ((k + j * 8 + 4 : Nat) : Int) = x4 at *
      generalize ((k + j * 8 + 5 : Nat) : Int) = x5 at *
      generalize ((k + j * 8 + 6 : Nat) : Int) = x6 at *
      generalize ((k + j * 8 + 7 : Nat) : Int) = x7 at *
      clear hv
      go_wp2_with (fail)
      go_round
      case rel => exact ⟨j + 1, by omega, rfl, by go_num⟩
      case measure => simp [intOf]; omega
    · obtain rfl : j = n := by omega
      go_wp2_with (fail)
      go_ret
      exact ⟨rfl, rfl⟩
end Go.Proofs.Ytoeflkmhofkiaaa
