import Derived.Test.YtgfkmnadbcbfkaaTto
namespace Go.Proofs.Ytgfkmnadbcbfkaa
open Go.RowKit

/-- Marks from k on, 5 a struct. -/
def tvM (k : Nat) : Tv := ⟨(k : Int), ((k + 1 : Nat) : Int), ((k + 2 : Nat) : Int), ((k + 3 : Nat) : Int), ((k + 4 : Nat) : Int)⟩
def markT (k : Nat) : Nat → List Tv
  | 0 => []
  | n + 1 => tvM k :: markT (k + 5) n
theorem markT_length (k n : Nat) : (markT k n).length = n := by
  induction n generalizing k with
  | zero => rfl
  | succ n ih => simp [markT, ih]
theorem markT_at (k n i : Nat) (h : i < n) : (markT k n)[i]'(by rw [markT_length]; exact h) = tvM (k + i * 5) := by
  induction n generalizing k i with
  | zero => omega
  | succ n ih =>
    cases i with
    | zero => simp [markT]
    | succ i =>
      simp only [markT, List.getElem_cons_succ]
      rw [ih (k + 5) i (by omega)]
      congr 1
      omega
theorem markT_snoc (k n : Nat) : markT k (n + 1) = markT k n ++ [tvM (k + n * 5)] := by
  induction n generalizing k with
  | zero => simp [markT]
  | succ n ih =>
    rw [markT, ih (k + 5), markT]
    simp only [List.cons_append]
    have e : k + 5 + n * 5 = k + (n + 1) * 5 := by omega
    rw [e]
/-- The first p replaced by marks. -/
def markedT (ms : List Tv) (k p : Nat) : List Tv := markT k p ++ ms.drop p
theorem markedT_zero (ms : List Tv) (k : Nat) : markedT ms k 0 = ms := by simp [markedT, markT]
theorem markedT_all (ms : List Tv) (k : Nat) : markedT ms k ms.length = markT k ms.length := by simp [markedT]
theorem markedT_length (ms : List Tv) (k p : Nat) (h : p ≤ ms.length) : (markedT ms k p).length = ms.length := by simp [markedT, markT_length]; omega
theorem markedT_succ (ms : List Tv) (k p : Nat) (h : p < ms.length) : markedT ms k (p + 1) = (markedT ms k p).set p (tvM (k + p * 5)) := by
  unfold markedT
  rw [markT_snoc, List.set_append_right _ _ (by rw [markT_length]; omega), markT_length, Nat.sub_self]
  conv => rhs; rw [List.drop_eq_getElem_cons h]
  rw [List.set_cons_zero, List.append_assoc]
  rfl
theorem tv_setC (W : World) (g o : Nat) (x y z u v : Int) : W.setCells g o (tvK.cs ⟨x, y, z, u, v⟩) = (((((W.setCell ⟨g, o, none⟩ (.int .i64 x)).setCell ⟨g, o + 1, none⟩ (.int .i64 y)).setCell ⟨g, o + 2, none⟩ (.int .i64 z)).setCell ⟨g, o + 3, none⟩ (.int .i64 u)).setCell ⟨g, o + 4, none⟩ (.int .i64 v)) := rfl
attribute [irreducible] markT markedT


set_option maxRecDepth 100000 in
set_option maxHeartbeats 2000000 in
theorem mark_tagS (v : Value) (ms : List Tv) (w : World) (B C k : Nat) (hv : OwnT w B C v ms) (hn : ms.length ≤ 2097152) (hk : k ≤ 1099511627776) :
    Calls Try.prog 46 #[v, .int .i64 (k : Int)] w fun e w' => e = .returned (.int .i64 ((k + ms.length * 5 : Nat) : Int)) ∧ OwnT w' B C v (markT k ms.length) ∧ Below B w w' ∧ w'.heap.size = w.heap.size ∧ ∀ i, v.ownBlock ≠ some i → w'.heap[i]? = w.heap[i]? := by
  obtain ⟨a, c, rfl, hform⟩ := hv.form
  go_enter Try.func46, Try.ntmps46
  go_wp2_with (fail)
  go_loopw [1, 5] (fun m i wr => ∃ j : Nat, j ≤ ms.length ∧ m = .int .i64 ((k + j * 5 : Nat) : Int) ∧ i = .int .i64 j ∧ OwnT wr B C (.slice a ms.length c) (markedT ms k j) ∧ Below B w wr ∧ wr.heap.size = w.heap.size ∧ ∀ i, (Value.slice a ms.length c).ownBlock ≠ some i → wr.heap[i]? = w.heap[i]?) (fun _ i _ => ms.length - (intOf i).toNat)
  case atStart => exact ⟨0, by omega, by simp, rfl, by rw [markedT_zero]; exact hv, Below.refl _ _, rfl, fun _ _ => rfl⟩
  case round =>
    clear hv
    obtain ⟨j, hj, rfl, rfl, hr, hB, hz, ho⟩ := hrel
    by_cases hlt : j < ms.length
    · obtain ⟨g, rfl, hg, -⟩ := hform (by omega)
      have hl : j < (markedT ms k j).length := by rw [markedT_length _ _ _ (by omega)]; exact hlt
      have hs := markedT_succ ms k j hlt
      have hat := tv_own hr j hl
      generalize (markedT ms k j)[j] = mm at hat
      generalize markedT ms k j = cur at *
      obtain ⟨c0, c1, c2, c3, c4, hf, hgw, -⟩ := hat
      have f0 := hf (j * 5)
      have f1 := hf (j * 5 + 1)
      have f2 := hf (j * 5 + 2)
      have f3 := hf (j * 5 + 3)
      have f4 := hf (j * 5 + 4)
      have hput := OwnE.put hr j hl (tvM (k + j * 5))
      have hB2 := hB.trans (esetC_below g B hg (j * 5) (tvK.cs (tvM (k + j * 5))) wr)
      have hz2 := (esetC_size g (j * 5) (tvK.cs (tvM (k + j * 5))) wr).trans hz
      have ho2 : ∀ i, (Value.slice (some ⟨g, 0, none⟩) ms.length c).ownBlock ≠ some i → (wr.setCells g (j * 5) (tvK.cs (tvM (k + j * 5)))).heap[i]? = w.heap[i]? := fun i hi => by
        rw [esetC_other g (j * 5) _ wr i (fun h => hi (by simp [Value.ownBlock, h]))]
        exact ho i hi
      have hput : OwnT (wr.setCells g (j * 5) (tvK.cs (tvM (k + j * 5)))) B C _ (cur.set j (tvM (k + j * 5))) := hput
      rw [← hs] at hput
      unfold tvM at hput hB2 hz2 ho2
      rw [tv_setC] at hput hB2 hz2 ho2
      clear hs
      have q : (0 : Int) ≤ (j : Int) ∧ (j : Int) < (ms.length : Int) := by omega
      have e1 : IntKind.i64.wrap (((k + j * 5 : Nat) : Int) + 1) = ((k + j * 5 + 1 : Nat) : Int) := by rw [IntWalk.i64_in _ (by omega)]; omega
      have e2 : IntKind.i64.wrap (((k + j * 5 + 1 : Nat) : Int) + 1) = ((k + j * 5 + 2 : Nat) : Int) := by rw [IntWalk.i64_in _ (by omega)]; omega
      have e3 : IntKind.i64.wrap (((k + j * 5 + 2 : Nat) : Int) + 1) = ((k + j * 5 + 3 : Nat) : Int) := by rw [IntWalk.i64_in _ (by omega)]; omega
      have e4 : IntKind.i64.wrap (((k + j * 5 + 3 : Nat) : Int) + 1) = ((k + j * 5 + 4 : Nat) : Int) := by rw [IntWalk.i64_in _ (by omega)]; omega
      have e5 : IntKind.i64.wrap (((k + j * 5 + 4 : Nat) : Int) + 1) = ((k + j * 5 + 5 : Nat) : Int) := by rw [IntWalk.i64_in _ (by omega)]; omega
      have ef : ((k + j * 5 + 5 : Nat) : Int) = ((k + (j + 1) * 5 : Nat) : Int) := by omega
      rw [ef] at e5
      clear ef
      generalize ((k + j * 5 : Nat) : Int) = x0 at *
      generalize ((k + j * 5 + 1 : Nat) : Int) = x1 at *
      generalize ((k + j * 5 + 2 : Nat) : Int) = x2 at *
      generalize ((k + j * 5 + 3 : Nat) : Int) = x3 at *
      generalize ((k + j * 5 + 4 : Nat) : Int) = x4 at *
      have HP := Lib.hid (And.intro hput (And.intro hB2 (And.intro hz2 ho2)))
      clear hput hB2 hz2 ho2 ho hB hr hf hz
      go_wp2_with (fail)
      go_roundw
      case rel =>
        obtain ⟨p1, p2, p3, p4⟩ := HP.out
        exact ⟨j + 1, by omega, rfl, by go_num, p1, p2, p3, p4⟩
      case measure => simp [intOf]; omega
    · obtain rfl : j = ms.length := by omega
      rw [markedT_all] at hr
      go_wp2_with (fail)
      go_ret
      exact ⟨rfl, hr, hB, hz, ho⟩

set_option maxRecDepth 100000 in
set_option maxHeartbeats 2000000 in
theorem held_tagS (v : Value) (k n : Nat) (w : World) (hv : RdT w v (markT k n)) (hn : n ≤ 2097152) (hk : k ≤ 1099511627776) :
    Calls Try.prog 48 #[v, .int .i64 (k : Int)] w fun e w' => e = .returned (.int .i64 ((k + n * 5 : Nat) : Int)) ∧ w = w' := by
  obtain ⟨a, c, rfl⟩ : ∃ a c, v = .slice a n c := by
    obtain ⟨a, c, h⟩ := hv.form
    rw [markT_length] at h
    exact ⟨a, c, h⟩
  go_enter Try.func48, Try.ntmps48
  go_wp2_with (fail)
  go_loop [1, 5] (fun m i => ∃ j : Nat, j ≤ n ∧ m = .int .i64 ((k + j * 5 : Nat) : Int) ∧ i = .int .i64 j) (fun _ i => n - (intOf i).toNat)
  case atStart => exact ⟨0, by omega, by simp, rfl⟩
  case round =>
    obtain ⟨j, hj, rfl, rfl⟩ := hrel
    by_cases hlt : j < n
    · obtain ⟨b, off, ha, -, c0, c1, c2, c3, c4, -⟩ := tv_at (P := Try.prog) hv j (by rw [markT_length]; exact hlt)
      subst ha
      rw [markT_at k n j hlt] at c0 c1 c2 c3 c4
      have q : (0 : Int) ≤ (j : Int) ∧ (j : Int) < (n : Int) := by omega
      have e1 : IntKind.i64.wrap (((k + j * 5 : Nat) : Int) + 1) = ((k + j * 5 + 1 : Nat) : Int) := by rw [IntWalk.i64_in _ (by omega)]; omega
      have e2 : IntKind.i64.wrap (((k + j * 5 + 1 : Nat) : Int) + 1) = ((k + j * 5 + 2 : Nat) : Int) := by rw [IntWalk.i64_in _ (by omega)]; omega
      have e3 : IntKind.i64.wrap (((k + j * 5 + 2 : Nat) : Int) + 1) = ((k + j * 5 + 3 : Nat) : Int) := by rw [IntWalk.i64_in _ (by omega)]; omega
      have e4 : IntKind.i64.wrap (((k + j * 5 + 3 : Nat) : Int) + 1) = ((k + j * 5 + 4 : Nat) : Int) := by rw [IntWalk.i64_in _ (by omega)]; omega
      have e5 : IntKind.i64.wrap (((k + j * 5 + 4 : Nat) : Int) + 1) = ((k + j * 5 + 5 : Nat) : Int) := by rw [IntWalk.i64_in _ (by omega)]; omega
      have ef : ((k + j * 5 + 5 : Nat) : Int) = ((k + (j + 1) * 5 : Nat) : Int) := by omega
      rw [ef] at e5
      clear ef
      unfold tvM at c0 c1 c2 c3 c4
      simp only at c0 c1 c2 c3 c4
      generalize ((k + j * 5 : Nat) : Int) = x0 at *
      generalize ((k + j * 5 + 1 : Nat) : Int) = x1 at *
      generalize ((k + j * 5 + 2 : Nat) : Int) = x2 at *
      generalize ((k + j * 5 + 3 : Nat) : Int) = x3 at *
      generalize ((k + j * 5 + 4 : Nat) : Int) = x4 at *
      clear hv
      go_wp2_with (fail)
      go_round
      case rel => exact ⟨j + 1, by omega, rfl, by go_num⟩
      case measure => simp [intOf]; omega
    · obtain rfl : j = n := by omega
      go_wp2_with (fail)
      go_ret
      exact ⟨rfl, rfl⟩
end Go.Proofs.Ytgfkmnadbcbfkaa
