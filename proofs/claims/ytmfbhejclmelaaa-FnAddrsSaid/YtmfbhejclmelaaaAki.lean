import Derived.Test.YtmfbhejclmelaaaAif
import Derived.BigQuiet
import Derived.Deep.QuietTactic
namespace Go.Proofs.Ytmfbhejclmelaaa
open Go.RowKit

def placeK (id : Int) : List Kk → Nat
  | [] => 0
  | k :: r => if k.1 < id then placeK id r + 1 else 0
theorem placeK_le (id : Int) (l : List Kk) : placeK id l ≤ l.length := by
  induction l with
  | nil => simp [placeK]
  | cons x r ih => unfold placeK; split <;> simp <;> omega
theorem placeK_eq (id : Int) : ∀ (ks : List Kk) (xs : List Av), ks.map (·.1) = xs.map (·.id) → placeK id ks = placeA id xs
  | [], [], _ => rfl
  | [], _ :: _, h => by simp at h
  | _ :: _, [], h => by simp at h
  | k :: ks, x :: xs, h => by
    simp only [List.map_cons, List.cons.injEq] at h
    unfold placeK placeA
    rw [h.1, placeK_eq id ks xs h.2]
theorem placeK_keys (id : Int) (xs : List Av) : placeK id (keysA xs) = placeA id xs := by
  refine placeK_eq id _ _ (List.ext_getElem (by rw [List.length_map, List.length_map, keysA_len]) (fun i h1 h2 => ?_))
  rw [List.getElem_map, List.getElem_map, keysA_get, keyAt_fst xs i (by rw [List.length_map] at h2; exact h2)]

theorem dN_below (W : World) (n : Nat) : Below W.heap.size W (W.drewN n) := ⟨rfl, rfl, rfl, Nat.le_refl _, fun _ _ => rfl⟩

set_option maxRecDepth 100000 in
set_option maxHeartbeats 2000000 in
theorem index_key (v : Value) (ks : List Kk) (x : Kk) (w : World) (hv : RdE kvK w v ks) (hn : ks.length ≤ 1048577) :
    Calls Try.prog 54 #[v, .agg #[.int .i64 x.1, .int .i64 (x.2 : Int)]] w fun e w' => ∃ r : Int, e = .returned (.int .i64 r) ∧ (0 ≤ r ↔ x ∈ ks) ∧ Below w.heap.size w w' := by
  have hbx := below_kv w x
  have hC0 := Cel.new w 71 #[.int .i64 x.1, .int .i64 (x.2 : Int)]
  have hv0 := hv.below hbx
  obtain ⟨a, c, rfl⟩ := hv.form
  clear hv
  go_enter Try.func54, Try.ntmps54
  go_wp2_with (fail)
  go_loopw [8] (fun i wr => ∃ k : Nat, k ≤ ks.length ∧ i = .int .i64 k ∧ (∀ j (_ : j < k) (h : j < ks.length), ks[j] ≠ x) ∧ RdE kvK wr (.slice a ks.length c) ks ∧ Cel wr w.heap.size 71 #[.int .i64 x.1, .int .i64 (x.2 : Int)] ∧ Below w.heap.size w wr) (fun i _ => ks.length - (intOf i).toNat)
  case atStart => exact ⟨0, by omega, rfl, fun j hj => by omega, hv0, hC0, hbx⟩
  case round =>
    clear hv0 hC0 hbx
    obtain ⟨k, hk, rfl, hne, hR, hC, hB⟩ := hrel
    by_cases hlt : k < ks.length
    · have q : (0 : Int) ≤ (k : Int) ∧ (k : Int) < (ks.length : Int) := by omega
      obtain ⟨b, off, ha, -, k0, k1, -⟩ := kv_at (P := Try.prog) hR k hlt
      subst ha
      obtain ⟨c0, c1⟩ := cel2a hC
      obtain ⟨y, hy⟩ : ∃ y, ks[k] = y := ⟨_, rfl⟩
      rw [hy] at k0 k1
      have HX := Lib.hid (And.intro hy (And.intro hne (And.intro hR (And.intro hC hB))))
      clear hy hne hR hC hB
      by_cases hxy : x = y
      · have he := fun W => eql_kv x y W true (by simp [hxy])
        have hm : x ∈ ks := by rw [hxy, ← HX.out.1]; exact List.getElem_mem _
        have HM := Lib.hid hm
        clear hxy hm
        go_wp2_with (fail)
        go_quiet (fail)
        go_wp2_with (fail)
        go_ret
        exact ⟨_, rfl, by first | exact ⟨fun _ => HM.out, fun _ => by omega⟩ | (rw [decide_eq_true HM.out, decide_eq_true (by omega)]), Below.then_ HX.out.2.2.2.2 (dN_below _ _)⟩
      · have he := fun W => eql_kv x y W false (by simp [hxy])
        have HM := Lib.hid hxy
        clear hxy
        go_wp2_with (fail)
        go_quiet (fail)
        go_wp2_with (fail)
        go_roundw
        case rel =>
          refine ⟨k + 1, by omega, by go_num, fun j hj hl => ?_, HX.out.2.2.1.drewN, HX.out.2.2.2.1.drewN _, Below.then_ HX.out.2.2.2.2 (dN_below _ _)⟩
          by_cases hjk : j = k
          · subst hjk
            rw [HX.out.1]
            exact fun e => HM.out e.symm
          · exact HX.out.2.1 j (by omega) hl
        case measure => simp [intOf]; omega
    · obtain rfl : k = ks.length := by omega
      have q : ¬ (ks.length : Int) < (ks.length : Int) := by omega
      have hm : x ∉ ks := fun hm => by
        obtain ⟨i, hi, he⟩ := List.mem_iff_getElem.1 hm
        exact hne i hi hi he
      have HM := Lib.hid (And.intro hm hB)
      clear hR hC hne hm hB
      go_wp2_with (fail)
      go_ret
      exact ⟨_, rfl, ⟨fun h => absurd h (by decide), fun h => absurd h HM.out.1⟩, HM.out.2⟩

set_option maxRecDepth 100000 in
theorem contains_key (v : Value) (ks : List Kk) (x : Kk) (w : World) (hv : RdE kvK w v ks) (hn : ks.length ≤ 1048577) :
    Calls Try.prog 48 #[v, .agg #[.int .i64 x.1, .int .i64 (x.2 : Int)]] w fun e w' => e = .returned (.bool (decide (x ∈ ks))) ∧ Below w.heap.size w w' := by
  have hbx := below_kv w x
  have hC0 := Cel.new w 71 #[.int .i64 x.1, .int .i64 (x.2 : Int)]
  have c1 := fun W (h : Below (w.alloc (.cells #[.int .i64 x.1, .int .i64 (x.2 : Int)] 71)).heap.size (w.alloc (.cells #[.int .i64 x.1, .int .i64 (x.2 : Int)] 71)) W) => index_key v ks x W ((hv.below hbx).below h) hn
  obtain ⟨c0, c1'⟩ := cel2a hC0
  obtain ⟨a, c, rfl⟩ := hv.form
  generalize hd : decide (x ∈ ks) = d
  have HD := Lib.hid (And.intro hd hbx)
  clear hv hbx hC0 hd
  go_enter Try.func48, Try.ntmps48
  go_wp2_with (fail)
  with_reducible refine (c1 _ (Below.refl _ _)).mono ?_
  rintro e w2 ⟨r, rfl, hr, hb⟩
  have HB := Lib.hid (Below.then_ HD.out.2 hb)
  have hr2 : decide (0 ≤ r) = d := by rw [← HD.out.1]; exact decide_eq_decide.2 hr
  clear c1 hb hr c0 c1'
  go_wp2_with (fail)
  go_ret
  exact ⟨by first | rfl | rw [hr2] | simp [hr2], HB.out⟩

set_option maxRecDepth 100000 in
set_option maxHeartbeats 2000000 in
theorem impl_placeOf (bb : Nat) (u : Value) (ks : List Kk) (id : Int) (w : World) (hc : w.cell? ⟨bb, 0, none⟩ = some u) (hv : RdE kvK w u ks) (hn : ks.length ≤ 1048577) :
    Calls Try.prog 50 #[.pointer (some ⟨bb, 0, none⟩), .int .i64 id] w fun e w' => e = .returned (.int .i64 (placeK id ks : Int)) ∧ Below w.heap.size w w' := by
  obtain ⟨a, c, rfl⟩ := hv.form
  generalize hg : placeK id ks = g
  have HG := Lib.hid hg
  have hc0 := hc
  clear hg
  go_enter Try.func50, Try.ntmps50
  go_wp2_with (fail)
  go_loopw [12] (fun i wr => ∃ k : Nat, k ≤ ks.length ∧ i = .int .i64 k ∧ placeK id (ks.drop k) + k = g ∧ wr.cell? ⟨bb, 0, none⟩ = some (.slice a ks.length c) ∧ RdE kvK wr (.slice a ks.length c) ks ∧ Below w.heap.size w wr) (fun i _ => ks.length - (intOf i).toNat)
  case atStart => exact ⟨0, by omega, rfl, by rw [List.drop_zero]; exact HG.out, hc0, hv, Below.refl _ _⟩
  case round =>
    clear hv hc hc0 HG
    obtain ⟨k, hk, rfl, hr, hC, hR, hB⟩ := hrel
    by_cases hlt : k < ks.length
    · have q : (0 : Int) ≤ (k : Int) ∧ (k : Int) < (ks.length : Int) := by omega
      obtain ⟨b, off, ha, -, k0, k1, -⟩ := kv_at (P := Try.prog) hR k hlt
      subst ha
      rw [List.drop_eq_getElem_cons hlt] at hr
      generalize ks[k] = y at *
      unfold placeK at hr
      have hbx := below_kv wr y
      have HX := Lib.hid (And.intro (keepc' hC hbx) (And.intro (hR.below hbx) (Below.then_ hB hbx)))
      clear hC hR hB hbx
      by_cases hy : y.1 < id
      · rw [if_pos hy] at hr
        have HR := Lib.hid hr
        clear hr
        go_wp2_with (fail)
        go_roundw
        case rel => exact ⟨k + 1, by omega, by go_num, by have := HR.out; omega, HX.out.1, HX.out.2.1, HX.out.2.2⟩
        case measure => simp [intOf]; omega
      · rw [if_neg hy] at hr
        obtain rfl : k = g := by omega
        clear hr
        go_wp2_with (fail)
        go_ret
        exact ⟨rfl, HX.out.2.2⟩
    · obtain rfl : k = ks.length := by omega
      have q : ¬ (ks.length : Int) < (ks.length : Int) := by omega
      rw [List.drop_length] at hr
      obtain rfl : ks.length = g := by simpa [placeK] using hr
      have HX := Lib.hid hB
      clear hr hR hB
      go_wp2_with (fail)
      go_ret
      exact ⟨rfl, HX.out⟩
end Go.Proofs.Ytmfbhejclmelaaa
