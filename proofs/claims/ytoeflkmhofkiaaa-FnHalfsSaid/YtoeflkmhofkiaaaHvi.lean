import Derived.Test.YtoeflkmhofkiaaaHto
import Derived.RangeFuncNested
import Derived.RangeFuncBound
import Derived.RangeFuncCalls
import Derived.RangeFuncLeaves
import Derived.RangeFuncBox
import Derived.Shelf.Abstract
import Derived.Shelf.RegionOpen
import Derived.WalkKit
import Derived.OwnWalkIn
import Derived.TacticsInMore
import Derived.LoopNIn
import Derived.LoopIn
namespace Go.Proofs.Ytoeflkmhofkiaaa
open Go.RowKit Go.Shelf
set_option maxRecDepth 100000

/-! What comes of the first k elements: those for which p holds, each with its place. -/
def visH (p : Hv → Bool) (hs : List Hv) : Nat → List (Nat × Hv)
  | 0 => []
  | k + 1 => if p (hs.getD k Hv.zero) = true then visH p hs k ++ [(k, hs.getD k Hv.zero)] else visH p hs k
theorem getD_in {hs : List Hv} {k : Nat} (h : k < hs.length) : hs.getD k Hv.zero = hs[k] := by simp [List.getD, List.getElem?_eq_getElem h]
theorem vis_hit {p : Hv → Bool} {hs : List Hv} {k : Nat} {m : Hv} (h : k < hs.length) (hm : hs[k] = m) (hp : p m = true) : visH p hs (k + 1) = visH p hs k ++ [(k, m)] := by
  subst hm
  simp only [visH, getD_in h]
  rw [if_pos hp]
theorem vis_miss {p : Hv → Bool} {hs : List Hv} {k : Nat} {m : Hv} (h : k < hs.length) (hm : hs[k] = m) (hp : p m = false) : visH p hs (k + 1) = visH p hs k := by
  subst hm
  simp only [visH, getD_in h]
  rw [if_neg (by rw [hp]; decide)]
theorem vis_len (p : Hv → Bool) (hs : List Hv) (k : Nat) : (visH p hs k).length ≤ k := by
  induction k with
  | zero => simp [visH]
  | succ k ih =>
    simp only [visH]
    split
    · simp; omega
    · omega
theorem vis_filter (p : Hv → Bool) (hs : List Hv) (k : Nat) (h : k ≤ hs.length) : (visH p hs k).map (·.2) = (hs.take k).filter p := by
  induction k with
  | zero => simp [visH]
  | succ k ih =>
    have hk : k < hs.length := by omega
    rw [List.take_succ_eq_append_getElem hk, List.filter_append, ← ih (by omega)]
    cases hp : p hs[k] with
    | true => rw [vis_hit hk rfl hp]; simp [hp]
    | false => rw [vis_miss hk rfl hp]; simp [hp]
theorem vis_nil {p : Hv → Bool} {hs : List Hv} {k : Nat} (hk : k ≤ hs.length) (h : visH p hs k = []) : ∀ j (_ : j < k) (hj : j < hs.length), p hs[j] = false := by
  induction k with
  | zero => intro j hj; omega
  | succ k ih =>
    have hk' : k < hs.length := by omega
    intro j hj hjl
    cases hp : p hs[k] with
    | true => rw [vis_hit hk' rfl hp] at h; simp at h
    | false =>
      rw [vis_miss hk' rfl hp] at h
      by_cases e : j = k
      · subst e; exact hp
      · exact ih (by omega) h j (by omega) hjl
theorem vis_one {p : Hv → Bool} {hs : List Hv} {k : Nat} {x : Nat × Hv} (hk : k ≤ hs.length) (h : visH p hs k = [x]) : ∃ hx : x.1 < hs.length, x.2 = hs[x.1] ∧ p x.2 = true ∧ ∀ j (_ : j < x.1) (hj : j < hs.length), p hs[j] = false := by
  induction k with
  | zero => simp [visH] at h
  | succ k ih =>
    have hk' : k < hs.length := by omega
    cases hp : p hs[k] with
    | true =>
      rw [vis_hit hk' rfl hp] at h
      have h1 : visH p hs k = [] := by
        have := congrArg List.length h
        simp at this
        exact this
      rw [h1] at h
      simp at h
      subst h
      exact ⟨hk', rfl, hp, vis_nil (by omega) h1⟩
    | false =>
      rw [vis_miss hk' rfl hp] at h
      exact ih (by omega) h

/-- What a round that goes on keeps: all that lay below n₁, but block ob. -/
def KpX (n₁ ob : Nat) (A B : World) : Prop := A.heap.size ≤ B.heap.size ∧ ∀ k, k < n₁ → k ≠ ob → B.heap[k]? = A.heap[k]?
theorem KpX.refl (n₁ ob : Nat) (A : World) : KpX n₁ ob A A := ⟨Nat.le_refl _, fun _ _ _ => rfl⟩
theorem KpX.trans {n₁ ob : Nat} {A B C : World} (h : KpX n₁ ob A B) (k : KpX n₁ ob B C) : KpX n₁ ob A C := ⟨Nat.le_trans h.1 k.1, fun i h1 h2 => (k.2 i h1 h2).trans (h.2 i h1 h2)⟩
theorem KpX.below {n₁ ob D : Nat} {A B : World} (h : Below D A B) (hD : n₁ ≤ D) : KpX n₁ ob A B := ⟨h.size, fun i h1 _ => h.block i (by omega)⟩
theorem KpX.putObj {n₁ ob : Nat} (W : World) (l : Nat) (o : Obj) (h : n₁ ≤ l) : KpX n₁ ob W (W.putObj l o) := ⟨by simp, fun i h1 _ => World.putObj_heap_other (by omega)⟩
theorem KpX.set {n₁ ob : Nat} (W : World) (i : Nat) (v : Value) : KpX n₁ ob W (W.setCell ⟨ob, i, none⟩ v) := ⟨by simp, fun k _ h2 => Below.heap_setCell _ _ _ _ h2⟩
theorem KpX.cell {n₁ ob B j : Nat} {A C : World} (h : KpX n₁ ob A C) (hB : B < n₁) (hne : B ≠ ob) : C.cell? ⟨B, j, none⟩ = A.cell? ⟨B, j, none⟩ := World.cell?_of_block (h.2 B hB hne)
theorem KpX.cel {n₁ ob B : Nat} {A C : World} {t : TypeId} {cs : Array Value} (hc : Cel A B t cs) (h : KpX n₁ ob A C) (hB : B < n₁) (hne : B ≠ ob) : Cel C B t cs := (h.2 B hB hne).trans hc
/-- A list that lies below n₁ in no block ob. -/
def LowH (n₁ ob : Nat) (W : World) (v : Value) (hs : List Hv) : Prop := ∃ a c, v = .slice a hs.length c ∧ (0 < hs.length → ∃ b off, a = some ⟨b, off, none⟩ ∧ b < n₁ ∧ b ≠ ob ∧ W.rangeAt b off (hvK.flat hs))
theorem LowH.rd {n₁ ob : Nat} {W : World} {v : Value} {hs : List Hv} (h : LowH n₁ ob W v hs) : RdH W v hs := by
  obtain ⟨a, c, rfl, h⟩ := h
  exact ⟨a, c, rfl, fun h0 => by obtain ⟨b, off, h1, -, -, h2⟩ := h h0; exact ⟨b, off, h1, h2⟩⟩
theorem LowH.kept {n₁ ob : Nat} {W W' : World} {v : Value} {hs : List Hv} (h : LowH n₁ ob W v hs) (k : KpX n₁ ob W W') : LowH n₁ ob W' v hs := by
  obtain ⟨a, c, rfl, h⟩ := h
  exact ⟨a, c, rfl, fun h0 => by obtain ⟨b, off, h1, h2, h3, h4⟩ := h h0; exact ⟨b, off, h1, h2, h3, erange_block h4 (k.2 b h2 h3)⟩⟩
theorem low_of {w W : World} {v : Value} {hs : List Hv} (h : RdH w v hs) (hb : Below w.heap.size w W) {n₁ ob : Nat} (h1 : w.heap.size ≤ n₁) (h2 : w.heap.size ≤ ob) : LowH n₁ ob W v hs := by
  obtain ⟨a, c, rfl, h⟩ := h
  exact ⟨a, c, rfl, fun h0 => by obtain ⟨b, off, e1, e2⟩ := h h0; have := erange_lt e2 h0; exact ⟨b, off, e1, by omega, by omega, erange_below e2 hb this⟩⟩

attribute [local go_sem] Oper.semAt_some

set_option maxRecDepth 100000 in
set_option maxHeartbeats 4000000 in
theorem where1_in (n : Nat) (hn : 1 ≤ n) (l B0 B1 n₁ ob : Nat) (v : Value) (hs : List Hv) (hlen : hs.length ≤ 1048577) (ga : Nat) (lb : Array Value) (p : Hv → Bool) (W : World) (J Jx : List (Nat × Hv) → World → Prop)
    (eg : ∀ args w, (callFunc ga args).run Try.prog w = .ok (.enter ga args) w)
    (hnW : n₁ ≤ W.heap.size) (hL : LowH n₁ ob W v hs) (hJ : ∀ s A B, J s A → Below A.heap.size A B → J s B)
    (hA : ∀ x W', KpX n₁ ob W W' → CallsIn Fence.wide (n - 1) Try.prog ga (#[.agg #[.int .i64 x.road.own, .int .i64 x.road.far, .int .i64 x.road.port, .int .i64 x.theirs, .int .i64 x.mine, .int .i64 x.give, .int .i64 x.take, .int .i64 x.till]] ++ lb) W' fun e W2 => e = .returned (.bool (p x)) ∧ Below W'.heap.size W' W2)
    (hY : ∀ pre (x : Nat × Hv) W1, J pre W1 → pre.length < hs.length → YieldAt Fence.wide (n - 1) Try.prog l #[.int .i64 (x.1 : Int), .agg #[.int .i64 x.2.road.own, .int .i64 x.2.road.far, .int .i64 x.2.road.port, .int .i64 x.2.theirs, .int .i64 x.2.mine, .int .i64 x.2.give, .int .i64 x.2.take, .int .i64 x.2.till]] W1 fun e W' =>
      (e = .returned (.bool true) ∧ J (pre ++ [x]) W' ∧ KpX n₁ ob W1 W') ∨ (e = .returned (.bool false) ∧ Jx (pre ++ [x]) W'))
    (hB0 : W.cell? ⟨B0, 0, none⟩ = some v) (hB1 : W.cell? ⟨B1, 0, none⟩ = some (.func (.func ga) #[] lb)) (hB1n : B1 < n₁) (hB1o : B1 ≠ ob) (h0 : J [] W) :
    CallsIn Fence.wide n Try.prog 66 #[.func (.yield l) #[] #[], .pointer (some ⟨B0, 0, none⟩), .pointer (some ⟨B1, 0, none⟩)] W fun e W' => (∃ u, e = .returned u) ∧
      ((∃ ys, ys = visH p hs hs.length ∧ J ys W') ∨ (∃ pre, (∃ k, k ≤ hs.length ∧ pre = visH p hs k) ∧ Jx pre W')) := by
  refine callsIn_of_wp Try.func66 rfl trivial ?_ rfl
  simp only [Try.ntmps66, List.size_toArray, List.length_cons, List.length_nil, Nat.reduceAdd, Nat.reduceSub, Array.replicate_succ, Array.replicate_zero, List.push_toArray, List.append_toArray, List.nil_append, List.cons_append]
  have HL := Lib.hid hL
  obtain ⟨a, c, rfl, -⟩ := hL
  gi_wp2
  gi_loopw [8] (fun i wr => ∃ k : Nat, k ≤ hs.length ∧ i = .int .i64 k ∧ J (visH p hs k) wr ∧ KpX n₁ ob W wr) (fun i _ => hs.length - (intOf i).toNat)
  case atStart => exact ⟨0, Nat.zero_le _, rfl, h0, KpX.refl _ _ _⟩
  case round =>
    obtain ⟨k, hk, rfl, hJs, hK⟩ := hrel
    by_cases hlt : k < hs.length
    · have q : (0 : Int) ≤ (k : Int) ∧ (k : Int) < (hs.length : Int) := by omega
      obtain ⟨b, off, ha, -, k0, k1, k2, k3, k4, k5, k6, k7, -⟩ := hv_at (P := Try.prog) (HL.out.kept hK).rd k hlt
      subst ha
      have hvl := vis_len p hs k
      obtain ⟨m, hm⟩ : ∃ m, hs[k] = m := ⟨_, rfl⟩
      rw [hm] at k0 k1 k2 k3 k4 k5 k6 k7
      have hbx := below_hv wr m
      have hC0 := Cel.new wr 28 #[.int .i64 m.road.own, .int .i64 m.road.far, .int .i64 m.road.port, .int .i64 m.theirs, .int .i64 m.mine, .int .i64 m.give, .int .i64 m.take, .int .i64 m.till]
      have hJ2 := hJ _ _ _ hJs hbx
      have hK2 := hK.trans (KpX.below (ob := ob) hbx (Nat.le_trans hnW hK.1))
      have cA := hA m (wr.alloc (.cells #[.int .i64 m.road.own, .int .i64 m.road.far, .int .i64 m.road.port, .int .i64 m.theirs, .int .i64 m.mine, .int .i64 m.give, .int .i64 m.take, .int .i64 m.till] 28)) hK2
      have f1 := (hK2.cell (j := 0) hB1n hB1o).trans hB1
      have HX := Lib.hid (And.intro hm (And.intro hJ2 (And.intro hK2 hC0)))
      clear hJs hbx hC0 hJ2 hK2 hB0 hB1 h0
      gi_wp2
      refine ⟨trivial, cA.mono ?_⟩
      rintro e W3 ⟨rfl, hb3⟩
      have hC3 := HX.out.2.2.2.kept hb3
      have hJ3 := hJ _ _ _ HX.out.2.1 hb3
      have hK3 := HX.out.2.2.1.trans (KpX.below (ob := ob) hb3 (Nat.le_trans hnW HX.out.2.2.1.1))
      obtain ⟨d0, d1, d2, d3, d4, d5, d6, d7⟩ := cel8hv hC3
      have hm := HX.out.1
      clear k0 k1 k2 k3 k4 k5 k6 k7 f1 cA hb3 HX
      cases hp : p m with
      | false =>
        have hv := vis_miss hlt hm hp
        have HV := Lib.hid (And.intro hv (And.intro hJ3 hK3))
        clear hv hJ3 hK3 hm hp
        gi_wp2
        refine ⟨fun _ h => (by cases h), ?_⟩
        gi_wp2
        go_roundw
        case rel => exact ⟨k + 1, by omega, by simp, by rw [HV.out.1]; exact HV.out.2.1, HV.out.2.2⟩
        case measure => simp [intOf]; omega
      | true =>
        have hv := vis_hit hlt hm hp
        obtain ⟨fn, tmps, assign, body, hy, hR⟩ := hY _ (k, m) W3 hJ3 (by omega)
        dsimp only at hy
        have HV := Lib.hid (And.intro hv hK3)
        clear hv hJ3 hK3 hm hp
        gi_wp2
        refine hR.mono ?_
        rintro e W4 (⟨rfl, hJ4, hk4⟩ | ⟨rfl, hJx4⟩)
        · gi_wp2
          go_roundw
          case rel => exact ⟨k + 1, by omega, by simp, by rw [HV.out.1]; exact hJ4, HV.out.2.trans hk4⟩
          case measure => simp [intOf]; omega
        · gi_wp2
          refine bodyPost_ret (results_none rfl _ _ _) rfl ?_
          exact ⟨⟨_, rfl⟩, .inr ⟨_, ⟨k + 1, by omega, HV.out.1.symm⟩, hJx4⟩⟩
    · obtain rfl : k = hs.length := by omega
      have q : ¬ (hs.length : Int) < (hs.length : Int) := by omega
      gi_wp2
      go_end0
      first | exact ⟨⟨_, rfl⟩, .inl ⟨_, rfl, hJs⟩⟩ | exact ⟨⟨_, rfl⟩, .inl hJs⟩

set_option maxRecDepth 100000 in
set_option maxHeartbeats 1000000 in
theorem where_in (n : Nat) (a : Option Addr) (len c : Nat) (fv : Fn) (cs lb : Array Value) (w : World) :
    CallsIn Fence.wide n Try.prog 45 #[.slice a len c, .func fv cs lb] w fun e w' => e = .returned (.func (.func 66) #[] #[.pointer (some ⟨w.heap.size, 0, none⟩), .pointer (some ⟨w.heap.size + 1, 0, none⟩)]) ∧ w' = (w.alloc (.cells #[.slice a len c] 24)).alloc (.cells #[.func fv cs lb] 76) := by
  refine callsIn_of_wp Try.func45 rfl trivial ?_ rfl
  simp only [Try.ntmps45, List.size_toArray, List.length_cons, List.length_nil, Nat.reduceAdd, Nat.reduceSub, Array.replicate_succ, Array.replicate_zero, List.push_toArray, List.append_toArray, List.nil_append, List.cons_append]
  gi_wp2
  go_ret
  exact ⟨rfl, rfl⟩

/-- The value that halfsWhere hands back, as an iterator. -/
theorem where_stops (n : Nat) (hn : 1 ≤ n) (B0 B1 n₁ ob : Nat) (v : Value) (hs : List Hv) (hlen : hs.length ≤ 1048577) (ga : Nat) (lb : Array Value) (p : Hv → Bool) (w : World)
    (eg : ∀ args w, (callFunc ga args).run Try.prog w = .ok (.enter ga args) w)
    (hnW : n₁ ≤ w.heap.size) (hL : LowH n₁ ob w v hs)
    (hA : ∀ x W', KpX n₁ ob w W' → CallsIn Fence.wide (n - 1) Try.prog ga (#[.agg #[.int .i64 x.road.own, .int .i64 x.road.far, .int .i64 x.road.port, .int .i64 x.theirs, .int .i64 x.mine, .int .i64 x.give, .int .i64 x.take, .int .i64 x.till]] ++ lb) W' fun e W2 => e = .returned (.bool (p x)) ∧ Below W'.heap.size W' W2)
    (hB0 : w.cell? ⟨B0, 0, none⟩ = some v) (hB0n : B0 < w.heap.size) (hB1 : w.cell? ⟨B1, 0, none⟩ = some (.func (.func ga) #[] lb)) (hB1n : B1 < n₁) (hB1o : B1 ≠ ob) :
    SeqStopsK Fence.wide n Try.prog 66 #[.pointer (some ⟨B0, 0, none⟩), .pointer (some ⟨B1, 0, none⟩)] (fun x : Nat × Hv => #[Value.int .i64 (x.1 : Int), Value.agg #[.int .i64 x.2.road.own, .int .i64 x.2.road.far, .int .i64 x.2.road.port, .int .i64 x.2.theirs, .int .i64 x.2.mine, .int .i64 x.2.give, .int .i64 x.2.take, .int .i64 x.2.till]]) (KpX n₁ ob) (fun ys => ys = visH p hs hs.length)
      (fun pre => ∃ k, k ≤ hs.length ∧ pre = visH p hs k) hs.length w := fun l J Jx W hW hJ _ hY h0 =>
  have hk := KpX.below (ob := ob) hW hnW
  where1_in n hn l B0 B1 n₁ ob v hs hlen ga lb p W J Jx eg (Nat.le_trans hnW hW.size) (hL.kept hk)
    (fun s A B hs hb => hJ s A B none hs ⟨hb.os, hb.tape, hb.output, hb.size, fun k h1 _ => hb.block k h1⟩ (fun r e => by cases e))
    (fun x W' h => hA x W' (hk.trans h)) hY ((hW.cell (p := ⟨B0, 0, none⟩) hB0n).trans hB0) ((hk.cell (j := 0) hB1n hB1o).trans hB1) hB1n hB1o h0
end Go.Proofs.Ytoeflkmhofkiaaa
