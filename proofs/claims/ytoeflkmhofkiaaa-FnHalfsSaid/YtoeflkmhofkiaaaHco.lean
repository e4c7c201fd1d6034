import Derived.Test.YtoeflkmhofkiaaaHto
import Derived.Test.YtoeflkmhofkiaaaEk2
import Derived.Lib.AppendZerosOnto
namespace Go.Proofs.Ytoeflkmhofkiaaa
open Go.RowKit
set_option maxRecDepth 100000

theorem eroom {α : Type} (K : EK α) (W : World) (n G : Nat) (hn : n ≤ G) (hG : G ≤ maxLen) :
    OwnE K (W.alloc (.cells (([] : List Value).toArray ++ Builtin.zeroCells K.zv.cells n ++ Builtin.zeroCells K.zv.cells (G - n)) K.t)) W.heap.size (W.heap.size + 1) (.slice (some ⟨W.heap.size, 0, none⟩) 0 G) [] := by
  have e : ∀ n, (Builtin.zeroCells K.zv.cells n).size = n * K.n := fun n => by
    have : K.zv.cells.size = K.n := by rw [K.zcs, List.size_toArray, K.len]
    simp [Builtin.zeroCells, this]
  refine ⟨⟨by simp [EK.flat], .inr ⟨W.heap.size, G, _, rfl, Nat.le_refl _, Cel.new W K.t _, Nat.zero_le _, hG, ?_, by simp [EK.flat]⟩⟩, fun g hg => by simp [Value.ownBlock] at hg; omega⟩
  simp only [Array.size_append, e, List.size_toArray, List.length_nil, Nat.zero_add]
  rw [← Nat.add_mul]
  congr 1
  omega

set_option maxRecDepth 100000 in
set_option maxHeartbeats 2000000 in
theorem hv_grow (n : Nat) (w : World) (hn : n ≤ 2097154) :
    Calls Try.prog 67 #[.slice none 0 0, .int .i64 (n : Int)] w fun e w' => ∃ v, e = .returned v ∧ OwnH w' w.heap.size w'.heap.size v [] ∧ Below w.heap.size w w' := by
  by_cases h0 : n = 0
  · subst h0
    go_enter Try.func67, Try.ntmps67
    go_wp2_with (fail)
    go_ret
    exact ⟨_, rfl, OwnE.nil, Below.refl _ _⟩
  · have q1 : (0 : Int) < (n : Int) := by omega
    obtain ⟨i0, hi0, hz0, hzs, hzb⟩ := einfo hvK
    have hkb := hvK.bnd
    have hm : n * hvK.bytes ≤ 2097154 * 256 := Nat.mul_le_mul hn hkb
    have hold : (Builtin.firstCells i0.size 0 (.slice none 0 0)).run Try.prog w.drew = .ok ([] : List Value).toArray w.drew := by simp [Builtin.firstCells]
    have hrz := fun ty => Lib.run_append_grow_zeros (P := Try.prog) w 24 3 ty 28 i0 _ .i64 .i64 uHv Try.underlying3 hi0 hz0 none 0 0 [] hold n (by omega) (by rw [hzs]; exact hvK.pos) (by omega) (by omega) (by rw [hzb]; omega) (by rw [hzb, Nat.zero_add]; exact growslice_fits (by omega) (by omega))
    rw [Nat.zero_add] at hrz
    have hGn : n ≤ grownCap w n 0 28 := grownCap_ge w _ _ _
    have hGm := grownCap_le_maxLen w n 0 28 (by unfold maxLen; omega)
    generalize grownCap w n 0 28 = G at *
    have hO := eroom hvK w.drew n G hGn hGm
    have hbl := below_new w.drew (.cells (([] : List Value).toArray ++ Builtin.zeroCells hvK.zv.cells n ++ Builtin.zeroCells hvK.zv.cells (G - n)) 28)
    obtain ⟨W1, hW1⟩ : ∃ W1, W1 = w.drew.alloc (.cells (([] : List Value).toArray ++ Builtin.zeroCells hvK.zv.cells n ++ Builtin.zeroCells hvK.zv.cells (G - n)) 28) := ⟨_, rfl⟩
    have hO1 : OwnH W1 w.heap.size (w.heap.size + 1) (.slice (some ⟨w.heap.size, 0, none⟩) 0 G) [] := by rw [hW1]; exact hO
    rw [← hW1] at hbl hrz
    have hz1 : W1.heap.size = w.heap.size + 1 := by rw [hW1]; simp
    have hbl2 : Below w.heap.size w W1 := (Below.refl _ _).drew.trans hbl
    have HN := Lib.hid (And.intro (hO1.mono (Nat.le_refl _) (show w.heap.size + 1 ≤ W1.heap.size by omega)) hbl2)
    have hG0 : ¬ G = 0 := by omega
    have hGi : (0 : Int) ≤ (G : Int) := by omega
    unfold maxLen at hGm
    have hGm2 : G ≤ 9223372036854775807 := by omega
    clear hO hO1 hbl hbl2 hW1 hz1 hold hi0 hz0 hzs hzb hkb hm hGm
    go_enter Try.func67, Try.ntmps67
    go_wp2_with (at_builtin; refine Lib.wpList_append_run _ rfl _ _ _ _ rfl _ _ rfl rfl _ _ (hrz _) ?_)
    go_ret
    exact ⟨_, rfl, HN.out.1, HN.out.2⟩

set_option maxRecDepth 100000 in
set_option maxHeartbeats 4000000 in
theorem hv_concat (h : Nat) (v1 v2 : Value) (xs ys : List Hv) (w : World) (hc : Cel w h 24 #[v1, v2]) (r1 : RdH w v1 xs) (r2 : RdH w v2 ys) (hx : xs.length ≤ 1048577) (hy : ys.length ≤ 1048577) :
    Calls Try.prog 50 #[.slice (some ⟨h, 0, none⟩) 2 2] w fun e w' => ∃ u, e = .returned u ∧ OwnH w' w.heap.size w'.heap.size u (xs ++ ys) ∧ Below w.heap.size w w' := by
  have cG := fun W => hv_grow (xs.length + ys.length) W (by omega)
  have HC := Lib.hid (And.intro hc (And.intro r1 r2))
  have k0 : w.cell? ⟨h, 0, none⟩ = some v1 := hc.cell 0
  have k1 : w.cell? ⟨h, 1, none⟩ = some v2 := hc.cell 1
  obtain ⟨a1, c1, rfl⟩ := r1.form
  obtain ⟨a2, c2, rfl⟩ := r2.form
  have e1 : IntKind.i64.wrap ((0 : Int) + (xs.length : Int)) = (xs.length : Int) := by rw [IntWalk.i64_in _ (by omega)]; omega
  have e2 : IntKind.i64.wrap ((xs.length : Int) + (ys.length : Int)) = ((xs.length + ys.length : Nat) : Int) := by rw [IntWalk.i64_in _ (by omega)]; omega
  obtain ⟨n, hn⟩ : ∃ n : Int, ((xs.length + ys.length : Nat) : Int) = n := ⟨_, rfl⟩
  have hn0 : 0 ≤ n := by omega
  rw [hn] at e2 cG
  clear hc r1 r2 hn
  go_enter Try.func50, Try.ntmps50
  go_wp2_with (fail)
  go_loop [3, 11] (fun s i => (i = .int .i64 0 ∧ s = .int .i64 0) ∨ (i = .int .i64 1 ∧ s = .int .i64 (xs.length : Int)) ∨ (i = .int .i64 2 ∧ s = .int .i64 n)) (fun _ i => 2 - (intOf i).toNat)
  case atStart => exact .inl ⟨rfl, rfl⟩
  case round =>
    rcases hrel with ⟨rfl, rfl⟩ | ⟨rfl, rfl⟩ | ⟨rfl, rfl⟩
    · clear e2
      go_wp2_with (fail)
      go_round
      case rel => exact .inr (.inl ⟨by first | rfl | go_num, by first | rfl | go_num⟩)
      case measure => decide
    · clear e1
      go_wp2_with (fail)
      go_round
      case rel => exact .inr (.inr ⟨by first | rfl | go_num, by first | rfl | go_num⟩)
      case measure => decide
    · clear e1 e2 k0 k1
      go_wp2_with (fail)
      with_reducible refine (cG _).mono ?_
      rintro e w1 ⟨u, rfl, hO1, hb1⟩
      clear cG
      go_wp2_with (fail)
      go_loopw [6, 27] (fun u i wr => ((i = .int .i64 0 ∧ OwnH wr w.heap.size wr.heap.size u []) ∨ (i = .int .i64 1 ∧ OwnH wr w.heap.size wr.heap.size u xs) ∨ (i = .int .i64 2 ∧ OwnH wr w.heap.size wr.heap.size u (xs ++ ys))) ∧ Below w.heap.size w wr) (fun _ i _ => 2 - (intOf i).toNat)
      case atStart => exact ⟨.inl ⟨rfl, hO1⟩, hb1⟩
      case round =>
        clear hO1 hb1
        obtain ⟨hr, hB⟩ := hrel
        have k0 : wr.cell? ⟨h, 0, none⟩ = some (.slice a1 xs.length c1) := (HC.out.1.kept hB).cell 0
        have k1 : wr.cell? ⟨h, 1, none⟩ = some (.slice a2 ys.length c2) := (HC.out.1.kept hB).cell 1
        rcases hr with ⟨rfl, hO⟩ | ⟨rfl, hO⟩ | ⟨rfl, hO⟩
        · have HX := Lib.hid (And.intro hO (And.intro hB (HC.out.2.1.below hB)))
          obtain ⟨ua, uc, rfl, -⟩ := hO.form
          clear hO hB k1
          go_wp2_with (at_builtin; go_loud (refine wpList_append_els hvK rfl _ _ 24 24 rfl uHv uHv w.heap.size _ _ [] xs rfl rfl HX.out.1 HX.out.2.1.size HX.out.2.2 (by simp; omega) ?_; intro u' w3 hown hgrow hloc; rw [List.nil_append] at hown; have HM := Lib.hid (And.intro hown (HX.out.2.1.grown hgrow HX.out.2.1.size (fun g hg => (HX.out.1.block g hg).1))); obtain ⟨ua2, uc2, rfl, -⟩ := hown.form; clear hown hgrow hloc))
          go_roundw
          case rel => exact ⟨.inr (.inl ⟨by first | rfl | go_num, HM.out.1⟩), HM.out.2⟩
          case measure => decide
        · have HX := Lib.hid (And.intro hO (And.intro hB (HC.out.2.2.below hB)))
          obtain ⟨ua, uc, rfl, -⟩ := hO.form
          clear hO hB k0
          go_wp2_with (at_builtin; go_loud (refine wpList_append_els hvK rfl _ _ 24 24 rfl uHv uHv w.heap.size _ _ xs ys rfl rfl HX.out.1 HX.out.2.1.size HX.out.2.2 (by omega) ?_; intro u' w3 hown hgrow hloc; have HM := Lib.hid (And.intro hown (HX.out.2.1.grown hgrow HX.out.2.1.size (fun g hg => (HX.out.1.block g hg).1))); obtain ⟨ua2, uc2, rfl, -⟩ := hown.form; clear hown hgrow hloc))
          go_roundw
          case rel => exact ⟨.inr (.inr ⟨by first | rfl | go_num, by have := HM.out.1; rwa [List.length_append] at this⟩), HM.out.2⟩
          case measure => decide
        · have HX := Lib.hid (And.intro hO hB)
          obtain ⟨ua, uc, rfl, -⟩ := hO.form
          clear hO hB k0 k1
          go_wp2_with (fail)
          go_ret
          exact ⟨_, rfl, HX.out.1, HX.out.2⟩
end Go.Proofs.Ytoeflkmhofkiaaa
