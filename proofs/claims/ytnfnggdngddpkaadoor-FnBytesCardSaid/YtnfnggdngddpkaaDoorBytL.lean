import Derived.Test.YtnfnggdngddpkaaDoorBytM
import Derived.Test.YtnfnggdngddpkaaDoorDecS
import Derived.Test.YtnfnggdngddpkaaDoorPlaces
import Derived.Test.YtnfnggdngddpkaaDoorCel
import Derived.Test.YtnfnggdngddpkaaDoorBig
import Derived.BigQuiet
namespace Go.Proofs.YtnfnggdngddpkaaDoor
open Go.RowKit

/-- The first four cells of a block. -/
def Four (W : World) (g : Nat) (x0 x1 x2 x3 : Nat) : Prop :=
  W.cell? ⟨g, 0, none⟩ = some (.int .i64 (x0 : Int)) ∧ W.cell? ⟨g, 1, none⟩ = some (.int .i64 (x1 : Int)) ∧ W.cell? ⟨g, 2, none⟩ = some (.int .i64 (x2 : Int)) ∧ W.cell? ⟨g, 3, none⟩ = some (.int .i64 (x3 : Int))

theorem Four.below {W W' : World} {g x0 x1 x2 x3 : Nat} (h : Four W g x0 x1 x2 x3) (hb : Below W.heap.size W W') : Four W' g x0 x1 x2 x3 := by
  obtain ⟨h0, h1, h2, h3⟩ := h
  have hlt := World.block_lt_of_cell? _ _ h0
  have hc := fun j => hb.cell (p := ⟨g, j, none⟩) hlt
  exact ⟨by rw [hc]; exact h0, by rw [hc]; exact h1, by rw [hc]; exact h2, by rw [hc]; exact h3⟩

set_option maxHeartbeats 1000000 in
theorem bytes_law (v : Value) (w : World) (htab : Lib.TabIs Tryd.prog w "internal/strconv.uint64pow10" .u64 Lib.pow10Tab) (n : Nat) (hr : RdB w v n) :
    Calls Tryd.prog 3 #[v] w fun e w' => e = .returned (.bool true) ∧ Below w.heap.size w w' := by
  have cb := big_call v n w hr
  by_cases hn : 1048576 < n
  · rw [decide_eq_true hn] at cb
    clear hn hr
    go_enter Tryd.func3, Tryd.ntmps3
    go_wp2_with (go_at_call 4; refine cb.mono ?_; rintro e w1 ⟨rfl, rfl⟩)
    go_ret
    exact ⟨rfl, Below.refl _ _⟩
  · rw [decide_eq_false hn] at cb
    have cp := draw_places v n w hr (by omega)
    clear hn hr
    go_enter Tryd.func3, Tryd.ntmps3
    go_wp2_with (go_at_call 4; refine cb.mono ?_; rintro e w1 ⟨rfl, rfl⟩)
    with_reducible refine cp.mono ?_
    rintro e w1 ⟨g, cap, zs, rfl, hzl, hzb, hown, hb1⟩
    have hx : ∀ j, j < 12 → ∃ x : Nat, x < 10000 ∧ w1.cell? ⟨g, j, none⟩ = some (.int .i64 (x : Int)) := by
      intro j hj
      have h := hown.cells (g := g) rfl j (.int .i64 (zs[j]'(by omega))) (by rw [List.getElem?_map, List.getElem?_eq_getElem (by omega)]; rfl)
      have hb := hzb (zs[j]'(by omega)) (List.getElem_mem _)
      have hadd : (⟨g, 0, none⟩ : Addr).add j = ⟨g, j, none⟩ := by unfold Addr.add; split <;> simp_all
      rw [hadd] at h
      exact ⟨(zs[j]'(by omega)).toNat, by omega, by rw [h, Int.toNat_of_nonneg hb.1]⟩
    clear hown hzl hzb
    obtain ⟨x0, l0, d0⟩ := hx 0 (by omega)
    obtain ⟨x1, l1, d1⟩ := hx 1 (by omega)
    obtain ⟨x2, l2, d2⟩ := hx 2 (by omega)
    obtain ⟨x3, l3, d3⟩ := hx 3 (by omega)
    clear hx cb cp
    have F1 : Four w1 g x0 x1 x2 x3 := ⟨d0, d1, d2, d3⟩
    have htab1 := Lib.tabBelow_of_tabIs htab _ hb1
    clear htab
    have e1 : IntKind.i64.wrap ((x0 : Int) * 10000) = (x0 : Int) * 10000 := IntWalk.i64_in _ (by omega)
    have e2 : IntKind.i64.wrap ((x0 : Int) * 10000 + (x1 : Int)) = (x0 : Int) * 10000 + (x1 : Int) := IntWalk.i64_in _ (by omega)
    go_wp2_with (fail)
    go_quiet (fail)
    go_wp2_with (fail)
    clear d0 d1 d2 d3 e1 e2
    have F2 : Four (w1.drewN nq) g x0 x1 x2 x3 := F1
    have htab2 : Lib.TabIs Tryd.prog (w1.drewN nq) "internal/strconv.uint64pow10" .u64 Lib.pow10Tab := htab1
    have hB2 : Below w.heap.size w (w1.drewN nq) := ⟨hb1.os, hb1.tape, hb1.output, hb1.size, hb1.block⟩
    clear F1 htab1 hb1
    generalize w1.drewN nq = w2 at F2 htab2 hB2 ⊢
    obtain ⟨N, hN, hN2⟩ : ∃ N : Nat, (x0 : Int) * 10000 + (x1 : Int) = (N : Int) ∧ N ≤ 100010000 := ⟨x0 * 10000 + x1, by omega, by omega⟩
    rw [hN]
    clear hN
    obtain ⟨y, hy, hy2⟩ : ∃ y : Nat, (x2 : Int) % 256 = (y : Int) ∧ y < 256 := ⟨x2 % 256, by omega, by omega⟩
    have c4 := fun W => impl_numText (N : Int) 4 W
    have c1 := fun W => impl_numText (y : Int) 1 W
    have hz4 := numText_size N 4 (by omega) (by omega) (by omega)
    have hz1 := numText_size y 1 (by omega) (by omega) (by omega)
    have hv4 := num4_back N (by omega)
    have hv1 := num1_back y (by omega)
    have c0 := fun W => impl_numText 256 1 W
    have h0 : numText 256 1 = ⟨#[]⟩ := by unfold numText; rw [if_neg (by decide)]
    rw [h0] at c0
    rw [show ((4 : Nat) : Int) = (4 : Int) from rfl] at hz4
    rw [show ((1 : Nat) : Int) = (1 : Int) from rfl] at hz1
    generalize numText (N : Int) 4 = S at c4 hz4 hv4
    generalize numText (y : Int) 1 = T at c1 hz1 hv1
    have cd := fun W a => program_decimal (x3 : Int) (by omega) (by omega) W a
    have hsa := dec_size x3 (by omega)
    generalize (⟨(Lib.itoa (x3 : Int)).toArray⟩ : ByteArray) = A at cd hsa
    have m1 := nat_mid A S T 4 hz4
    have m2 := nat_end (A ++ S) T 1 hz1
    have m3 : (A ++ S).extract A.size (A.size + S.size) = S := extract_end A S
    have m4 := (nat_end A S 4 hz4).2
    have m5 : ¬ Part (A ++ S) ((A.size : Int) + 1) 4 := fun h => by
      have h2 := h.2.2
      rw [ByteArray.size_append] at h2
      omega
    have hAS : (A ++ S).size = A.size + 4 := by rw [ByteArray.size_append, hz4]
    have hAST : (A ++ S ++ T).size = A.size + 5 := by rw [ByteArray.size_append, hAS, hz1]
    rw [hv4] at m1
    rw [hv1, hAS] at m2
    rw [show ((4 : Nat) : Int) = (4 : Int) from rfl] at m1 m4
    rw [show ((1 : Nat) : Int) = (1 : Int) from rfl, show ((A.size + 4 : Nat) : Int) = (A.size : Int) + 4 by omega] at m2
    have k1 := fun W => impl_num_yes (A ++ S ++ T) (A.size : Int) 4 W (by omega) (by omega) (by omega) m1.2
    have k2 := fun W => impl_num_yes (A ++ S ++ T) ((A.size : Int) + 4) 1 W (by omega) (by omega) (by omega) m2.2
    have k3 := fun W => impl_text_yes (A ++ S) (A.size : Int) 4 W (by omega) m4
    have k4 := fun W => impl_num_no (A ++ S) ((A.size : Int) + 1) 4 W (by omega) (by omega) (by omega) (by omega) m5
    rw [m1.1] at k1
    rw [m2.1] at k2
    rw [show ((A.size : Int)).toNat = A.size by omega, show ((A.size : Int) + 4).toNat = A.size + S.size by omega, m3] at k3
    have q1 : A.size + S.size ≤ 9223372036854775807 := by omega
    have q2 : (A ++ S).size + T.size ≤ 9223372036854775807 := by omega
    have HY := Lib.hid hy
    have HZ := Lib.hid hz4
    clear m1 m2 m3 m4 m5 hAS hAST hv4 hv1 hz1 hz4 h0 hy
    go_wp2_with (fail)
    with_reducible refine (c4 _).mono ?_
    rintro e w3 ⟨rfl, hb3⟩
    have F3 := F2.below hb3
    have htab3 := Lib.tabBelow_of_tabIs htab2 _ hb3
    have hB3 := Below.then_ hB2 hb3
    clear F2 htab2 hB2 hb3 c4
    have F3' := F3
    obtain ⟨-, -, d2, d3⟩ := F3'
    go_wp2_with (fail)
    rw [HY.out]
    with_reducible refine (c1 _).mono ?_
    rintro e w4 ⟨rfl, hb4⟩
    have F4 := F3.below hb4
    have htab4 := Lib.tabBelow_of_tabIs htab3 _ hb4
    have hB4 := Below.then_ hB3 hb4
    clear F3 htab3 hB3 hb4 c1 d2 d3
    have F4' := F4
    obtain ⟨-, -, d2, d3⟩ := F4'
    go_wp2_with (fail)
    with_reducible refine (cd _ htab4).mono ?_
    rintro e w5 ⟨rfl, hb5⟩
    have F5 := F4.below hb5
    have hB5 := Below.then_ hB4 hb5
    clear F4 htab4 hB4 hb5 cd d2 d3
    go_wp2_with (fail)
    with_reducible refine (k1 _).mono ?_
    rintro e w6 ⟨rfl, hb6⟩
    have F6 := F5.below hb6
    have hB6 := Below.then_ hB5 hb6
    clear F5 hB5 hb6 k1
    go_wp2_with (fail)
    with_reducible refine (k2 _).mono ?_
    rintro e w7 ⟨rfl, hb7⟩
    have F7 := F6.below hb7
    have hB7 := Below.then_ hB6 hb7
    clear F6 hB6 hb7 k2
    go_wp2_with (fail)
    with_reducible refine (k3 _).mono ?_
    rintro e w8 ⟨rfl, hb8⟩
    have F8 := F7.below hb8
    have hB8 := Below.then_ hB7 hb8
    clear F7 hB7 hb8 k3
    go_wp2_with (fail)
    with_reducible refine (k4 _).mono ?_
    rintro e w9 ⟨rfl, hb9⟩
    have F9 := F8.below hb9
    have hB9 := Below.then_ hB8 hb9
    clear F8 hB8 hb9 k4
    obtain ⟨-, -, d2, -⟩ := F9
    have hs4 : ((S.size : Int) == 4) = true := by have := HZ.out; simp [this]
    have hy3 : ((y : Int) == (x2 : Int) % 256) = true := by have := HY.out; simp [this]
    go_wp2_with (fail)
    with_reducible refine (c0 _).mono ?_
    rintro e w10 ⟨rfl, hb10⟩
    go_wp2_with (fail)
    go_ret
    exact ⟨rfl, Below.then_ hB9 hb10⟩
end Go.Proofs.YtnfnggdngddpkaaDoor
