import Derived.Test.YtjnobggefofjcaaMdt
import Derived.Test.YtjnobggefofjcaaMto
namespace Go.Proofs.Ytjnobggefofjcaa
open Go.RowKit

set_option maxHeartbeats 4000000 in
set_option maxRecDepth 100000 in
theorem draw_putMap (v : Value) (n : Nat) (w : World) (hv : RdB w v n) (hn : n ≤ 1048576) :
    Calls Try.prog 10 #[v] w fun e w' => ∃ (u : Value) (ms : List Mp) (m : Mp), e = .returned (.tuple #[u, .agg m.cells]) ∧ RdM w' u ms ∧ ms.length ≤ 50 ∧ Below w.heap.size w w' := by
  have hb0 := below_new w (.cells #[.int .i64 0, .int .i64 0, .int .i64 0] 26)
  have hC0 := Cel.new w 26 #[.int .i64 0, .int .i64 0, .int .i64 0]
  have cN := new_dr v n _ (hv.below hb0 hv.lt) hn
  rw [World.size_alloc] at cN
  have HE := Lib.hid (And.intro hb0 hC0)
  clear hb0 hC0 hv
  go_enter Try.func10, Try.ntmps10
  go_wp2_with (fail)
  with_reducible refine cN.mono ?_
  rintro e w1 ⟨rfl, d1, hb1'⟩
  have hb1 : Below (w.alloc (.cells #[.int .i64 0, .int .i64 0, .int .i64 0] 26)).heap.size (w.alloc (.cells #[.int .i64 0, .int .i64 0, .int .i64 0] 26)) w1 := by rw [World.size_alloc]; exact hb1'
  have hz1 : w.heap.size + 1 < w1.heap.size := d1.blk
  have cA := any_dr _ v n w1 d1
  have hC1 := HE.out.2.kept hb1
  have hB1 := Below.then_ HE.out.1 hb1
  have H1 := Lib.hid (And.intro hC1 (And.intro hB1 hz1))
  clear cN d1 hC1 hB1 hb1 hb1' hz1 HE
  go_wp2_with (fail)
  with_reducible refine cA.mono ?_
  rintro e w2 ⟨u, ms, rfl, hO, hl, d2, hG⟩
  obtain ⟨ua, uc, rfl, hf⟩ := hO.form
  have cM := map_dr _ v n w2 d2
  have H2 := Lib.hid (And.intro (H1.out.1.grew hG (by omega)) (And.intro (hG.chain H1.out.2.1 (by omega) (by have := H1.out.2.2; omega)) (And.intro hO (And.intro hl hG.size))))
  clear cA d2 hO hl hf hG
  go_wp2_with (fail)
  with_reducible refine cM.mono ?_
  rintro e w3 ⟨m, rfl, d3, hG3⟩
  have hC3 := H2.out.1.grew hG3 (by omega)
  have hz3 : w.heap.size + 1 < w2.heap.size := Nat.lt_of_lt_of_le H1.out.2.2 H2.out.2.2.2.2
  have hB3 := hG3.chain H2.out.2.1 (by omega) (by omega)
  have hO3 : OwnM w3 _ _ _ ms := H2.out.2.2.1.grown hG3 (Nat.le_refl _) (fun k hk e => by injection e with e; have := (H2.out.2.2.1.block k hk).1; have := H1.out.2.2; omega)
  have hb8 : Below w.heap.size w3 (((w3.setCell ⟨w.heap.size, 0, none⟩ (.int .i64 m.sub)).setCell ⟨w.heap.size, 1, none⟩ (.int .i64 m.seq)).setCell ⟨w.heap.size, 2, none⟩ (.int .i64 m.len)) := (((Below.refl _ _).setCell (p := ⟨w.heap.size, 0, none⟩) (Nat.le_refl _) _).setCell (p := ⟨w.heap.size, 1, none⟩) (Nat.le_refl _) _).setCell (p := ⟨w.heap.size, 2, none⟩) (Nat.le_refl _) _
  have hO8 := hO3.keepAt (W' := ((w3.setCell ⟨w.heap.size, 0, none⟩ (.int .i64 m.sub)).setCell ⟨w.heap.size, 1, none⟩ (.int .i64 m.seq)).setCell ⟨w.heap.size, 2, none⟩ (.int .i64 m.len)) (fun k hk => by
    have h7 := (hO3.block k hk).1
    have h8 := H1.out.2.2
    rw [Below.heap_setCell _ _ _ _ (by simp; omega), Below.heap_setCell _ _ _ _ (by simp; omega), Below.heap_setCell _ _ _ _ (by simp; omega)])
  have k0 := hC3.cell 0
  have k1 := hC3.cell 1
  have k2 := hC3.cell 2
  have f0 := hC3.frozen 0
  have f1 := hC3.frozen 1
  have f2 := hC3.frozen 2
  simp only [show ∀ a b c : Value, (#[a, b, c] : Array Value)[0]? = some a from fun _ _ _ => rfl, show ∀ a b c : Value, (#[a, b, c] : Array Value)[1]? = some b from fun _ _ _ => rfl, show ∀ a b c : Value, (#[a, b, c] : Array Value)[2]? = some c from fun _ _ _ => rfl] at k0 k1 k2
  have HG := Lib.hid (And.intro hO8.rd (And.intro H2.out.2.2.2.1 (hB3.trans hb8)))
  clear hC3 hB3 hO3 hb8 hO8 cM H1 H2 d3 hG3
  unfold Mp.cells
  go_wp2_with (fail)
  exact bodyPost_ret (v := .tuple #[.slice ua ms.length uc, .agg #[.int .i64 m.sub, .int .i64 m.seq, .int .i64 m.len]]) (by simp [results, Try.results10, go_sem, k0, k1, k2]) rfl ⟨_, ms, m, rfl, HG.out.1, HG.out.2.1, HG.out.2.2⟩
end Go.Proofs.Ytjnobggefofjcaa
