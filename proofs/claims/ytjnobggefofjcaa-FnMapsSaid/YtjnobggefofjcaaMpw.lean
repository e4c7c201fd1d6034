import Derived.Test.YtjnobggefofjcaaMpu
namespace Go.Proofs.Ytjnobggefofjcaa
open Go.RowKit

set_option maxRecDepth 100000 in
set_option maxHeartbeats 2000000 in
theorem impl_putMap (v : Value) (ms : List Mp) (m : Mp) (w : World) (hv : RdM w v ms) (hn : ms.length ≤ 1048576) :
    Calls Try.prog 11 #[v, .agg m.cells] w fun e w' => ∃ v', e = .returned (.tuple #[v', .bool (putMap ms m).2]) ∧ OwnM w' w.heap.size w'.heap.size v' (putMap ms m).1 ∧ Below w.heap.size w w' := by
  have hbx := below_box w m
  obtain ⟨b0, b1, b2⟩ := cel3 (Cel.new w 26 #[.int .i64 m.sub, .int .i64 m.seq, .int .i64 m.len])
  have cp := fun (g : Nat) (v : Value) (W : World) => impl_put g v ms m w.heap.size W
  generalize hr : putMap ms m = r at *
  have co := impl_ownMaps v ms (w.alloc (.cells #[.int .i64 m.sub, .int .i64 m.seq, .int .i64 m.len] 26)) (hv.below hbx) hn
  rw [show (w.alloc (.cells #[.int .i64 m.sub, .int .i64 m.seq, .int .i64 m.len] 26)).heap.size = w.heap.size + 1 by simp] at co
  have HS := Lib.hid (And.intro b0 (And.intro b1 (And.intro b2 (And.intro hbx hn))))
  unfold Mp.cells at *
  clear hbx b0 b1 b2 hr hv hn
  go_enter Try.func11, Try.ntmps11
  go_wp2_with (fail)
  with_reducible refine co.mono ?_
  rintro e w1 ⟨u, rfl, hO1, hB1⟩
  obtain ⟨ua, uc, rfl, -⟩ := hO1.form
  have hB1' : Below (w.alloc (.cells #[.int .i64 m.sub, .int .i64 m.seq, .int .i64 m.len] 26)).heap.size (w.alloc (.cells #[.int .i64 m.sub, .int .i64 m.seq, .int .i64 m.len] 26)) w1 := by simpa using hB1
  have hs1 := hB1'.size
  have hbv := below_new w1 (.cells #[.slice ua ms.length uc] 50)
  have c0 := keepc (keepc HS.out.1 hB1') hbv
  have c1 := keepc (keepc HS.out.2.1 hB1') hbv
  have c2 := keepc (keepc HS.out.2.2.1 hB1') hbv
  have hB2 := Below.then_ (Below.then_ HS.out.2.2.2.1 hB1') hbv
  have hO2 := own_alloc (hO1.mono (Nat.le_succ _) (Nat.le_refl _)) (.cells #[.slice ua ms.length uc] 50)
  have hC2 := Cel.new w1 50 #[.slice ua ms.length uc]
  have hput := cp w1.heap.size (.slice ua ms.length uc) (w1.alloc (.cells #[.slice ua ms.length uc] 50)) hC2 (by simp at hs1; omega) hO2 HS.out.2.2.2.2
  have HB := Lib.hid hB2
  clear hB1 hB1' hs1 hbv hB2 hO2 hC2 hO1 co cp HS
  go_wp2_with (fail)
  with_reducible refine hput.mono ?_
  rintro e w3 ⟨rfl, ⟨v', hC3, hO3⟩, hb3⟩
  obtain ⟨va, vc, rfl, -⟩ := hO3.form
  have k0 := hC3.cell 0
  rw [show ∀ v : Value, (#[v] : Array Value)[0]? = some v from fun _ => rfl] at k0
  have HN := Lib.hid (And.intro hO3 (HB.out.trans hb3))
  clear hC3 hO3 hb3 hput
  go_wp2_with (fail)
  go_ret2
  exact ⟨_, rfl, HN.out.1, HN.out.2⟩
end Go.Proofs.Ytjnobggefofjcaa
