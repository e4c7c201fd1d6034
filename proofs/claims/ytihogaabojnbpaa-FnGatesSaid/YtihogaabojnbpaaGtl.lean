import Derived.Test.YtihogaabojnbpaaGti
import Derived.Test.YtihogaabojnbpaaGts
namespace Go.Proofs.Ytihogaabojnbpaa
open Go.RowKit

set_option maxRecDepth 100000 in
theorem to_bucket (b : Bt) (w : World) :
    Calls Try.prog 20 #[.agg #[.int .i64 b.rate, .int .i64 b.burst, .int .i64 b.hav]] w fun e w' => e = .returned (.agg #[.int .i64 b.rate, .int .i64 b.burst, .int .i64 b.hav]) ∧ Below w.heap.size w w' := by
  have hb : Below w.heap.size w (((w.alloc (.cells #[.int .i64 b.rate, .int .i64 b.burst, .int .i64 b.hav] 37)).alloc (.cells #[.int .i64 b.rate, .int .i64 b.burst, .int .i64 b.hav] 25)).alloc (.cells #[.int .i64 b.rate, .int .i64 b.burst, .int .i64 b.hav] 25)) := (((Below.refl _ _).alloc (Nat.le_refl _) _).alloc (by simp) _).alloc (by simp; omega) _
  have HB := Lib.hid hb
  clear hb
  go_enter Try.func20, Try.ntmps20
  go_wp2_with (fail)
  exact bodyPost_ret (v := .agg #[.int .i64 b.rate, .int .i64 b.burst, .int .i64 b.hav]) (by simp [results, Try.results20, go_sem]) rfl ⟨rfl, HB.out⟩

set_option maxRecDepth 100000 in
theorem eq_bucket (b : Bt) (w : World) :
    Calls Try.prog 24 #[.agg #[.int .i64 b.rate, .int .i64 b.burst, .int .i64 b.hav], .agg #[.int .i64 b.rate, .int .i64 b.burst, .int .i64 b.hav]] w fun e w' => e = .returned (.bool true) ∧ Below w.heap.size w w' := by
  have hb : Below w.heap.size w ((w.alloc (.cells #[.int .i64 b.rate, .int .i64 b.burst, .int .i64 b.hav] 25)).alloc (.cells #[.int .i64 b.rate, .int .i64 b.burst, .int .i64 b.hav] 25)) := ((Below.refl _ _).alloc (Nat.le_refl _) _).alloc (by simp) _
  have HB := Lib.hid hb
  clear hb
  go_enter Try.func24, Try.ntmps24
  go_wp2_with (fail)
  go_ret
  exact ⟨rfl, HB.out⟩
theorem keepb {W W' : World} {B o : Nat} {u : Value} (h : W.cell? ⟨B, o, none⟩ = some u) (hb : Below W.heap.size W W') : W'.cell? ⟨B, o, none⟩ = some u := by
  rw [hb.cell (p := ⟨B, o, none⟩) (World.block_lt_of_cell? _ _ h)]
  exact h

set_option maxRecDepth 100000 in
set_option maxHeartbeats 1000000 in
theorem bucketok_law (b : Bt) (w : World) :
    Calls Try.prog 4 #[.agg #[.int .i64 b.rate, .int .i64 b.burst, .int .i64 b.hav]] w fun e w' => e = .returned (.bool true) ∧ Below w.heap.size w w' := by
  have cT := fun W => to_bucket b W
  have cS := fun W => spec_bucketOk b W
  have cI := fun W => impl_bucketOk b W
  have hb0 : Below w.heap.size w (w.alloc (.cells #[.int .i64 b.rate, .int .i64 b.burst, .int .i64 b.hav] 37)) := below_new _ _
  obtain ⟨c0, c1, c2⟩ := cel3b (Cel.new w 37 #[.int .i64 b.rate, .int .i64 b.burst, .int .i64 b.hav])
  have HB := Lib.hid hb0
  clear hb0
  generalize decide b.Ok = r at *
  go_enter Try.func4, Try.ntmps4
  go_wp2_with (fail)
  with_reducible refine (cT _).mono ?_
  rintro e w1 ⟨rfl, hw1⟩
  go_wp2_with (fail)
  with_reducible refine (cS _).mono ?_
  rintro e w2 ⟨rfl, hw2⟩
  have h12 := (Below.then_ hw1 hw2)
  have d0 := keepb c0 h12
  have d1 := keepb c1 h12
  have d2 := keepb c2 h12
  have HB2 := Lib.hid (Below.then_ HB.out h12)
  clear hw2 h12 hw1 c0 c1 c2 HB
  go_wp2_with (fail)
  with_reducible refine (cT _).mono ?_
  rintro e w3 ⟨rfl, hw3⟩
  go_wp2_with (fail)
  with_reducible refine (cI _).mono ?_
  rintro e w4 ⟨rfl, hw4⟩
  have HB3 := Lib.hid (Below.then_ HB2.out (Below.then_ hw3 hw4))
  clear hw3 hw4 d0 d1 d2
  go_wp2_with (fail)
  go_ret
  exact ⟨rfl, HB3.out⟩

set_option maxRecDepth 100000 in
set_option maxHeartbeats 1000000 in
theorem bucketnew_law (r u : Int) (w : World) :
    Calls Try.prog 5 #[.int .i64 r, .int .i64 u] w fun e w' => e = .returned (.bool true) ∧ Below w.heap.size w w' := by
  have cS := fun W => spec_bucketNew r u W
  have cI := fun W => impl_bucketNew r u W
  generalize hR : newB r u = R at *
  clear hR
  obtain ⟨R, ok⟩ := R
  simp only at cS cI
  have cE := fun W => eq_bucket R W
  go_enter Try.func5, Try.ntmps5
  go_wp2_with (fail)
  with_reducible refine (cS _).mono ?_
  rintro e w2 ⟨rfl, hw2⟩
  have h12 := (Below.then_ hw2 (below_bt w2 R))
  have HB2 := Lib.hid (And.intro (h12) (Cel.new w2 25 #[.int .i64 R.rate, .int .i64 R.burst, .int .i64 R.hav]))
  clear hw2 h12
  go_wp2_with (fail)
  with_reducible refine (cI _).mono ?_
  rintro e w4 ⟨rfl, hw4⟩
  have h34 := Below.then_ hw4 (below_bt w4 R)
  obtain ⟨e0, e1, e2⟩ := cel3b (HB2.out.2.kept h34)
  obtain ⟨f0, f1, f2⟩ := cel3b (Cel.new w4 25 #[.int .i64 R.rate, .int .i64 R.burst, .int .i64 R.hav])
  have HB4 := Lib.hid (Below.then_ HB2.out.1 h34)
  clear hw4 h34
  go_wp2_with (fail)
  with_reducible refine (cE _).mono ?_
  rintro e w5 ⟨rfl, hw5⟩
  have HB3 := Lib.hid (Below.then_ HB4.out hw5)
  clear hw5 e0 e1 e2 f0 f1 f2
  go_wp2_with (fail)
  go_ret
  exact ⟨rfl, HB3.out⟩

set_option maxRecDepth 100000 in
set_option maxHeartbeats 1000000 in
theorem takeone_law (b : Bt) (w : World) :
    Calls Try.prog 6 #[.agg #[.int .i64 b.rate, .int .i64 b.burst, .int .i64 b.hav]] w fun e w' => e = .returned (.bool true) ∧ Below w.heap.size w w' := by
  have cT := fun W => to_bucket b W
  have cS := fun W => spec_take b W
  have cI := fun W => impl_take b W
  have hb0 : Below w.heap.size w (w.alloc (.cells #[.int .i64 b.rate, .int .i64 b.burst, .int .i64 b.hav] 37)) := below_new _ _
  obtain ⟨c0, c1, c2⟩ := cel3b (Cel.new w 37 #[.int .i64 b.rate, .int .i64 b.burst, .int .i64 b.hav])
  have HB := Lib.hid hb0
  clear hb0
  generalize hR : takeB b = R at *
  clear hR
  obtain ⟨R, ok⟩ := R
  simp only at cS cI
  have cE := fun W => eq_bucket R W
  go_enter Try.func6, Try.ntmps6
  go_wp2_with (fail)
  with_reducible refine (cT _).mono ?_
  rintro e w1 ⟨rfl, hw1⟩
  go_wp2_with (fail)
  with_reducible refine (cS _).mono ?_
  rintro e w2 ⟨rfl, hw2⟩
  have h12 := (Below.then_ (Below.then_ hw1 hw2) (below_bt w2 R))
  have d0 := keepb c0 h12
  have d1 := keepb c1 h12
  have d2 := keepb c2 h12
  have HB2 := Lib.hid (And.intro (Below.then_ HB.out h12) (Cel.new w2 25 #[.int .i64 R.rate, .int .i64 R.burst, .int .i64 R.hav]))
  clear hw2 h12 hw1 c0 c1 c2 HB
  go_wp2_with (fail)
  with_reducible refine (cT _).mono ?_
  rintro e w3 ⟨rfl, hw3⟩
  go_wp2_with (fail)
  with_reducible refine (cI _).mono ?_
  rintro e w4 ⟨rfl, hw4⟩
  have h34 := Below.then_ (Below.then_ hw3 hw4) (below_bt w4 R)
  obtain ⟨e0, e1, e2⟩ := cel3b (HB2.out.2.kept h34)
  obtain ⟨f0, f1, f2⟩ := cel3b (Cel.new w4 25 #[.int .i64 R.rate, .int .i64 R.burst, .int .i64 R.hav])
  have HB4 := Lib.hid (Below.then_ HB2.out.1 h34)
  clear hw4 h34 hw3 d0 d1 d2
  go_wp2_with (fail)
  with_reducible refine (cE _).mono ?_
  rintro e w5 ⟨rfl, hw5⟩
  have HB3 := Lib.hid (Below.then_ HB4.out hw5)
  clear hw5 e0 e1 e2 f0 f1 f2
  go_wp2_with (fail)
  go_ret
  exact ⟨rfl, HB3.out⟩

set_option maxRecDepth 100000 in
set_option maxHeartbeats 1000000 in
theorem filled_law (b : Bt) (k : Int) (w : World) :
    Calls Try.prog 7 #[.agg #[.int .i64 b.rate, .int .i64 b.burst, .int .i64 b.hav], .int .i64 k] w fun e w' => e = .returned (.bool true) ∧ Below w.heap.size w w' := by
  have cT := fun W => to_bucket b W
  have cS := fun W => spec_fill b k W
  have cI := fun W => impl_fill b k W
  have hb0 : Below w.heap.size w (w.alloc (.cells #[.int .i64 b.rate, .int .i64 b.burst, .int .i64 b.hav] 37)) := below_new _ _
  obtain ⟨c0, c1, c2⟩ := cel3b (Cel.new w 37 #[.int .i64 b.rate, .int .i64 b.burst, .int .i64 b.hav])
  have HB := Lib.hid hb0
  clear hb0
  generalize fillB b k = R at *
  have cE := fun W => eq_bucket R W
  go_enter Try.func7, Try.ntmps7
  go_wp2_with (fail)
  with_reducible refine (cT _).mono ?_
  rintro e w1 ⟨rfl, hw1⟩
  go_wp2_with (fail)
  with_reducible refine (cS _).mono ?_
  rintro e w2 ⟨rfl, hw2⟩
  have h12 := (Below.then_ (Below.then_ hw1 hw2) (below_bt w2 R))
  have d0 := keepb c0 h12
  have d1 := keepb c1 h12
  have d2 := keepb c2 h12
  have HB2 := Lib.hid (And.intro (Below.then_ HB.out h12) (Cel.new w2 25 #[.int .i64 R.rate, .int .i64 R.burst, .int .i64 R.hav]))
  clear hw2 h12 hw1 c0 c1 c2 HB
  go_wp2_with (fail)
  with_reducible refine (cT _).mono ?_
  rintro e w3 ⟨rfl, hw3⟩
  go_wp2_with (fail)
  with_reducible refine (cI _).mono ?_
  rintro e w4 ⟨rfl, hw4⟩
  have h34 := Below.then_ (Below.then_ hw3 hw4) (below_bt w4 R)
  obtain ⟨e0, e1, e2⟩ := cel3b (HB2.out.2.kept h34)
  obtain ⟨f0, f1, f2⟩ := cel3b (Cel.new w4 25 #[.int .i64 R.rate, .int .i64 R.burst, .int .i64 R.hav])
  have HB4 := Lib.hid (Below.then_ HB2.out.1 h34)
  clear hw4 h34 hw3 d0 d1 d2
  go_wp2_with (fail)
  with_reducible refine (cE _).mono ?_
  rintro e w5 ⟨rfl, hw5⟩
  have HB3 := Lib.hid (Below.then_ HB4.out hw5)
  clear hw5 e0 e1 e2 f0 f1 f2
  go_wp2_with (fail)
  go_ret
  exact ⟨rfl, HB3.out⟩

set_option maxRecDepth 100000 in
set_option maxHeartbeats 1000000 in
theorem mostin_law (b : Bt) (k : Int) (w : World) :
    Calls Try.prog 9 #[.agg #[.int .i64 b.rate, .int .i64 b.burst, .int .i64 b.hav], .int .i64 k] w fun e w' => e = .returned (.bool true) ∧ Below w.heap.size w w' := by
  have cT := fun W => to_bucket b W
  have cS := fun W => spec_most b k W
  have cI := fun W => impl_most b k W
  have hb0 : Below w.heap.size w (w.alloc (.cells #[.int .i64 b.rate, .int .i64 b.burst, .int .i64 b.hav] 37)) := below_new _ _
  obtain ⟨c0, c1, c2⟩ := cel3b (Cel.new w 37 #[.int .i64 b.rate, .int .i64 b.burst, .int .i64 b.hav])
  have HB := Lib.hid hb0
  clear hb0
  generalize mostB b k = r at *
  go_enter Try.func9, Try.ntmps9
  go_wp2_with (fail)
  with_reducible refine (cT _).mono ?_
  rintro e w1 ⟨rfl, hw1⟩
  go_wp2_with (fail)
  with_reducible refine (cS _).mono ?_
  rintro e w2 ⟨rfl, hw2⟩
  have h12 := (Below.then_ hw1 hw2)
  have d0 := keepb c0 h12
  have d1 := keepb c1 h12
  have d2 := keepb c2 h12
  have HB2 := Lib.hid (Below.then_ HB.out h12)
  clear hw2 h12 hw1 c0 c1 c2 HB
  go_wp2_with (fail)
  with_reducible refine (cT _).mono ?_
  rintro e w3 ⟨rfl, hw3⟩
  go_wp2_with (fail)
  with_reducible refine (cI _).mono ?_
  rintro e w4 ⟨rfl, hw4⟩
  have HB3 := Lib.hid (Below.then_ HB2.out (Below.then_ hw3 hw4))
  clear hw3 hw4 d0 d1 d2
  go_wp2_with (fail)
  go_ret
  exact ⟨rfl, HB3.out⟩

end Go.Proofs.Ytihogaabojnbpaa
