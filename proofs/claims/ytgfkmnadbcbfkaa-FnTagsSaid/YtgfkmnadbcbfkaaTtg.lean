import Derived.Test.YtgfkmnadbcbfkaaTto
import Derived.Test.YtgfkmnadbcbfkaaEk2
import Derived.Test.YtgfkmnadbcbfkaaLaw
namespace Go.Proofs.Ytgfkmnadbcbfkaa
open Go.RowKit

theorem spec_tagBack (mine theirs my their : Int) (w : World) :
    Calls Try.prog 20 #[.int .i64 mine, .int .i64 theirs, .int .i64 my, .int .i64 their] w fun e w' => e = .returned (.agg #[.int .i64 1, .int .i64 mine, .int .i64 theirs, .int .i64 my, .int .i64 their]) ∧ Below w.heap.size w w' := by
  have hb : Below w.heap.size w (w.alloc (.cells #[.int .i64 1, .int .i64 mine, .int .i64 theirs, .int .i64 my, .int .i64 their] 29)) := below_new _ _
  have HB := Lib.hid hb
  clear hb
  go_enter Try.func20, Try.ntmps20
  go_wp2_with (fail)
  exact bodyPost_ret (v := .agg #[.int .i64 1, .int .i64 mine, .int .i64 theirs, .int .i64 my, .int .i64 their]) (by simp [results, Try.results20, go_sem]) rfl ⟨rfl, HB.out⟩

theorem impl_tagBack (mine theirs my their : Int) (w : World) :
    Calls Try.prog 13 #[.int .i64 mine, .int .i64 theirs, .int .i64 my, .int .i64 their] w fun e w' => e = .returned (.agg #[.int .i64 1, .int .i64 mine, .int .i64 theirs, .int .i64 my, .int .i64 their]) ∧ Below w.heap.size w w' := by
  have hb : Below w.heap.size w (w.alloc (.cells #[.int .i64 1, .int .i64 mine, .int .i64 theirs, .int .i64 my, .int .i64 their] 29)) := below_new _ _
  have HB := Lib.hid hb
  clear hb
  go_enter Try.func13, Try.ntmps13
  go_wp2_with (fail)
  exact bodyPost_ret (v := .agg #[.int .i64 1, .int .i64 mine, .int .i64 theirs, .int .i64 my, .int .i64 their]) (by simp [results, Try.results13, go_sem]) rfl ⟨rfl, HB.out⟩

theorem spec_tagDone (mine theirs my their : Int) (w : World) :
    Calls Try.prog 22 #[.int .i64 mine, .int .i64 theirs, .int .i64 my, .int .i64 their] w fun e w' => e = .returned (.agg #[.int .i64 2, .int .i64 mine, .int .i64 theirs, .int .i64 my, .int .i64 their]) ∧ Below w.heap.size w w' := by
  have hb : Below w.heap.size w (w.alloc (.cells #[.int .i64 2, .int .i64 mine, .int .i64 theirs, .int .i64 my, .int .i64 their] 29)) := below_new _ _
  have HB := Lib.hid hb
  clear hb
  go_enter Try.func22, Try.ntmps22
  go_wp2_with (fail)
  exact bodyPost_ret (v := .agg #[.int .i64 2, .int .i64 mine, .int .i64 theirs, .int .i64 my, .int .i64 their]) (by simp [results, Try.results22, go_sem]) rfl ⟨rfl, HB.out⟩

theorem impl_tagDone (mine theirs my their : Int) (w : World) :
    Calls Try.prog 14 #[.int .i64 mine, .int .i64 theirs, .int .i64 my, .int .i64 their] w fun e w' => e = .returned (.agg #[.int .i64 2, .int .i64 mine, .int .i64 theirs, .int .i64 my, .int .i64 their]) ∧ Below w.heap.size w w' := by
  have hb : Below w.heap.size w (w.alloc (.cells #[.int .i64 2, .int .i64 mine, .int .i64 theirs, .int .i64 my, .int .i64 their] 29)) := below_new _ _
  have HB := Lib.hid hb
  clear hb
  go_enter Try.func14, Try.ntmps14
  go_wp2_with (fail)
  exact bodyPost_ret (v := .agg #[.int .i64 2, .int .i64 mine, .int .i64 theirs, .int .i64 my, .int .i64 their]) (by simp [results, Try.results14, go_sem]) rfl ⟨rfl, HB.out⟩

theorem spec_tagAddr (mine theirs my their : Int) (w : World) :
    Calls Try.prog 19 #[.int .i64 mine, .int .i64 theirs, .int .i64 my, .int .i64 their] w fun e w' => e = .returned (.agg #[.int .i64 3, .int .i64 mine, .int .i64 theirs, .int .i64 my, .int .i64 their]) ∧ Below w.heap.size w w' := by
  have hb : Below w.heap.size w (w.alloc (.cells #[.int .i64 3, .int .i64 mine, .int .i64 theirs, .int .i64 my, .int .i64 their] 29)) := below_new _ _
  have HB := Lib.hid hb
  clear hb
  go_enter Try.func19, Try.ntmps19
  go_wp2_with (fail)
  exact bodyPost_ret (v := .agg #[.int .i64 3, .int .i64 mine, .int .i64 theirs, .int .i64 my, .int .i64 their]) (by simp [results, Try.results19, go_sem]) rfl ⟨rfl, HB.out⟩

theorem impl_tagAddr (mine theirs my their : Int) (w : World) :
    Calls Try.prog 18 #[.int .i64 mine, .int .i64 theirs, .int .i64 my, .int .i64 their] w fun e w' => e = .returned (.agg #[.int .i64 3, .int .i64 mine, .int .i64 theirs, .int .i64 my, .int .i64 their]) ∧ Below w.heap.size w w' := by
  have hb : Below w.heap.size w (w.alloc (.cells #[.int .i64 3, .int .i64 mine, .int .i64 theirs, .int .i64 my, .int .i64 their] 29)) := below_new _ _
  have HB := Lib.hid hb
  clear hb
  go_enter Try.func18, Try.ntmps18
  go_wp2_with (fail)
  exact bodyPost_ret (v := .agg #[.int .i64 3, .int .i64 mine, .int .i64 theirs, .int .i64 my, .int .i64 their]) (by simp [results, Try.results18, go_sem]) rfl ⟨rfl, HB.out⟩

set_option maxRecDepth 100000 in
set_option maxHeartbeats 1000000 in
theorem tagback_law (mine theirs my their : Int) (w : World) :
    Calls Try.prog 4 #[.int .i64 mine, .int .i64 theirs, .int .i64 my, .int .i64 their] w fun e w' => e = .returned (.bool true) ∧ Below w.heap.size w w' := by
  have cS := fun W => spec_tagBack mine theirs my their W
  have cI := fun W => impl_tagBack mine theirs my their W
  have cE := fun W => eq_tag ⟨1, mine, theirs, my, their⟩ W
  go_enter Try.func4, Try.ntmps4
  go_wp2_with (fail)
  with_reducible refine (cS _).mono ?_
  rintro e w1 ⟨rfl, h1⟩
  have HB1 := Lib.hid (And.intro (Below.then_ h1 (below_tv w1 ⟨1, mine, theirs, my, their⟩)) (Cel.new w1 29 #[.int .i64 1, .int .i64 mine, .int .i64 theirs, .int .i64 my, .int .i64 their]))
  clear h1
  go_wp2_with (fail)
  with_reducible refine (cI _).mono ?_
  rintro e w2 ⟨rfl, h2⟩
  have h12 := Below.then_ h2 (below_tv w2 ⟨1, mine, theirs, my, their⟩)
  obtain ⟨e0, e1, e2, e3, e4⟩ := cel5tv (HB1.out.2.kept h12)
  obtain ⟨f0, f1, f2, f3, f4⟩ := cel5tv (Cel.new w2 29 #[.int .i64 1, .int .i64 mine, .int .i64 theirs, .int .i64 my, .int .i64 their])
  have HB2 := Lib.hid (Below.then_ HB1.out.1 h12)
  clear h2 h12
  go_wp2_with (fail)
  with_reducible refine (cE _).mono ?_
  rintro e w3 ⟨rfl, h3⟩
  have HB3 := Lib.hid (Below.then_ HB2.out h3)
  clear h3 e0 e1 e2 e3 e4 f0 f1 f2 f3 f4
  go_wp2_with (fail)
  go_ret
  exact ⟨rfl, HB3.out⟩

set_option maxRecDepth 100000 in
set_option maxHeartbeats 1000000 in
theorem tagdone_law (mine theirs my their : Int) (w : World) :
    Calls Try.prog 5 #[.int .i64 mine, .int .i64 theirs, .int .i64 my, .int .i64 their] w fun e w' => e = .returned (.bool true) ∧ Below w.heap.size w w' := by
  have cS := fun W => spec_tagDone mine theirs my their W
  have cI := fun W => impl_tagDone mine theirs my their W
  have cE := fun W => eq_tag ⟨2, mine, theirs, my, their⟩ W
  go_enter Try.func5, Try.ntmps5
  go_wp2_with (fail)
  with_reducible refine (cS _).mono ?_
  rintro e w1 ⟨rfl, h1⟩
  have HB1 := Lib.hid (And.intro (Below.then_ h1 (below_tv w1 ⟨2, mine, theirs, my, their⟩)) (Cel.new w1 29 #[.int .i64 2, .int .i64 mine, .int .i64 theirs, .int .i64 my, .int .i64 their]))
  clear h1
  go_wp2_with (fail)
  with_reducible refine (cI _).mono ?_
  rintro e w2 ⟨rfl, h2⟩
  have h12 := Below.then_ h2 (below_tv w2 ⟨2, mine, theirs, my, their⟩)
  obtain ⟨e0, e1, e2, e3, e4⟩ := cel5tv (HB1.out.2.kept h12)
  obtain ⟨f0, f1, f2, f3, f4⟩ := cel5tv (Cel.new w2 29 #[.int .i64 2, .int .i64 mine, .int .i64 theirs, .int .i64 my, .int .i64 their])
  have HB2 := Lib.hid (Below.then_ HB1.out.1 h12)
  clear h2 h12
  go_wp2_with (fail)
  with_reducible refine (cE _).mono ?_
  rintro e w3 ⟨rfl, h3⟩
  have HB3 := Lib.hid (Below.then_ HB2.out h3)
  clear h3 e0 e1 e2 e3 e4 f0 f1 f2 f3 f4
  go_wp2_with (fail)
  go_ret
  exact ⟨rfl, HB3.out⟩

set_option maxRecDepth 100000 in
set_option maxHeartbeats 1000000 in
theorem tagaddr_law (mine theirs my their : Int) (w : World) :
    Calls Try.prog 6 #[.int .i64 mine, .int .i64 theirs, .int .i64 my, .int .i64 their] w fun e w' => e = .returned (.bool true) ∧ Below w.heap.size w w' := by
  have cS := fun W => spec_tagAddr mine theirs my their W
  have cI := fun W => impl_tagAddr mine theirs my their W
  have cE := fun W => eq_tag ⟨3, mine, theirs, my, their⟩ W
  go_enter Try.func6, Try.ntmps6
  go_wp2_with (fail)
  with_reducible refine (cS _).mono ?_
  rintro e w1 ⟨rfl, h1⟩
  have HB1 := Lib.hid (And.intro (Below.then_ h1 (below_tv w1 ⟨3, mine, theirs, my, their⟩)) (Cel.new w1 29 #[.int .i64 3, .int .i64 mine, .int .i64 theirs, .int .i64 my, .int .i64 their]))
  clear h1
  go_wp2_with (fail)
  with_reducible refine (cI _).mono ?_
  rintro e w2 ⟨rfl, h2⟩
  have h12 := Below.then_ h2 (below_tv w2 ⟨3, mine, theirs, my, their⟩)
  obtain ⟨e0, e1, e2, e3, e4⟩ := cel5tv (HB1.out.2.kept h12)
  obtain ⟨f0, f1, f2, f3, f4⟩ := cel5tv (Cel.new w2 29 #[.int .i64 3, .int .i64 mine, .int .i64 theirs, .int .i64 my, .int .i64 their])
  have HB2 := Lib.hid (Below.then_ HB1.out.1 h12)
  clear h2 h12
  go_wp2_with (fail)
  with_reducible refine (cE _).mono ?_
  rintro e w3 ⟨rfl, h3⟩
  have HB3 := Lib.hid (Below.then_ HB2.out h3)
  clear h3 e0 e1 e2 e3 e4 f0 f1 f2 f3 f4
  go_wp2_with (fail)
  go_ret
  exact ⟨rfl, HB3.out⟩

end Go.Proofs.Ytgfkmnadbcbfkaa
