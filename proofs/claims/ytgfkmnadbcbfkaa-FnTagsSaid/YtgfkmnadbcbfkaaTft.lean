import Derived.Test.YtgfkmnadbcbfkaaTds
import Derived.Test.YtgfkmnadbcbfkaaTsk
import Derived.Test.YtgfkmnadbcbfkaaTil
import Derived.Test.YtgfkmnadbcbfkaaTtg
import Derived.Test.YtgfkmnadbcbfkaaTif
import Derived.Test.YtgfkmnadbcbfkaaPlaces
import Derived.Test.YtgfkmnadbcbfkaaCode
namespace Go.Proofs.Ytgfkmnadbcbfkaa
open Go.RowKit

theorem own_two (W : World) (a b : Int) : OwnE intK (W.alloc (.cells #[.int .i64 a, .int .i64 b] 3)) 0 (W.alloc (.cells #[.int .i64 a, .int .i64 b] 3)).heap.size (.slice (some ⟨W.heap.size, 0, none⟩) 2 2) [a, b] :=
  OwnE.of_cel (K := intK) (xs := [a, b]) (Cel.new W 3 #[.int .i64 a, .int .i64 b]) (Nat.zero_le _) (by simp) (by simp [maxLen])
theorem own_set2 {W : World} {g b : Nat} {zs : List Int} (h : OwnE intK W 0 W.heap.size (.slice (some ⟨b, 0, none⟩) 2 2) zs) (u1 u2 : Value) (hn : b ≠ g) : RdE intK ((W.setCell ⟨g, 0, none⟩ u1).setCell ⟨g, 1, none⟩ u2) (.slice (some ⟨b, 0, none⟩) 2 2) zs := by
  have hn' : (Value.slice (some ⟨b, 0, none⟩) 2 2).ownBlock ≠ some g := fun e => hn (by simpa [Value.ownBlock] using e)
  exact (own_at (own_at h hn' _) hn' _).rd
theorem mem_two {a b z : Int} (h : z ∈ [a, b]) : z = a ∨ z = b := by simpa using h
theorem kn_keys {W : World} {u : Value} {zs : List Int} (h : RdE intK W u zs) : KnR W u (.slice none 0 0) zs [] :=
  ⟨h, RdE.nil _ _ _, fun a n c e => by injection e with e1 e2 e3; omega⟩
theorem learn_makes (ks : List Int) (ts : List Tv) (t : Tv) (h : ts.length < 300) : canMk ks (learnTs ks ts t) t = true := by
  unfold learnTs
  cases hc : canMk ks ts t with
  | true => simp [hc]
  | false =>
    have h3 : (ts ++ [t]).take 300 = ts ++ [t] := List.take_of_length_le (by simp; omega)
    simp only [Bool.not_false, Bool.true_and, decide_eq_true h, if_true]
    unfold canMk
    rw [h3]
    simp

set_option linter.unusedSimpArgs false in
set_option linter.unusedVariables false in
set_option maxRecDepth 100000 in
set_option maxHeartbeats 16000000 in
theorem tags_tail (w5 w4 y9 w : World) (v : Value) (ka ta p1 p2 : Option Addr) (kc tc d1 d2 pg pc : Nat) (ks : List Int) (ts os : List Tv) (t : Tv) (x0 x1 x2 x3 b3 b5 b7 b8 b9 bi b10 : Nat) (m0 m1 X Y : Int) (hl1 : ks.length ≤ 3) (hl2 : ts.length ≤ 5) (hle : os.length ≤ ts.length + 1)
    (cLs : ∀ (u1 u2 : Value) (W : World), KnR W u1 u2 ks ts → Calls Try.prog 16 #[.agg #[u1, u2], .agg #[.int .i64 t.kind, .int .i64 t.one, .int .i64 t.two, .int .i64 t.a, .int .i64 t.b]] W fun e w' => ∃ a c b d, e = .returned (.agg #[.slice a ks.length c, .slice b os.length d]) ∧ KnO w' W.heap.size w'.heap.size (.slice a ks.length c) (.slice b os.length d) ks os ∧ Below W.heap.size W w')
    (cM : ∀ (u1 u2 : Value) (W : World), KnR W u1 u2 ks os → Calls Try.prog 17 #[.agg #[u1, u2], .agg #[.int .i64 t.kind, .int .i64 t.one, .int .i64 t.two, .int .i64 t.a, .int .i64 t.b]] W fun e w' => e = .returned (.bool true) ∧ Below W.heap.size W w')
    (cS : ∀ (u1 u2 u3 u4 : Value) (W : World), KnR W u1 u2 ks os → KnR W u3 u4 ks os → Calls Try.prog 15 #[.agg #[u1, u2], .agg #[u3, u4]] W fun e w' => e = .returned (.bool true) ∧ Below W.heap.size W w')
    (HD : Hid (∀ W, Below w5.heap.size w5 W → Below w4.heap.size w4 W ∧ (Below w.heap.size w W ∧ Cel W b3 27 #[.slice ka ks.length kc, .slice ta ts.length tc] ∧ Cel W (b3 + 1) 29 #[.int .i64 t.kind, .int .i64 t.one, .int .i64 t.two, .int .i64 t.a, .int .i64 t.b] ∧ KnR W (.slice ka ks.length kc) (.slice ta ts.length tc) ks ts) ∧ (Cel W b5 27 #[.slice p1 ks.length d1, .slice p2 os.length d2] ∧ KnR W (.slice p1 ks.length d1) (.slice p2 os.length d2) ks os) ∧ (W.cell? ⟨pg, 0, none⟩ = some (.int .i64 (x0 : Int)) ∧ W.cell? ⟨pg, 1, none⟩ = some (.int .i64 (x1 : Int)) ∧ W.cell? ⟨pg, 2, none⟩ = some (.int .i64 (x2 : Int)) ∧ W.cell? ⟨pg, 3, none⟩ = some (.int .i64 (x3 : Int)))))
    (hm0 : (x0 : Int).tmod 9 = m0) (eX : IntKind.i64.wrap (1 + m0) = X) (HXY : Hid ((1 ≤ X ∧ X ≤ 9 ∧ 20 ≤ Y ∧ Y ≤ 28) ∧ x2 < 10000 ∧ x3 < 10000)) (hF : Below w5.heap.size w5 y9 ∧ Cel y9 b7 29 #[.int .i64 1, .int .i64 X, .int .i64 Y, .int .i64 (x2 : Int), .int .i64 (x3 : Int)] ∧ Cel y9 b8 29 #[.int .i64 2, .int .i64 X, .int .i64 Y, .int .i64 (x2 : Int), .int .i64 (x3 : Int)] ∧ Cel y9 b9 29 #[.int .i64 1, .int .i64 Y, .int .i64 X, .int .i64 (x2 : Int), .int .i64 (x3 : Int)] ∧ Cel y9 b10 27 #[.slice (some ⟨bi, 0, none⟩) 2 2, .slice none 0 0] ∧ RdE intK y9 (.slice (some ⟨bi, 0, none⟩) 2 2) [X, Y]) :
    Code.wp Try.prog ((Code.region 10 #[{ dst := some 87, op := Op.move (Operand.tmp 6), type := 24, pos := "laws.go:591", after := #[], guard := none }, { dst := some 88, op := Op.indexAddr 24 (Operand.tmp 87) (Operand.const (Value.int IntKind.i64 0)), type := 0, pos := "laws.go:591", after := #[{ on := 0, ground := Ground.data }], guard := none }, { dst := some 89, op := Op.load 3 (Operand.tmp 88), type := 3, pos := "laws.go:591", after := #[{ on := 1, ground := Ground.data }], guard := none }, { dst := some 90, op := Op.binOp BinOp.rem 3 (Operand.tmp 89) (Operand.const (Value.int IntKind.i64 9)) 3, type := 3, pos := "laws.go:591", after := #[{ on := 2, ground := Ground.data }], guard := none }, { dst := some 91, op := Op.binOp BinOp.add 3 (Operand.const (Value.int IntKind.i64 1)) (Operand.tmp 90) 3, type := 3, pos := "laws.go:591", after := #[{ on := 3, ground := Ground.data }], guard := none }, { dst := some 92, op := Op.buildSlice 24 2 #[(0, Operand.tmp 91), (1, Operand.const (Value.int IntKind.i64 5000))], type := 24, pos := "laws.go:591", after := #[{ on := 4, ground := Ground.data }], guard := none }, { dst := some 93, op := Op.build 27 #[(0, Operand.tmp 92)], type := 27, pos := "laws.go:591", after := #[{ on := 5, ground := Ground.data }], guard := none }, { dst := some 11, op := Op.alloc 27, type := 0, pos := "laws.go:591", after := #[], guard := none }, { dst := none, op := Op.store 27 (Operand.tmp 11) (Operand.tmp 93), type := 0, pos := "laws.go:591", after := #[{ on := 7, ground := Ground.data }, { on := 6, ground := Ground.data }, { on := 0, ground := Ground.phase }, { on := 1, ground := Ground.phase }, { on := 2, ground := Ground.phase }, { on := 3, ground := Ground.phase }, { on := 4, ground := Ground.phase }, { on := 5, ground := Ground.phase }, { on := 6, ground := Ground.phase }, { on := 7, ground := Ground.phase }], guard := none }] false).seq ((Code.region 11 #[{ dst := some 94, op := Op.load 27 (Operand.tmp 5), type := 27, pos := "laws.go:592", after := #[], guard := none }, { dst := some 95, op := Op.load 27 (Operand.tmp 3), type := 27, pos := "laws.go:592", after := #[], guard := none }, { dst := some 96, op := Op.load 29 (Operand.tmp 4), type := 29, pos := "laws.go:592", after := #[], guard := none }, { dst := some 97, op := Op.call { callee := Callee.value (Operand.func 16), args := #[Operand.tmp 95, Operand.tmp 96], argTypes := #[27, 29] }, type := 27, pos := "laws.go:592", after := #[{ on := 1, ground := Ground.data }, { on := 2, ground := Ground.data }], guard := none }, { dst := some 98, op := Op.call { callee := Callee.value (Operand.func 15), args := #[Operand.tmp 94, Operand.tmp 97], argTypes := #[27, 27] }, type := 4, pos := "laws.go:592", after := #[{ on := 0, ground := Ground.data }, { on := 3, ground := Ground.data }, { on := 3, ground := Ground.chain }], guard := none }, { dst := some 99, op := Op.move (Operand.tmp 98), type := 4, pos := "laws.go:592", after := #[{ on := 4, ground := Ground.data }, { on := 4, ground := Ground.chain }], guard := none }, { dst := some 100, op := Op.load 27 (Operand.tmp 5), type := 27, pos := "laws.go:592", after := #[{ on := 5, ground := Ground.guard }], guard := some (5, true) }, { dst := some 101, op := Op.load 29 (Operand.tmp 4), type := 29, pos := "laws.go:592", after := #[{ on := 5, ground := Ground.guard }], guard := some (5, true) }, { dst := some 102, op := Op.call { callee := Callee.value (Operand.func 17), args := #[Operand.tmp 100, Operand.tmp 101], argTypes := #[27, 29] }, type := 4, pos := "laws.go:592", after := #[{ on := 6, ground := Ground.data }, { on := 7, ground := Ground.data }, { on := 5, ground := Ground.chain }, { on := 5, ground := Ground.guard }], guard := some (5, true) }, { dst := some 103, op := Op.pick (Operand.tmp 99) (Operand.tmp 102) (Operand.const (Value.bool false)), type := 4, pos := "laws.go:592", after := #[{ on := 5, ground := Ground.data }, { on := 8, ground := Ground.data }], guard := none }, { dst := some 104, op := Op.move (Operand.tmp 103), type := 4, pos := "laws.go:592", after := #[{ on := 9, ground := Ground.data }, { on := 8, ground := Ground.chain }], guard := none }, { dst := some 105, op := Op.load 29 (Operand.tmp 7), type := 29, pos := "laws.go:592", after := #[{ on := 10, ground := Ground.guard }], guard := some (10, true) }, { dst := some 106, op := Op.load 29 (Operand.tmp 8), type := 29, pos := "laws.go:592", after := #[{ on := 10, ground := Ground.guard }], guard := some (10, true) }, { dst := some 107, op := Op.binOp BinOp.neq 29 (Operand.tmp 105) (Operand.tmp 106) 29, type := 4, pos := "laws.go:592", after := #[{ on := 11, ground := Ground.data }, { on := 12, ground := Ground.data }, { on := 10, ground := Ground.guard }], guard := some (10, true) }, { dst := some 108, op := Op.pick (Operand.tmp 104) (Operand.tmp 107) (Operand.const (Value.bool false)), type := 4, pos := "laws.go:592", after := #[{ on := 10, ground := Ground.data }, { on := 13, ground := Ground.data }], guard := none }, { dst := some 109, op := Op.move (Operand.tmp 108), type := 4, pos := "laws.go:592", after := #[{ on := 14, ground := Ground.data }, { on := 10, ground := Ground.chain }], guard := none }, { dst := some 110, op := Op.load 29 (Operand.tmp 7), type := 29, pos := "laws.go:592", after := #[{ on := 15, ground := Ground.guard }], guard := some (15, true) }, { dst := some 111, op := Op.load 29 (Operand.tmp 9), type := 29, pos := "laws.go:592", after := #[{ on := 15, ground := Ground.guard }], guard := some (15, true) }, { dst := some 112, op := Op.binOp BinOp.neq 29 (Operand.tmp 110) (Operand.tmp 111) 29, type := 4, pos := "laws.go:592", after := #[{ on := 16, ground := Ground.data }, { on := 17, ground := Ground.data }, { on := 15, ground := Ground.guard }], guard := some (15, true) }, { dst := some 113, op := Op.pick (Operand.tmp 109) (Operand.tmp 112) (Operand.const (Value.bool false)), type := 4, pos := "laws.go:592", after := #[{ on := 15, ground := Ground.data }, { on := 18, ground := Ground.data }], guard := none }, { dst := some 114, op := Op.move (Operand.tmp 113), type := 4, pos := "laws.go:592", after := #[{ on := 19, ground := Ground.data }, { on := 15, ground := Ground.chain }], guard := none }, { dst := some 115, op := Op.load 27 (Operand.tmp 10), type := 27, pos := "laws.go:592", after := #[{ on := 20, ground := Ground.guard }], guard := some (20, true) }, { dst := some 116, op := Op.load 29 (Operand.tmp 7), type := 29, pos := "laws.go:592", after := #[{ on := 20, ground := Ground.guard }], guard := some (20, true) }, { dst := some 117, op := Op.call { callee := Callee.value (Operand.func 17), args := #[Operand.tmp 115, Operand.tmp 116], argTypes := #[27, 29] }, type := 4, pos := "laws.go:592", after := #[{ on := 21, ground := Ground.data }, { on := 22, ground := Ground.data }, { on := 20, ground := Ground.chain }, { on := 20, ground := Ground.guard }], guard := some (20, true) }, { dst := some 118, op := Op.pick (Operand.tmp 114) (Operand.tmp 117) (Operand.const (Value.bool false)), type := 4, pos := "laws.go:592", after := #[{ on := 20, ground := Ground.data }, { on := 23, ground := Ground.data }], guard := none }, { dst := some 119, op := Op.move (Operand.tmp 118), type := 4, pos := "laws.go:592", after := #[{ on := 24, ground := Ground.data }, { on := 23, ground := Ground.chain }], guard := none }, { dst := some 120, op := Op.load 27 (Operand.tmp 10), type := 27, pos := "laws.go:592", after := #[{ on := 25, ground := Ground.guard }], guard := some (25, true) }, { dst := some 121, op := Op.load 29 (Operand.tmp 9), type := 29, pos := "laws.go:592", after := #[{ on := 25, ground := Ground.guard }], guard := some (25, true) }, { dst := some 122, op := Op.call { callee := Callee.value (Operand.func 17), args := #[Operand.tmp 120, Operand.tmp 121], argTypes := #[27, 29] }, type := 4, pos := "laws.go:592", after := #[{ on := 26, ground := Ground.data }, { on := 27, ground := Ground.data }, { on := 25, ground := Ground.chain }, { on := 25, ground := Ground.guard }], guard := some (25, true) }, { dst := some 123, op := Op.pick (Operand.tmp 119) (Operand.tmp 122) (Operand.const (Value.bool false)), type := 4, pos := "laws.go:592", after := #[{ on := 25, ground := Ground.data }, { on := 28, ground := Ground.data }], guard := none }, { dst := some 124, op := Op.move (Operand.tmp 123), type := 4, pos := "laws.go:592", after := #[{ on := 29, ground := Ground.data }, { on := 28, ground := Ground.chain }], guard := none }, { dst := some 125, op := Op.load 27 (Operand.tmp 11), type := 27, pos := "laws.go:592", after := #[{ on := 30, ground := Ground.guard }], guard := some (30, true) }, { dst := some 126, op := Op.load 29 (Operand.tmp 7), type := 29, pos := "laws.go:592", after := #[{ on := 30, ground := Ground.guard }], guard := some (30, true) }, { dst := some 127, op := Op.call { callee := Callee.value (Operand.func 17), args := #[Operand.tmp 125, Operand.tmp 126], argTypes := #[27, 29] }, type := 4, pos := "laws.go:592", after := #[{ on := 31, ground := Ground.data }, { on := 32, ground := Ground.data }, { on := 30, ground := Ground.chain }, { on := 30, ground := Ground.guard }], guard := some (30, true) }, { dst := some 128, op := Op.unOp UnOp.not 4 (Operand.tmp 127), type := 4, pos := "laws.go:592", after := #[{ on := 33, ground := Ground.data }, { on := 30, ground := Ground.guard }], guard := some (30, true) }, { dst := some 129, op := Op.pick (Operand.tmp 124) (Operand.tmp 128) (Operand.const (Value.bool false)), type := 4, pos := "laws.go:592", after := #[{ on := 30, ground := Ground.data }, { on := 34, ground := Ground.data }], guard := none }, { dst := some 130, op := Op.move (Operand.tmp 129), type := 4, pos := "laws.go:592", after := #[{ on := 35, ground := Ground.data }, { on := 33, ground := Ground.chain }], guard := none }, { dst := some 131, op := Op.load 27 (Operand.tmp 11), type := 27, pos := "laws.go:592", after := #[{ on := 36, ground := Ground.guard }], guard := some (36, true) }, { dst := some 132, op := Op.load 29 (Operand.tmp 7), type := 29, pos := "laws.go:592", after := #[{ on := 36, ground := Ground.guard }], guard := some (36, true) }, { dst := some 133, op := Op.call { callee := Callee.value (Operand.func 11), args := #[Operand.tmp 131, Operand.tmp 132], argTypes := #[27, 29] }, type := 27, pos := "laws.go:592", after := #[{ on := 37, ground := Ground.data }, { on := 38, ground := Ground.data }, { on := 36, ground := Ground.chain }, { on := 36, ground := Ground.guard }], guard := some (36, true) }, { dst := some 134, op := Op.load 29 (Operand.tmp 7), type := 29, pos := "laws.go:592", after := #[{ on := 36, ground := Ground.guard }], guard := some (36, true) }, { dst := some 135, op := Op.call { callee := Callee.value (Operand.func 17), args := #[Operand.tmp 133, Operand.tmp 134], argTypes := #[27, 29] }, type := 4, pos := "laws.go:592", after := #[{ on := 39, ground := Ground.data }, { on := 40, ground := Ground.data }, { on := 39, ground := Ground.chain }, { on := 36, ground := Ground.guard }], guard := some (36, true) }, { dst := some 136, op := Op.pick (Operand.tmp 130) (Operand.tmp 135) (Operand.const (Value.bool false)), type := 4, pos := "laws.go:592", after := #[{ on := 36, ground := Ground.data }, { on := 41, ground := Ground.data }], guard := none }, { dst := some 137, op := Op.move (Operand.tmp 136), type := 4, pos := "laws.go:592", after := #[{ on := 42, ground := Ground.data }, { on := 41, ground := Ground.chain }], guard := none }, { dst := some 138, op := Op.call { callee := Callee.value (Operand.func 18), args := #[Operand.const (Value.int IntKind.i64 1), Operand.const (Value.int IntKind.i64 2), Operand.const (Value.int IntKind.i64 3), Operand.const (Value.int IntKind.i64 4)], argTypes := #[3, 3, 3, 3] }, type := 29, pos := "laws.go:592", after := #[{ on := 43, ground := Ground.chain }, { on := 43, ground := Ground.guard }], guard := some (43, true) }, { dst := some 139, op := Op.call { callee := Callee.value (Operand.func 19), args := #[Operand.const (Value.int IntKind.i64 1), Operand.const (Value.int IntKind.i64 2), Operand.const (Value.int IntKind.i64 3), Operand.const (Value.int IntKind.i64 4)], argTypes := #[3, 3, 3, 3] }, type := 29, pos := "laws.go:592", after := #[{ on := 44, ground := Ground.chain }, { on := 43, ground := Ground.guard }], guard := some (43, true) }, { dst := some 140, op := Op.binOp BinOp.eql 29 (Operand.tmp 138) (Operand.tmp 139) 29, type := 4, pos := "laws.go:592", after := #[{ on := 44, ground := Ground.data }, { on := 45, ground := Ground.data }, { on := 43, ground := Ground.guard }], guard := some (43, true) }, { dst := some 141, op := Op.pick (Operand.tmp 137) (Operand.tmp 140) (Operand.const (Value.bool false)), type := 4, pos := "laws.go:592", after := #[{ on := 43, ground := Ground.data }, { on := 46, ground := Ground.data }], guard := none }, { dst := some 2, op := Op.assign (Operand.tmp 141), type := 4, pos := "laws.go:592", after := #[{ on := 47, ground := Ground.data }, { on := 45, ground := Ground.chain }, { on := 0, ground := Ground.phase }, { on := 1, ground := Ground.phase }, { on := 2, ground := Ground.phase }, { on := 3, ground := Ground.phase }, { on := 4, ground := Ground.phase }, { on := 5, ground := Ground.phase }, { on := 6, ground := Ground.phase }, { on := 7, ground := Ground.phase }, { on := 8, ground := Ground.phase }, { on := 9, ground := Ground.phase }, { on := 10, ground := Ground.phase }, { on := 11, ground := Ground.phase }, { on := 12, ground := Ground.phase }, { on := 13, ground := Ground.phase }, { on := 14, ground := Ground.phase }, { on := 15, ground := Ground.phase }, { on := 16, ground := Ground.phase }, { on := 17, ground := Ground.phase }, { on := 18, ground := Ground.phase }, { on := 19, ground := Ground.phase }, { on := 20, ground := Ground.phase }, { on := 21, ground := Ground.phase }, { on := 22, ground := Ground.phase }, { on := 23, ground := Ground.phase }, { on := 24, ground := Ground.phase }, { on := 25, ground := Ground.phase }, { on := 26, ground := Ground.phase }, { on := 27, ground := Ground.phase }, { on := 28, ground := Ground.phase }, { on := 29, ground := Ground.phase }, { on := 30, ground := Ground.phase }, { on := 31, ground := Ground.phase }, { on := 32, ground := Ground.phase }, { on := 33, ground := Ground.phase }, { on := 34, ground := Ground.phase }, { on := 35, ground := Ground.phase }, { on := 36, ground := Ground.phase }, { on := 37, ground := Ground.phase }, { on := 38, ground := Ground.phase }, { on := 39, ground := Ground.phase }, { on := 40, ground := Ground.phase }, { on := 41, ground := Ground.phase }, { on := 42, ground := Ground.phase }, { on := 43, ground := Ground.phase }, { on := 44, ground := Ground.phase }, { on := 45, ground := Ground.phase }, { on := 46, ground := Ground.phase }, { on := 47, ground := Ground.phase }], guard := none }] true).seq Code.ret)) (bodyPost Try.prog Try.f3 fun e w' => e = .returned (.bool true) ∧ Below w.heap.size w w') { tmps := #[v, undef, .bool false, .pointer (some ⟨b3, 0, none⟩), .pointer (some ⟨b3 + 1, 0, none⟩), .pointer (some ⟨b5, 0, none⟩), .slice (some ⟨pg, 0, none⟩) 12 pc, .pointer (some ⟨b7, 0, none⟩), .pointer (some ⟨b8, 0, none⟩), .pointer (some ⟨b9, 0, none⟩), .pointer (some ⟨b10, 0, none⟩), undef, v, .bool false, .tuple #[.agg #[.slice ka ks.length kc, .slice ta ts.length tc], .agg #[.int .i64 t.kind, .int .i64 t.one, .int .i64 t.two, .int .i64 t.a, .int .i64 t.b]], v, .tuple #[.agg #[.slice ka ks.length kc, .slice ta ts.length tc], .agg #[.int .i64 t.kind, .int .i64 t.one, .int .i64 t.two, .int .i64 t.a, .int .i64 t.b]], .agg #[.slice ka ks.length kc, .slice ta ts.length tc], .agg #[.int .i64 t.kind, .int .i64 t.one, .int .i64 t.two, .int .i64 t.a, .int .i64 t.b], .agg #[.slice ka ks.length kc, .slice ta ts.length tc], .agg #[.int .i64 t.kind, .int .i64 t.one, .int .i64 t.two, .int .i64 t.a, .int .i64 t.b], .agg #[.slice p1 ks.length d1, .slice p2 os.length d2], v, .slice (some ⟨pg, 0, none⟩) 12 pc, .slice (some ⟨pg, 0, none⟩) 12 pc, .pointer (some ⟨pg, 0, none⟩), .int .i64 (x0 : Int), .int .i64 m0, .int .i64 X, .slice (some ⟨pg, 0, none⟩) 12 pc, .pointer (some ⟨pg, 1, none⟩), .int .i64 (x1 : Int), .int .i64 m1, .int .i64 Y, .slice (some ⟨pg, 0, none⟩) 12 pc, .pointer (some ⟨pg, 2, none⟩), .int .i64 (x2 : Int), .slice (some ⟨pg, 0, none⟩) 12 pc, .pointer (some ⟨pg, 3, none⟩), .int .i64 (x3 : Int), .agg #[.int .i64 1, .int .i64 X, .int .i64 Y, .int .i64 (x2 : Int), .int .i64 (x3 : Int)], .slice (some ⟨pg, 0, none⟩) 12 pc, .pointer (some ⟨pg, 0, none⟩), .int .i64 (x0 : Int), .int .i64 m0, .int .i64 X, .slice (some ⟨pg, 0, none⟩) 12 pc, .pointer (some ⟨pg, 1, none⟩), .int .i64 (x1 : Int), .int .i64 m1, .int .i64 Y, .slice (some ⟨pg, 0, none⟩) 12 pc, .pointer (some ⟨pg, 2, none⟩), .int .i64 (x2 : Int), .slice (some ⟨pg, 0, none⟩) 12 pc, .pointer (some ⟨pg, 3, none⟩), .int .i64 (x3 : Int), .agg #[.int .i64 2, .int .i64 X, .int .i64 Y, .int .i64 (x2 : Int), .int .i64 (x3 : Int)], .slice (some ⟨pg, 0, none⟩) 12 pc, .pointer (some ⟨pg, 1, none⟩), .int .i64 (x1 : Int), .int .i64 m1, .int .i64 Y, .slice (some ⟨pg, 0, none⟩) 12 pc, .pointer (some ⟨pg, 0, none⟩), .int .i64 (x0 : Int), .int .i64 m0, .int .i64 X, .slice (some ⟨pg, 0, none⟩) 12 pc, .pointer (some ⟨pg, 2, none⟩), .int .i64 (x2 : Int), .slice (some ⟨pg, 0, none⟩) 12 pc, .pointer (some ⟨pg, 3, none⟩), .int .i64 (x3 : Int), .agg #[.int .i64 1, .int .i64 Y, .int .i64 X, .int .i64 (x2 : Int), .int .i64 (x3 : Int)], .slice (some ⟨pg, 0, none⟩) 12 pc, .pointer (some ⟨pg, 0, none⟩), .int .i64 (x0 : Int), .int .i64 m0, .int .i64 X, .slice (some ⟨pg, 0, none⟩) 12 pc, .pointer (some ⟨pg, 1, none⟩), .int .i64 (x1 : Int), .int .i64 m1, .int .i64 Y, .slice (some ⟨bi, 0, none⟩) 2 2, .agg #[.slice (some ⟨bi, 0, none⟩) 2 2, .slice none 0 0], undef, undef, undef, undef, undef, undef, undef, undef, undef, undef, undef, undef, undef, undef, undef, undef, undef, undef, undef, undef, undef, undef, undef, undef, undef, undef, undef, undef, undef, undef, undef, undef, undef, undef, undef, undef, undef, undef, undef, undef, undef, undef, undef, undef, undef, undef, undef, undef, undef, undef, undef, undef, undef, undef, undef], defers := [] } y9 := by
  have hb9 : Below y9.heap.size y9 ((y9.alloc (.cells #[.int .i64 X, .int .i64 5000] 3)).alloc (.cells #[.slice (some ⟨y9.heap.size, 0, none⟩) 2 2, .slice none 0 0] 27)) := Below.then_ (below_new _ _) (below_new _ _)
  have hi9 := (own_two y9 X 5000).rd.below (below_new (y9.alloc (.cells #[.int .i64 X, .int .i64 5000] 3)) (.cells #[.slice (some ⟨y9.heap.size, 0, none⟩) 2 2, .slice none 0 0] 27))
  have hc9 := Cel.new (y9.alloc (.cells #[.int .i64 X, .int .i64 5000] 3)) 27 #[.slice (some ⟨y9.heap.size, 0, none⟩) 2 2, .slice none 0 0]
  rw [World.size_alloc] at hc9
  obtain ⟨-, -, -, g0, g1, g2, g3⟩ := HD.out _ hF.1
  have HF := Lib.hid hF
  clear hF
  go_upto_region 11 with (fail)
  clear g0 g1 g2 g3
  generalize (y9.alloc (.cells #[.int .i64 X, .int .i64 5000] 3)).alloc (.cells #[.slice (some ⟨y9.heap.size, 0, none⟩) 2 2, .slice none 0 0] 27) = y10 at *
  obtain ⟨zs9, hzs9⟩ : ∃ zs9 : List Int, [X, 5000] = zs9 := ⟨_, rfl⟩
  rw [hzs9] at hi9
  have HZ := Lib.hid (show ∀ V, Below y10.heap.size y10 V → Below w5.heap.size w5 V ∧ Cel V b7 29 #[.int .i64 1, .int .i64 X, .int .i64 Y, .int .i64 (x2 : Int), .int .i64 (x3 : Int)] ∧ Cel V b8 29 #[.int .i64 2, .int .i64 X, .int .i64 Y, .int .i64 (x2 : Int), .int .i64 (x3 : Int)] ∧ Cel V b9 29 #[.int .i64 1, .int .i64 Y, .int .i64 X, .int .i64 (x2 : Int), .int .i64 (x3 : Int)] ∧ Cel V b10 27 #[.slice (some ⟨bi, 0, none⟩) 2 2, .slice none 0 0] ∧ RdE intK V (.slice (some ⟨bi, 0, none⟩) 2 2) [X, Y] ∧ Cel V (y9.heap.size + 1) 27 #[.slice (some ⟨y9.heap.size, 0, none⟩) 2 2, .slice none 0 0] ∧ RdE intK V (.slice (some ⟨y9.heap.size, 0, none⟩) 2 2) zs9 from fun V h => by
    have hb := Below.then_ hb9 h
    obtain ⟨e0, e1, e2, e3, e4, e5⟩ := HF.out
    exact ⟨Below.then_ e0 hb, e1.kept hb, e2.kept hb, e3.kept hb, e4.kept hb, e5.below hb, hc9.kept h, hi9.below h⟩)
  clear hb9 hi9 hc9 HF
  generalize y9.heap.size = bh at *
  have hwX : IntW X := intW_small X (by have := HXY.out; omega) (by have := HXY.out; omega)
  have hwY : IntW Y := intW_small Y (by have := HXY.out; omega) (by have := HXY.out; omega)
  have hw2 : IntW (x2 : Int) := intW_small (x2 : Int) (by omega) (by have := HXY.out; omega)
  have hw3 : IntW (x3 : Int) := intW_small (x3 : Int) (by omega) (by have := HXY.out; omega)
  have h1w : IntW 1 := intW_small 1 (by omega) (by omega)
  have hwB : TvW (⟨1, X, Y, (x2 : Int), (x3 : Int)⟩ : Tv) := ⟨h1w, hwX, hwY, hw2, hw3⟩
  have hwO : TvW (⟨1, Y, X, (x2 : Int), (x3 : Int)⟩ : Tv) := ⟨h1w, hwY, hwX, hw2, hw3⟩
  have hk1 : KnW [X, Y] [] := ⟨fun z hz => by
    rcases mem_two hz with rfl | rfl <;> assumption, fun z hz => (by cases hz)⟩
  have hk2 : KnW zs9 [] := ⟨fun z hz => by
    rw [← hzs9] at hz
    rcases mem_two hz with rfl | rfl
    · exact hwX
    · exact intW_small 5000 (by omega) (by omega), fun z hz => (by cases hz)⟩
  have hlz : zs9.length = 2 := by rw [← hzs9]; rfl
  have hm1 : canMk [X, Y] [] (⟨1, X, Y, (x2 : Int), (x3 : Int)⟩ : Tv) = true := by simp [canMk]
  have hm2 : canMk [X, Y] [] (⟨1, Y, X, (x2 : Int), (x3 : Int)⟩ : Tv) = true := by simp [canMk]
  have hm3 : canMk zs9 [] (⟨1, X, Y, (x2 : Int), (x3 : Int)⟩ : Tv) = false := by
    have := HXY.out
    rw [← hzs9]
    simp only [canMk, Tv.zero, Tv.mk.injEq, List.take_nil, List.not_mem_nil, List.mem_cons, or_false]
    have n1 : ¬ (Y = X ∨ Y = 5000) := by omega
    simp [n1]
  obtain ⟨L9, hL9⟩ : ∃ L9, learnTs zs9 [] (⟨1, X, Y, (x2 : Int), (x3 : Int)⟩ : Tv) = L9 := ⟨_, rfl⟩
  have hm4 := learn_makes zs9 [] (⟨1, X, Y, (x2 : Int), (x3 : Int)⟩ : Tv) (by simp)
  have hlL := learn_len zs9 [] (⟨1, X, Y, (x2 : Int), (x3 : Int)⟩ : Tv)
  have hk4 := learn_wf hk2 hwB
  rw [hL9] at hm4 hlL hk4
  simp only [List.length_nil] at hlL
  have cB := fun u1 W (h : RdE intK W u1 [X, Y]) => impl_canMake u1 (.slice none 0 0) [X, Y] [] (⟨1, X, Y, (x2 : Int), (x3 : Int)⟩ : Tv) W (kn_keys h) (by simp) (by simp) hk1 hwB
  have cO := fun u1 W (h : RdE intK W u1 [X, Y]) => impl_canMake u1 (.slice none 0 0) [X, Y] [] (⟨1, Y, X, (x2 : Int), (x3 : Int)⟩ : Tv) W (kn_keys h) (by simp) (by simp) hk1 hwO
  have cH := fun u1 W (h : RdE intK W u1 zs9) => impl_canMake u1 (.slice none 0 0) zs9 [] (⟨1, X, Y, (x2 : Int), (x3 : Int)⟩ : Tv) W (kn_keys h) (by omega) (by simp) hk2 hwB
  have cLh := fun u1 W (h : RdE intK W u1 zs9) => impl_learn u1 (.slice none 0 0) zs9 [] (⟨1, X, Y, (x2 : Int), (x3 : Int)⟩ : Tv) W (kn_keys h) (by omega) (by simp) hk2 hwB
  have cF := fun u1 u2 W (h : KnR W u1 u2 zs9 L9) => impl_canMake u1 u2 zs9 L9 (⟨1, X, Y, (x2 : Int), (x3 : Int)⟩ : Tv) W h (by omega) (by omega) hk4 hwB
  rw [hm1] at cB
  rw [hm2] at cO
  rw [hm3] at cH
  rw [hL9] at cLh
  rw [hm4] at cF
  have hn1 := fun W => neq_tv (⟨1, X, Y, (x2 : Int), (x3 : Int)⟩ : Tv) (⟨2, X, Y, (x2 : Int), (x3 : Int)⟩ : Tv) W true (by simp)
  have hn2 := fun W => neq_tv (⟨1, X, Y, (x2 : Int), (x3 : Int)⟩ : Tv) (⟨1, Y, X, (x2 : Int), (x3 : Int)⟩ : Tv) W true (by have := HXY.out; simp only [Tv.mk.injEq, true_iff]; omega)
  have hn3 := fun W => eql_tv ⟨3, 1, 2, 3, 4⟩ ⟨3, 1, 2, 3, 4⟩ W true (by simp)
  dsimp only at cB cO cH cLh cF hn1 hn2 hn3
  clear hm1 hm2 hm3 hm4 hL9 hzs9 hk1 hk2 hk4 hwX hwY hw2 hw3 h1w hwB hwO hlz hlL
  have hS : Below y10.heap.size y10 y10.drew := (Below.refl _ _).drew
  refine wp_region_held_drew (S := fun W => Below y10.heap.size y10 W) (by kernel_rfl) hS (fun hHeld => ?_)
  clear hS
  generalize y10.drew = wd11 at *
  refine take_yes (i := 0) (oi := { dst := some 94, op := Op.load 27 (Operand.tmp 5), type := 27, pos := "laws.go:592", after := #[], guard := none }) (v := .agg #[.slice p1 ks.length d1, .slice p2 os.length d2]) rfl (by kernel_rfl) (by kernel_rfl) (by kernel_rfl) (fun _ _ _ h => h) (by rfl) (fun w hSw => by (try dsimp only at hSw); obtain ⟨e0, e7, e8, e9, e10, ei, e11, eh⟩ := HZ.out _ hSw; obtain ⟨-, ⟨-, k3, k4, -⟩, ⟨k5, -⟩, -⟩ := HD.out _ e0; obtain ⟨c0, c1⟩ := cel2k k5; clear e0 e7 e8 e9 e10 ei e11 eh k3 k4 k5; go_simp) (by assumption) ?_
  try simp only [Act.put, List.setIfInBounds_toArray, List.set_cons_zero, List.set_cons_succ]
  refine take_yes (i := 1) (oi := { dst := some 95, op := Op.load 27 (Operand.tmp 3), type := 27, pos := "laws.go:592", after := #[], guard := none }) (v := .agg #[.slice ka ks.length kc, .slice ta ts.length tc]) rfl (by kernel_rfl) (by kernel_rfl) (by kernel_rfl) (fun _ _ _ h => h) (by rfl) (fun w hSw => by (try dsimp only at hSw); obtain ⟨e0, e7, e8, e9, e10, ei, e11, eh⟩ := HZ.out _ hSw; obtain ⟨-, ⟨-, k3, k4, -⟩, ⟨k5, -⟩, -⟩ := HD.out _ e0; obtain ⟨c0, c1⟩ := cel2k k3; clear e0 e7 e8 e9 e10 ei e11 eh k3 k4 k5; go_simp) (by assumption) ?_
  try simp only [Act.put, List.setIfInBounds_toArray, List.set_cons_zero, List.set_cons_succ]
  refine take_yes (i := 2) (oi := { dst := some 96, op := Op.load 29 (Operand.tmp 4), type := 29, pos := "laws.go:592", after := #[], guard := none }) (v := .agg #[.int .i64 t.kind, .int .i64 t.one, .int .i64 t.two, .int .i64 t.a, .int .i64 t.b]) rfl (by kernel_rfl) (by kernel_rfl) (by kernel_rfl) (fun _ _ _ h => h) (by rfl) (fun w hSw => by (try dsimp only at hSw); obtain ⟨e0, e7, e8, e9, e10, ei, e11, eh⟩ := HZ.out _ hSw; obtain ⟨-, ⟨-, k3, k4, -⟩, ⟨k5, -⟩, -⟩ := HD.out _ e0; obtain ⟨c0, c1, c2, c3, c4⟩ := cel5tv k4; clear e0 e7 e8 e9 e10 ei e11 eh k3 k4 k5; go_simp) (by assumption) ?_
  try simp only [Act.put, List.setIfInBounds_toArray, List.set_cons_zero, List.set_cons_succ]
  refine wpAnyH_ready (rs := [3]) (by kernel_rfl) (by simp) ?_
  refine AllReadyH.cons (o := { dst := some 97, op := Op.call { callee := Callee.value (Operand.func 16), args := #[Operand.tmp 95, Operand.tmp 96], argTypes := #[27, 29] }, type := 27, pos := "laws.go:592", after := #[{ on := 1, ground := Ground.data }, { on := 2, ground := Ground.data }], guard := none }) rfl (fun K hK => ?_) AllReadyH.nil
  go_simp
  obtain ⟨e0, -, -, -, -, ei, -, eh⟩ := HZ.out _ hHeld
  obtain ⟨-, ⟨-, -, -, kR⟩, ⟨-, kO⟩, -⟩ := HD.out _ e0
  with_reducible refine (cLs _ _ _ kR).mono ?_
  rintro e wC74 ⟨q1, r1, q2, r2, rfl, oS, bC⟩
  have KC75 := Below.then_ hHeld bC
  clear bC e0 ei eh kR kO
  refine hK.out _ _ KC75 (fun hHeldN => ?_)
  clear hK K hHeld
  have hHeld := hHeldN
  clear hHeldN
  try simp only [Act.put, List.setIfInBounds_toArray, List.set_cons_zero, List.set_cons_succ]
  refine wpAnyH_ready (rs := [4]) (by kernel_rfl) (by simp) ?_
  refine AllReadyH.cons (o := { dst := some 98, op := Op.call { callee := Callee.value (Operand.func 15), args := #[Operand.tmp 94, Operand.tmp 97], argTypes := #[27, 27] }, type := 4, pos := "laws.go:592", after := #[{ on := 0, ground := Ground.data }, { on := 3, ground := Ground.data }, { on := 3, ground := Ground.chain }], guard := none }) rfl (fun K hK => ?_) AllReadyH.nil
  go_simp
  obtain ⟨e0, -, -, -, -, ei, -, eh⟩ := HZ.out _ hHeld
  obtain ⟨-, ⟨-, -, -, kR⟩, ⟨-, kO⟩, -⟩ := HD.out _ e0
  with_reducible refine (cS _ _ _ _ _ kO (oS.rd)).mono ?_
  rintro e wC76 ⟨rfl, bC⟩
  have KC77 := Below.then_ hHeld bC
  clear bC e0 ei eh kR kO oS
  refine hK.out _ _ KC77 (fun hHeldN => ?_)
  clear hK K hHeld
  have hHeld := hHeldN
  clear hHeldN
  try simp only [Act.put, List.setIfInBounds_toArray, List.set_cons_zero, List.set_cons_succ]
  refine take_yes (i := 5) (oi := { dst := some 99, op := Op.move (Operand.tmp 98), type := 4, pos := "laws.go:592", after := #[{ on := 4, ground := Ground.data }, { on := 4, ground := Ground.chain }], guard := none }) (v := .bool true) rfl (by kernel_rfl) (by kernel_rfl) (by kernel_rfl) (fun _ _ _ h => h) (by rfl) (fun w hSw => by (try dsimp only at hSw); go_simp) (by assumption) ?_
  try simp only [Act.put, List.setIfInBounds_toArray, List.set_cons_zero, List.set_cons_succ]
  refine take_yes (i := 6) (oi := { dst := some 100, op := Op.load 27 (Operand.tmp 5), type := 27, pos := "laws.go:592", after := #[{ on := 5, ground := Ground.guard }], guard := some (5, true) }) (v := .agg #[.slice p1 ks.length d1, .slice p2 os.length d2]) rfl (by kernel_rfl) (by kernel_rfl) (by kernel_rfl) (fun _ _ _ h => h) (by rfl) (fun w hSw => by (try dsimp only at hSw); obtain ⟨e0, e7, e8, e9, e10, ei, e11, eh⟩ := HZ.out _ hSw; obtain ⟨-, ⟨-, k3, k4, -⟩, ⟨k5, -⟩, -⟩ := HD.out _ e0; obtain ⟨c0, c1⟩ := cel2k k5; clear e0 e7 e8 e9 e10 ei e11 eh k3 k4 k5; go_simp) (by assumption) ?_
  try simp only [Act.put, List.setIfInBounds_toArray, List.set_cons_zero, List.set_cons_succ]
  refine take_yes (i := 7) (oi := { dst := some 101, op := Op.load 29 (Operand.tmp 4), type := 29, pos := "laws.go:592", after := #[{ on := 5, ground := Ground.guard }], guard := some (5, true) }) (v := .agg #[.int .i64 t.kind, .int .i64 t.one, .int .i64 t.two, .int .i64 t.a, .int .i64 t.b]) rfl (by kernel_rfl) (by kernel_rfl) (by kernel_rfl) (fun _ _ _ h => h) (by rfl) (fun w hSw => by (try dsimp only at hSw); obtain ⟨e0, e7, e8, e9, e10, ei, e11, eh⟩ := HZ.out _ hSw; obtain ⟨-, ⟨-, k3, k4, -⟩, ⟨k5, -⟩, -⟩ := HD.out _ e0; obtain ⟨c0, c1, c2, c3, c4⟩ := cel5tv k4; clear e0 e7 e8 e9 e10 ei e11 eh k3 k4 k5; go_simp) (by assumption) ?_
  try simp only [Act.put, List.setIfInBounds_toArray, List.set_cons_zero, List.set_cons_succ]
  refine wpAnyH_ready (rs := [8]) (by kernel_rfl) (by simp) ?_
  refine AllReadyH.cons (o := { dst := some 102, op := Op.call { callee := Callee.value (Operand.func 17), args := #[Operand.tmp 100, Operand.tmp 101], argTypes := #[27, 29] }, type := 4, pos := "laws.go:592", after := #[{ on := 6, ground := Ground.data }, { on := 7, ground := Ground.data }, { on := 5, ground := Ground.chain }, { on := 5, ground := Ground.guard }], guard := some (5, true) }) rfl (fun K hK => ?_) AllReadyH.nil
  go_simp
  obtain ⟨e0, -, -, -, -, ei, -, eh⟩ := HZ.out _ hHeld
  obtain ⟨-, ⟨-, -, -, kR⟩, ⟨-, kO⟩, -⟩ := HD.out _ e0
  with_reducible refine (cM _ _ _ kO).mono ?_
  rintro e wC78 ⟨rfl, bC⟩
  have KC79 := Below.then_ hHeld bC
  clear bC e0 ei eh kR kO
  refine hK.out _ _ KC79 (fun hHeldN => ?_)
  clear hK K hHeld
  have hHeld := hHeldN
  clear hHeldN
  try simp only [Act.put, List.setIfInBounds_toArray, List.set_cons_zero, List.set_cons_succ]
  refine take_yes (i := 9) (oi := { dst := some 103, op := Op.pick (Operand.tmp 99) (Operand.tmp 102) (Operand.const (Value.bool false)), type := 4, pos := "laws.go:592", after := #[{ on := 5, ground := Ground.data }, { on := 8, ground := Ground.data }], guard := none }) (v := .bool true) rfl (by kernel_rfl) (by kernel_rfl) (by kernel_rfl) (fun _ _ _ h => h) (by rfl) (fun w hSw => by (try dsimp only at hSw); go_simp) (by assumption) ?_
  try simp only [Act.put, List.setIfInBounds_toArray, List.set_cons_zero, List.set_cons_succ]
  refine take_yes (i := 10) (oi := { dst := some 104, op := Op.move (Operand.tmp 103), type := 4, pos := "laws.go:592", after := #[{ on := 9, ground := Ground.data }, { on := 8, ground := Ground.chain }], guard := none }) (v := .bool true) rfl (by kernel_rfl) (by kernel_rfl) (by kernel_rfl) (fun _ _ _ h => h) (by rfl) (fun w hSw => by (try dsimp only at hSw); go_simp) (by assumption) ?_
  try simp only [Act.put, List.setIfInBounds_toArray, List.set_cons_zero, List.set_cons_succ]
  refine take_yes (i := 11) (oi := { dst := some 105, op := Op.load 29 (Operand.tmp 7), type := 29, pos := "laws.go:592", after := #[{ on := 10, ground := Ground.guard }], guard := some (10, true) }) (v := .agg #[.int .i64 1, .int .i64 X, .int .i64 Y, .int .i64 (x2 : Int), .int .i64 (x3 : Int)]) rfl (by kernel_rfl) (by kernel_rfl) (by kernel_rfl) (fun _ _ _ h => h) (by rfl) (fun w hSw => by (try dsimp only at hSw); obtain ⟨e0, e7, e8, e9, e10, ei, e11, eh⟩ := HZ.out _ hSw; obtain ⟨-, ⟨-, k3, k4, -⟩, ⟨k5, -⟩, -⟩ := HD.out _ e0; obtain ⟨c0, c1, c2, c3, c4⟩ := cel5tv e7; clear e0 e7 e8 e9 e10 ei e11 eh k3 k4 k5; go_simp) (by assumption) ?_
  try simp only [Act.put, List.setIfInBounds_toArray, List.set_cons_zero, List.set_cons_succ]
  refine take_yes (i := 12) (oi := { dst := some 106, op := Op.load 29 (Operand.tmp 8), type := 29, pos := "laws.go:592", after := #[{ on := 10, ground := Ground.guard }], guard := some (10, true) }) (v := .agg #[.int .i64 2, .int .i64 X, .int .i64 Y, .int .i64 (x2 : Int), .int .i64 (x3 : Int)]) rfl (by kernel_rfl) (by kernel_rfl) (by kernel_rfl) (fun _ _ _ h => h) (by rfl) (fun w hSw => by (try dsimp only at hSw); obtain ⟨e0, e7, e8, e9, e10, ei, e11, eh⟩ := HZ.out _ hSw; obtain ⟨-, ⟨-, k3, k4, -⟩, ⟨k5, -⟩, -⟩ := HD.out _ e0; obtain ⟨c0, c1, c2, c3, c4⟩ := cel5tv e8; clear e0 e7 e8 e9 e10 ei e11 eh k3 k4 k5; go_simp) (by assumption) ?_
  try simp only [Act.put, List.setIfInBounds_toArray, List.set_cons_zero, List.set_cons_succ]
  refine take_yes (i := 13) (oi := { dst := some 107, op := Op.binOp BinOp.neq 29 (Operand.tmp 105) (Operand.tmp 106) 29, type := 4, pos := "laws.go:592", after := #[{ on := 11, ground := Ground.data }, { on := 12, ground := Ground.data }, { on := 10, ground := Ground.guard }], guard := some (10, true) }) (v := .bool true) rfl (by kernel_rfl) (by kernel_rfl) (by kernel_rfl) (fun _ _ _ h => h) (by rfl) (fun w hSw => by (try dsimp only at hSw); go_simp) (by assumption) ?_
  try simp only [Act.put, List.setIfInBounds_toArray, List.set_cons_zero, List.set_cons_succ]
  refine take_yes (i := 14) (oi := { dst := some 108, op := Op.pick (Operand.tmp 104) (Operand.tmp 107) (Operand.const (Value.bool false)), type := 4, pos := "laws.go:592", after := #[{ on := 10, ground := Ground.data }, { on := 13, ground := Ground.data }], guard := none }) (v := .bool true) rfl (by kernel_rfl) (by kernel_rfl) (by kernel_rfl) (fun _ _ _ h => h) (by rfl) (fun w hSw => by (try dsimp only at hSw); go_simp) (by assumption) ?_
  try simp only [Act.put, List.setIfInBounds_toArray, List.set_cons_zero, List.set_cons_succ]
  refine take_yes (i := 15) (oi := { dst := some 109, op := Op.move (Operand.tmp 108), type := 4, pos := "laws.go:592", after := #[{ on := 14, ground := Ground.data }, { on := 10, ground := Ground.chain }], guard := none }) (v := .bool true) rfl (by kernel_rfl) (by kernel_rfl) (by kernel_rfl) (fun _ _ _ h => h) (by rfl) (fun w hSw => by (try dsimp only at hSw); go_simp) (by assumption) ?_
  try simp only [Act.put, List.setIfInBounds_toArray, List.set_cons_zero, List.set_cons_succ]
  refine take_yes (i := 16) (oi := { dst := some 110, op := Op.load 29 (Operand.tmp 7), type := 29, pos := "laws.go:592", after := #[{ on := 15, ground := Ground.guard }], guard := some (15, true) }) (v := .agg #[.int .i64 1, .int .i64 X, .int .i64 Y, .int .i64 (x2 : Int), .int .i64 (x3 : Int)]) rfl (by kernel_rfl) (by kernel_rfl) (by kernel_rfl) (fun _ _ _ h => h) (by rfl) (fun w hSw => by (try dsimp only at hSw); obtain ⟨e0, e7, e8, e9, e10, ei, e11, eh⟩ := HZ.out _ hSw; obtain ⟨-, ⟨-, k3, k4, -⟩, ⟨k5, -⟩, -⟩ := HD.out _ e0; obtain ⟨c0, c1, c2, c3, c4⟩ := cel5tv e7; clear e0 e7 e8 e9 e10 ei e11 eh k3 k4 k5; go_simp) (by assumption) ?_
  try simp only [Act.put, List.setIfInBounds_toArray, List.set_cons_zero, List.set_cons_succ]
  refine take_yes (i := 17) (oi := { dst := some 111, op := Op.load 29 (Operand.tmp 9), type := 29, pos := "laws.go:592", after := #[{ on := 15, ground := Ground.guard }], guard := some (15, true) }) (v := .agg #[.int .i64 1, .int .i64 Y, .int .i64 X, .int .i64 (x2 : Int), .int .i64 (x3 : Int)]) rfl (by kernel_rfl) (by kernel_rfl) (by kernel_rfl) (fun _ _ _ h => h) (by rfl) (fun w hSw => by (try dsimp only at hSw); obtain ⟨e0, e7, e8, e9, e10, ei, e11, eh⟩ := HZ.out _ hSw; obtain ⟨-, ⟨-, k3, k4, -⟩, ⟨k5, -⟩, -⟩ := HD.out _ e0; obtain ⟨c0, c1, c2, c3, c4⟩ := cel5tv e9; clear e0 e7 e8 e9 e10 ei e11 eh k3 k4 k5; go_simp) (by assumption) ?_
  try simp only [Act.put, List.setIfInBounds_toArray, List.set_cons_zero, List.set_cons_succ]
  refine take_yes (i := 18) (oi := { dst := some 112, op := Op.binOp BinOp.neq 29 (Operand.tmp 110) (Operand.tmp 111) 29, type := 4, pos := "laws.go:592", after := #[{ on := 16, ground := Ground.data }, { on := 17, ground := Ground.data }, { on := 15, ground := Ground.guard }], guard := some (15, true) }) (v := .bool true) rfl (by kernel_rfl) (by kernel_rfl) (by kernel_rfl) (fun _ _ _ h => h) (by rfl) (fun w hSw => by (try dsimp only at hSw); go_simp) (by assumption) ?_
  try simp only [Act.put, List.setIfInBounds_toArray, List.set_cons_zero, List.set_cons_succ]
  refine take_yes (i := 19) (oi := { dst := some 113, op := Op.pick (Operand.tmp 109) (Operand.tmp 112) (Operand.const (Value.bool false)), type := 4, pos := "laws.go:592", after := #[{ on := 15, ground := Ground.data }, { on := 18, ground := Ground.data }], guard := none }) (v := .bool true) rfl (by kernel_rfl) (by kernel_rfl) (by kernel_rfl) (fun _ _ _ h => h) (by rfl) (fun w hSw => by (try dsimp only at hSw); go_simp) (by assumption) ?_
  try simp only [Act.put, List.setIfInBounds_toArray, List.set_cons_zero, List.set_cons_succ]
  refine take_yes (i := 20) (oi := { dst := some 114, op := Op.move (Operand.tmp 113), type := 4, pos := "laws.go:592", after := #[{ on := 19, ground := Ground.data }, { on := 15, ground := Ground.chain }], guard := none }) (v := .bool true) rfl (by kernel_rfl) (by kernel_rfl) (by kernel_rfl) (fun _ _ _ h => h) (by rfl) (fun w hSw => by (try dsimp only at hSw); go_simp) (by assumption) ?_
  try simp only [Act.put, List.setIfInBounds_toArray, List.set_cons_zero, List.set_cons_succ]
  refine take_yes (i := 21) (oi := { dst := some 115, op := Op.load 27 (Operand.tmp 10), type := 27, pos := "laws.go:592", after := #[{ on := 20, ground := Ground.guard }], guard := some (20, true) }) (v := .agg #[.slice (some ⟨bi, 0, none⟩) 2 2, .slice none 0 0]) rfl (by kernel_rfl) (by kernel_rfl) (by kernel_rfl) (fun _ _ _ h => h) (by rfl) (fun w hSw => by (try dsimp only at hSw); obtain ⟨e0, e7, e8, e9, e10, ei, e11, eh⟩ := HZ.out _ hSw; obtain ⟨-, ⟨-, k3, k4, -⟩, ⟨k5, -⟩, -⟩ := HD.out _ e0; obtain ⟨c0, c1⟩ := cel2k e10; clear e0 e7 e8 e9 e10 ei e11 eh k3 k4 k5; go_simp) (by assumption) ?_
  try simp only [Act.put, List.setIfInBounds_toArray, List.set_cons_zero, List.set_cons_succ]
  refine take_yes (i := 22) (oi := { dst := some 116, op := Op.load 29 (Operand.tmp 7), type := 29, pos := "laws.go:592", after := #[{ on := 20, ground := Ground.guard }], guard := some (20, true) }) (v := .agg #[.int .i64 1, .int .i64 X, .int .i64 Y, .int .i64 (x2 : Int), .int .i64 (x3 : Int)]) rfl (by kernel_rfl) (by kernel_rfl) (by kernel_rfl) (fun _ _ _ h => h) (by rfl) (fun w hSw => by (try dsimp only at hSw); obtain ⟨e0, e7, e8, e9, e10, ei, e11, eh⟩ := HZ.out _ hSw; obtain ⟨-, ⟨-, k3, k4, -⟩, ⟨k5, -⟩, -⟩ := HD.out _ e0; obtain ⟨c0, c1, c2, c3, c4⟩ := cel5tv e7; clear e0 e7 e8 e9 e10 ei e11 eh k3 k4 k5; go_simp) (by assumption) ?_
  try simp only [Act.put, List.setIfInBounds_toArray, List.set_cons_zero, List.set_cons_succ]
  refine wpAnyH_ready (rs := [23]) (by kernel_rfl) (by simp) ?_
  refine AllReadyH.cons (o := { dst := some 117, op := Op.call { callee := Callee.value (Operand.func 17), args := #[Operand.tmp 115, Operand.tmp 116], argTypes := #[27, 29] }, type := 4, pos := "laws.go:592", after := #[{ on := 21, ground := Ground.data }, { on := 22, ground := Ground.data }, { on := 20, ground := Ground.chain }, { on := 20, ground := Ground.guard }], guard := some (20, true) }) rfl (fun K hK => ?_) AllReadyH.nil
  go_simp
  obtain ⟨e0, -, -, -, -, ei, -, eh⟩ := HZ.out _ hHeld
  obtain ⟨-, ⟨-, -, -, kR⟩, ⟨-, kO⟩, -⟩ := HD.out _ e0
  with_reducible refine (cB _ _ ei).mono ?_
  rintro e wC80 ⟨rfl, bC⟩
  have KC81 := Below.then_ hHeld bC
  clear bC e0 ei eh kR kO
  refine hK.out _ _ KC81 (fun hHeldN => ?_)
  clear hK K hHeld
  have hHeld := hHeldN
  clear hHeldN
  try simp only [Act.put, List.setIfInBounds_toArray, List.set_cons_zero, List.set_cons_succ]
  refine take_yes (i := 24) (oi := { dst := some 118, op := Op.pick (Operand.tmp 114) (Operand.tmp 117) (Operand.const (Value.bool false)), type := 4, pos := "laws.go:592", after := #[{ on := 20, ground := Ground.data }, { on := 23, ground := Ground.data }], guard := none }) (v := .bool true) rfl (by kernel_rfl) (by kernel_rfl) (by kernel_rfl) (fun _ _ _ h => h) (by rfl) (fun w hSw => by (try dsimp only at hSw); go_simp) (by assumption) ?_
  try simp only [Act.put, List.setIfInBounds_toArray, List.set_cons_zero, List.set_cons_succ]
  refine take_yes (i := 25) (oi := { dst := some 119, op := Op.move (Operand.tmp 118), type := 4, pos := "laws.go:592", after := #[{ on := 24, ground := Ground.data }, { on := 23, ground := Ground.chain }], guard := none }) (v := .bool true) rfl (by kernel_rfl) (by kernel_rfl) (by kernel_rfl) (fun _ _ _ h => h) (by rfl) (fun w hSw => by (try dsimp only at hSw); go_simp) (by assumption) ?_
  try simp only [Act.put, List.setIfInBounds_toArray, List.set_cons_zero, List.set_cons_succ]
  refine take_yes (i := 26) (oi := { dst := some 120, op := Op.load 27 (Operand.tmp 10), type := 27, pos := "laws.go:592", after := #[{ on := 25, ground := Ground.guard }], guard := some (25, true) }) (v := .agg #[.slice (some ⟨bi, 0, none⟩) 2 2, .slice none 0 0]) rfl (by kernel_rfl) (by kernel_rfl) (by kernel_rfl) (fun _ _ _ h => h) (by rfl) (fun w hSw => by (try dsimp only at hSw); obtain ⟨e0, e7, e8, e9, e10, ei, e11, eh⟩ := HZ.out _ hSw; obtain ⟨-, ⟨-, k3, k4, -⟩, ⟨k5, -⟩, -⟩ := HD.out _ e0; obtain ⟨c0, c1⟩ := cel2k e10; clear e0 e7 e8 e9 e10 ei e11 eh k3 k4 k5; go_simp) (by assumption) ?_
  try simp only [Act.put, List.setIfInBounds_toArray, List.set_cons_zero, List.set_cons_succ]
  refine take_yes (i := 27) (oi := { dst := some 121, op := Op.load 29 (Operand.tmp 9), type := 29, pos := "laws.go:592", after := #[{ on := 25, ground := Ground.guard }], guard := some (25, true) }) (v := .agg #[.int .i64 1, .int .i64 Y, .int .i64 X, .int .i64 (x2 : Int), .int .i64 (x3 : Int)]) rfl (by kernel_rfl) (by kernel_rfl) (by kernel_rfl) (fun _ _ _ h => h) (by rfl) (fun w hSw => by (try dsimp only at hSw); obtain ⟨e0, e7, e8, e9, e10, ei, e11, eh⟩ := HZ.out _ hSw; obtain ⟨-, ⟨-, k3, k4, -⟩, ⟨k5, -⟩, -⟩ := HD.out _ e0; obtain ⟨c0, c1, c2, c3, c4⟩ := cel5tv e9; clear e0 e7 e8 e9 e10 ei e11 eh k3 k4 k5; go_simp) (by assumption) ?_
  try simp only [Act.put, List.setIfInBounds_toArray, List.set_cons_zero, List.set_cons_succ]
  refine wpAnyH_ready (rs := [28]) (by kernel_rfl) (by simp) ?_
  refine AllReadyH.cons (o := { dst := some 122, op := Op.call { callee := Callee.value (Operand.func 17), args := #[Operand.tmp 120, Operand.tmp 121], argTypes := #[27, 29] }, type := 4, pos := "laws.go:592", after := #[{ on := 26, ground := Ground.data }, { on := 27, ground := Ground.data }, { on := 25, ground := Ground.chain }, { on := 25, ground := Ground.guard }], guard := some (25, true) }) rfl (fun K hK => ?_) AllReadyH.nil
  go_simp
  obtain ⟨e0, -, -, -, -, ei, -, eh⟩ := HZ.out _ hHeld
  obtain ⟨-, ⟨-, -, -, kR⟩, ⟨-, kO⟩, -⟩ := HD.out _ e0
  with_reducible refine (cO _ _ ei).mono ?_
  rintro e wC82 ⟨rfl, bC⟩
  have KC83 := Below.then_ hHeld bC
  clear bC e0 ei eh kR kO
  refine hK.out _ _ KC83 (fun hHeldN => ?_)
  clear hK K hHeld
  have hHeld := hHeldN
  clear hHeldN
  try simp only [Act.put, List.setIfInBounds_toArray, List.set_cons_zero, List.set_cons_succ]
  refine take_yes (i := 29) (oi := { dst := some 123, op := Op.pick (Operand.tmp 119) (Operand.tmp 122) (Operand.const (Value.bool false)), type := 4, pos := "laws.go:592", after := #[{ on := 25, ground := Ground.data }, { on := 28, ground := Ground.data }], guard := none }) (v := .bool true) rfl (by kernel_rfl) (by kernel_rfl) (by kernel_rfl) (fun _ _ _ h => h) (by rfl) (fun w hSw => by (try dsimp only at hSw); go_simp) (by assumption) ?_
  try simp only [Act.put, List.setIfInBounds_toArray, List.set_cons_zero, List.set_cons_succ]
  refine take_yes (i := 30) (oi := { dst := some 124, op := Op.move (Operand.tmp 123), type := 4, pos := "laws.go:592", after := #[{ on := 29, ground := Ground.data }, { on := 28, ground := Ground.chain }], guard := none }) (v := .bool true) rfl (by kernel_rfl) (by kernel_rfl) (by kernel_rfl) (fun _ _ _ h => h) (by rfl) (fun w hSw => by (try dsimp only at hSw); go_simp) (by assumption) ?_
  try simp only [Act.put, List.setIfInBounds_toArray, List.set_cons_zero, List.set_cons_succ]
  refine take_yes (i := 31) (oi := { dst := some 125, op := Op.load 27 (Operand.tmp 11), type := 27, pos := "laws.go:592", after := #[{ on := 30, ground := Ground.guard }], guard := some (30, true) }) (v := .agg #[.slice (some ⟨bh, 0, none⟩) 2 2, .slice none 0 0]) rfl (by kernel_rfl) (by kernel_rfl) (by kernel_rfl) (fun _ _ _ h => h) (by rfl) (fun w hSw => by (try dsimp only at hSw); obtain ⟨e0, e7, e8, e9, e10, ei, e11, eh⟩ := HZ.out _ hSw; obtain ⟨-, ⟨-, k3, k4, -⟩, ⟨k5, -⟩, -⟩ := HD.out _ e0; obtain ⟨c0, c1⟩ := cel2k e11; clear e0 e7 e8 e9 e10 ei e11 eh k3 k4 k5; go_simp) (by assumption) ?_
  try simp only [Act.put, List.setIfInBounds_toArray, List.set_cons_zero, List.set_cons_succ]
  refine take_yes (i := 32) (oi := { dst := some 126, op := Op.load 29 (Operand.tmp 7), type := 29, pos := "laws.go:592", after := #[{ on := 30, ground := Ground.guard }], guard := some (30, true) }) (v := .agg #[.int .i64 1, .int .i64 X, .int .i64 Y, .int .i64 (x2 : Int), .int .i64 (x3 : Int)]) rfl (by kernel_rfl) (by kernel_rfl) (by kernel_rfl) (fun _ _ _ h => h) (by rfl) (fun w hSw => by (try dsimp only at hSw); obtain ⟨e0, e7, e8, e9, e10, ei, e11, eh⟩ := HZ.out _ hSw; obtain ⟨-, ⟨-, k3, k4, -⟩, ⟨k5, -⟩, -⟩ := HD.out _ e0; obtain ⟨c0, c1, c2, c3, c4⟩ := cel5tv e7; clear e0 e7 e8 e9 e10 ei e11 eh k3 k4 k5; go_simp) (by assumption) ?_
  try simp only [Act.put, List.setIfInBounds_toArray, List.set_cons_zero, List.set_cons_succ]
  refine wpAnyH_ready (rs := [33]) (by kernel_rfl) (by simp) ?_
  refine AllReadyH.cons (o := { dst := some 127, op := Op.call { callee := Callee.value (Operand.func 17), args := #[Operand.tmp 125, Operand.tmp 126], argTypes := #[27, 29] }, type := 4, pos := "laws.go:592", after := #[{ on := 31, ground := Ground.data }, { on := 32, ground := Ground.data }, { on := 30, ground := Ground.chain }, { on := 30, ground := Ground.guard }], guard := some (30, true) }) rfl (fun K hK => ?_) AllReadyH.nil
  go_simp
  obtain ⟨e0, -, -, -, -, ei, -, eh⟩ := HZ.out _ hHeld
  obtain ⟨-, ⟨-, -, -, kR⟩, ⟨-, kO⟩, -⟩ := HD.out _ e0
  with_reducible refine (cH _ _ eh).mono ?_
  rintro e wC84 ⟨rfl, bC⟩
  have KC85 := Below.then_ hHeld bC
  clear bC e0 ei eh kR kO
  refine hK.out _ _ KC85 (fun hHeldN => ?_)
  clear hK K hHeld
  have hHeld := hHeldN
  clear hHeldN
  try simp only [Act.put, List.setIfInBounds_toArray, List.set_cons_zero, List.set_cons_succ]
  refine take_yes (i := 34) (oi := { dst := some 128, op := Op.unOp UnOp.not 4 (Operand.tmp 127), type := 4, pos := "laws.go:592", after := #[{ on := 33, ground := Ground.data }, { on := 30, ground := Ground.guard }], guard := some (30, true) }) (v := .bool true) rfl (by kernel_rfl) (by kernel_rfl) (by kernel_rfl) (fun _ _ _ h => h) (by rfl) (fun w hSw => by (try dsimp only at hSw); go_simp) (by assumption) ?_
  try simp only [Act.put, List.setIfInBounds_toArray, List.set_cons_zero, List.set_cons_succ]
  refine take_yes (i := 35) (oi := { dst := some 129, op := Op.pick (Operand.tmp 124) (Operand.tmp 128) (Operand.const (Value.bool false)), type := 4, pos := "laws.go:592", after := #[{ on := 30, ground := Ground.data }, { on := 34, ground := Ground.data }], guard := none }) (v := .bool true) rfl (by kernel_rfl) (by kernel_rfl) (by kernel_rfl) (fun _ _ _ h => h) (by rfl) (fun w hSw => by (try dsimp only at hSw); go_simp) (by assumption) ?_
  try simp only [Act.put, List.setIfInBounds_toArray, List.set_cons_zero, List.set_cons_succ]
  refine take_yes (i := 36) (oi := { dst := some 130, op := Op.move (Operand.tmp 129), type := 4, pos := "laws.go:592", after := #[{ on := 35, ground := Ground.data }, { on := 33, ground := Ground.chain }], guard := none }) (v := .bool true) rfl (by kernel_rfl) (by kernel_rfl) (by kernel_rfl) (fun _ _ _ h => h) (by rfl) (fun w hSw => by (try dsimp only at hSw); go_simp) (by assumption) ?_
  try simp only [Act.put, List.setIfInBounds_toArray, List.set_cons_zero, List.set_cons_succ]
  refine take_yes (i := 37) (oi := { dst := some 131, op := Op.load 27 (Operand.tmp 11), type := 27, pos := "laws.go:592", after := #[{ on := 36, ground := Ground.guard }], guard := some (36, true) }) (v := .agg #[.slice (some ⟨bh, 0, none⟩) 2 2, .slice none 0 0]) rfl (by kernel_rfl) (by kernel_rfl) (by kernel_rfl) (fun _ _ _ h => h) (by rfl) (fun w hSw => by (try dsimp only at hSw); obtain ⟨e0, e7, e8, e9, e10, ei, e11, eh⟩ := HZ.out _ hSw; obtain ⟨-, ⟨-, k3, k4, -⟩, ⟨k5, -⟩, -⟩ := HD.out _ e0; obtain ⟨c0, c1⟩ := cel2k e11; clear e0 e7 e8 e9 e10 ei e11 eh k3 k4 k5; go_simp) (by assumption) ?_
  try simp only [Act.put, List.setIfInBounds_toArray, List.set_cons_zero, List.set_cons_succ]
  refine take_yes (i := 38) (oi := { dst := some 132, op := Op.load 29 (Operand.tmp 7), type := 29, pos := "laws.go:592", after := #[{ on := 36, ground := Ground.guard }], guard := some (36, true) }) (v := .agg #[.int .i64 1, .int .i64 X, .int .i64 Y, .int .i64 (x2 : Int), .int .i64 (x3 : Int)]) rfl (by kernel_rfl) (by kernel_rfl) (by kernel_rfl) (fun _ _ _ h => h) (by rfl) (fun w hSw => by (try dsimp only at hSw); obtain ⟨e0, e7, e8, e9, e10, ei, e11, eh⟩ := HZ.out _ hSw; obtain ⟨-, ⟨-, k3, k4, -⟩, ⟨k5, -⟩, -⟩ := HD.out _ e0; obtain ⟨c0, c1, c2, c3, c4⟩ := cel5tv e7; clear e0 e7 e8 e9 e10 ei e11 eh k3 k4 k5; go_simp) (by assumption) ?_
  try simp only [Act.put, List.setIfInBounds_toArray, List.set_cons_zero, List.set_cons_succ]
  refine take_yes (i := 40) (oi := { dst := some 134, op := Op.load 29 (Operand.tmp 7), type := 29, pos := "laws.go:592", after := #[{ on := 36, ground := Ground.guard }], guard := some (36, true) }) (v := .agg #[.int .i64 1, .int .i64 X, .int .i64 Y, .int .i64 (x2 : Int), .int .i64 (x3 : Int)]) rfl (by kernel_rfl) (by kernel_rfl) (by kernel_rfl) (fun _ _ _ h => h) (by rfl) (fun w hSw => by (try dsimp only at hSw); obtain ⟨e0, e7, e8, e9, e10, ei, e11, eh⟩ := HZ.out _ hSw; obtain ⟨-, ⟨-, k3, k4, -⟩, ⟨k5, -⟩, -⟩ := HD.out _ e0; obtain ⟨c0, c1, c2, c3, c4⟩ := cel5tv e7; clear e0 e7 e8 e9 e10 ei e11 eh k3 k4 k5; go_simp) (by assumption) ?_
  try simp only [Act.put, List.setIfInBounds_toArray, List.set_cons_zero, List.set_cons_succ]
  refine wpAnyH_ready (rs := [39]) (by kernel_rfl) (by simp) ?_
  refine AllReadyH.cons (o := { dst := some 133, op := Op.call { callee := Callee.value (Operand.func 11), args := #[Operand.tmp 131, Operand.tmp 132], argTypes := #[27, 29] }, type := 27, pos := "laws.go:592", after := #[{ on := 37, ground := Ground.data }, { on := 38, ground := Ground.data }, { on := 36, ground := Ground.chain }, { on := 36, ground := Ground.guard }], guard := some (36, true) }) rfl (fun K hK => ?_) AllReadyH.nil
  go_simp
  obtain ⟨e0, -, -, -, -, ei, -, eh⟩ := HZ.out _ hHeld
  obtain ⟨-, ⟨-, -, -, kR⟩, ⟨-, kO⟩, -⟩ := HD.out _ e0
  with_reducible refine (cLh _ _ eh).mono ?_
  rintro e wC86 ⟨q3, r3, q4, r4, rfl, oS, bC⟩
  have KC87 := Below.then_ hHeld bC
  clear bC e0 ei eh kR kO
  refine hK.out _ _ KC87 (fun hHeldN => ?_)
  clear hK K hHeld
  have hHeld := hHeldN
  clear hHeldN
  try simp only [Act.put, List.setIfInBounds_toArray, List.set_cons_zero, List.set_cons_succ]
  refine wpAnyH_ready (rs := [41]) (by kernel_rfl) (by simp) ?_
  refine AllReadyH.cons (o := { dst := some 135, op := Op.call { callee := Callee.value (Operand.func 17), args := #[Operand.tmp 133, Operand.tmp 134], argTypes := #[27, 29] }, type := 4, pos := "laws.go:592", after := #[{ on := 39, ground := Ground.data }, { on := 40, ground := Ground.data }, { on := 39, ground := Ground.chain }, { on := 36, ground := Ground.guard }], guard := some (36, true) }) rfl (fun K hK => ?_) AllReadyH.nil
  go_simp
  obtain ⟨e0, -, -, -, -, ei, -, eh⟩ := HZ.out _ hHeld
  obtain ⟨-, ⟨-, -, -, kR⟩, ⟨-, kO⟩, -⟩ := HD.out _ e0
  with_reducible refine (cF _ _ _ (oS.rd)).mono ?_
  rintro e wC88 ⟨rfl, bC⟩
  have KC89 := Below.then_ hHeld bC
  clear bC e0 ei eh kR kO oS
  refine hK.out _ _ KC89 (fun hHeldN => ?_)
  clear hK K hHeld
  have hHeld := hHeldN
  clear hHeldN
  try simp only [Act.put, List.setIfInBounds_toArray, List.set_cons_zero, List.set_cons_succ]
  refine take_yes (i := 42) (oi := { dst := some 136, op := Op.pick (Operand.tmp 130) (Operand.tmp 135) (Operand.const (Value.bool false)), type := 4, pos := "laws.go:592", after := #[{ on := 36, ground := Ground.data }, { on := 41, ground := Ground.data }], guard := none }) (v := .bool true) rfl (by kernel_rfl) (by kernel_rfl) (by kernel_rfl) (fun _ _ _ h => h) (by rfl) (fun w hSw => by (try dsimp only at hSw); go_simp) (by assumption) ?_
  try simp only [Act.put, List.setIfInBounds_toArray, List.set_cons_zero, List.set_cons_succ]
  refine take_yes (i := 43) (oi := { dst := some 137, op := Op.move (Operand.tmp 136), type := 4, pos := "laws.go:592", after := #[{ on := 42, ground := Ground.data }, { on := 41, ground := Ground.chain }], guard := none }) (v := .bool true) rfl (by kernel_rfl) (by kernel_rfl) (by kernel_rfl) (fun _ _ _ h => h) (by rfl) (fun w hSw => by (try dsimp only at hSw); go_simp) (by assumption) ?_
  try simp only [Act.put, List.setIfInBounds_toArray, List.set_cons_zero, List.set_cons_succ]
  refine wpAnyH_ready (rs := [44]) (by kernel_rfl) (by simp) ?_
  refine AllReadyH.cons (o := { dst := some 138, op := Op.call { callee := Callee.value (Operand.func 18), args := #[Operand.const (Value.int IntKind.i64 1), Operand.const (Value.int IntKind.i64 2), Operand.const (Value.int IntKind.i64 3), Operand.const (Value.int IntKind.i64 4)], argTypes := #[3, 3, 3, 3] }, type := 29, pos := "laws.go:592", after := #[{ on := 43, ground := Ground.chain }, { on := 43, ground := Ground.guard }], guard := some (43, true) }) rfl (fun K hK => ?_) AllReadyH.nil
  go_simp
  obtain ⟨e0, -, -, -, -, ei, -, eh⟩ := HZ.out _ hHeld
  obtain ⟨-, ⟨-, -, -, kR⟩, ⟨-, kO⟩, -⟩ := HD.out _ e0
  with_reducible refine (impl_tagAddr 1 2 3 4 _).mono ?_
  rintro e wC90 ⟨rfl, bC⟩
  have KC91 := Below.then_ hHeld bC
  clear bC e0 ei eh kR kO
  refine hK.out _ _ KC91 (fun hHeldN => ?_)
  clear hK K hHeld
  have hHeld := hHeldN
  clear hHeldN
  try simp only [Act.put, List.setIfInBounds_toArray, List.set_cons_zero, List.set_cons_succ]
  refine wpAnyH_ready (rs := [45]) (by kernel_rfl) (by simp) ?_
  refine AllReadyH.cons (o := { dst := some 139, op := Op.call { callee := Callee.value (Operand.func 19), args := #[Operand.const (Value.int IntKind.i64 1), Operand.const (Value.int IntKind.i64 2), Operand.const (Value.int IntKind.i64 3), Operand.const (Value.int IntKind.i64 4)], argTypes := #[3, 3, 3, 3] }, type := 29, pos := "laws.go:592", after := #[{ on := 44, ground := Ground.chain }, { on := 43, ground := Ground.guard }], guard := some (43, true) }) rfl (fun K hK => ?_) AllReadyH.nil
  go_simp
  obtain ⟨e0, -, -, -, -, ei, -, eh⟩ := HZ.out _ hHeld
  obtain ⟨-, ⟨-, -, -, kR⟩, ⟨-, kO⟩, -⟩ := HD.out _ e0
  with_reducible refine (spec_tagAddr 1 2 3 4 _).mono ?_
  rintro e wC92 ⟨rfl, bC⟩
  have KC93 := Below.then_ hHeld bC
  clear bC e0 ei eh kR kO
  refine hK.out _ _ KC93 (fun hHeldN => ?_)
  clear hK K hHeld
  have hHeld := hHeldN
  clear hHeldN
  try simp only [Act.put, List.setIfInBounds_toArray, List.set_cons_zero, List.set_cons_succ]
  refine take_yes (i := 46) (oi := { dst := some 140, op := Op.binOp BinOp.eql 29 (Operand.tmp 138) (Operand.tmp 139) 29, type := 4, pos := "laws.go:592", after := #[{ on := 44, ground := Ground.data }, { on := 45, ground := Ground.data }, { on := 43, ground := Ground.guard }], guard := some (43, true) }) (v := .bool true) rfl (by kernel_rfl) (by kernel_rfl) (by kernel_rfl) (fun _ _ _ h => h) (by rfl) (fun w hSw => by (try dsimp only at hSw); go_simp) (by assumption) ?_
  try simp only [Act.put, List.setIfInBounds_toArray, List.set_cons_zero, List.set_cons_succ]
  refine take_yes (i := 47) (oi := { dst := some 141, op := Op.pick (Operand.tmp 137) (Operand.tmp 140) (Operand.const (Value.bool false)), type := 4, pos := "laws.go:592", after := #[{ on := 43, ground := Ground.data }, { on := 46, ground := Ground.data }], guard := none }) (v := .bool true) rfl (by kernel_rfl) (by kernel_rfl) (by kernel_rfl) (fun _ _ _ h => h) (by rfl) (fun w hSw => by (try dsimp only at hSw); go_simp) (by assumption) ?_
  try simp only [Act.put, List.setIfInBounds_toArray, List.set_cons_zero, List.set_cons_succ]
  refine take_yes (i := 48) (oi := { dst := some 2, op := Op.assign (Operand.tmp 141), type := 4, pos := "laws.go:592", after := #[{ on := 47, ground := Ground.data }, { on := 45, ground := Ground.chain }, { on := 0, ground := Ground.phase }, { on := 1, ground := Ground.phase }, { on := 2, ground := Ground.phase }, { on := 3, ground := Ground.phase }, { on := 4, ground := Ground.phase }, { on := 5, ground := Ground.phase }, { on := 6, ground := Ground.phase }, { on := 7, ground := Ground.phase }, { on := 8, ground := Ground.phase }, { on := 9, ground := Ground.phase }, { on := 10, ground := Ground.phase }, { on := 11, ground := Ground.phase }, { on := 12, ground := Ground.phase }, { on := 13, ground := Ground.phase }, { on := 14, ground := Ground.phase }, { on := 15, ground := Ground.phase }, { on := 16, ground := Ground.phase }, { on := 17, ground := Ground.phase }, { on := 18, ground := Ground.phase }, { on := 19, ground := Ground.phase }, { on := 20, ground := Ground.phase }, { on := 21, ground := Ground.phase }, { on := 22, ground := Ground.phase }, { on := 23, ground := Ground.phase }, { on := 24, ground := Ground.phase }, { on := 25, ground := Ground.phase }, { on := 26, ground := Ground.phase }, { on := 27, ground := Ground.phase }, { on := 28, ground := Ground.phase }, { on := 29, ground := Ground.phase }, { on := 30, ground := Ground.phase }, { on := 31, ground := Ground.phase }, { on := 32, ground := Ground.phase }, { on := 33, ground := Ground.phase }, { on := 34, ground := Ground.phase }, { on := 35, ground := Ground.phase }, { on := 36, ground := Ground.phase }, { on := 37, ground := Ground.phase }, { on := 38, ground := Ground.phase }, { on := 39, ground := Ground.phase }, { on := 40, ground := Ground.phase }, { on := 41, ground := Ground.phase }, { on := 42, ground := Ground.phase }, { on := 43, ground := Ground.phase }, { on := 44, ground := Ground.phase }, { on := 45, ground := Ground.phase }, { on := 46, ground := Ground.phase }, { on := 47, ground := Ground.phase }], guard := none }) (v := .bool true) rfl (by kernel_rfl) (by kernel_rfl) (by kernel_rfl) (fun _ _ _ h => h) (by rfl) (fun w hSw => by (try dsimp only at hSw); go_simp) (by assumption) ?_
  try simp only [Act.put, List.setIfInBounds_toArray, List.set_cons_zero, List.set_cons_succ]
  refine wpAnyH_done (by kernel_rfl) ?_ _
  have hHeld2 := hHeld
  clear hHeld
  have HE := Lib.hid (HD.out _ (HZ.out _ hHeld2).1).2.1.1
  clear hHeld2
  go_wp2_with (fail)
  go_ret
  exact ⟨rfl, HE.out⟩
end Go.Proofs.Ytgfkmnadbcbfkaa
