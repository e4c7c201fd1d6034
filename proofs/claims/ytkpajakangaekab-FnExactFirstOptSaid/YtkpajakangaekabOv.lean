import Derived.Test.YtkpajakangaekabCel
import Derived.Test.YtkpajakangaekabInts2
namespace Go.Proofs.Ytkpajakangaekab
open Go.RowKit

/-- An option's fields. -/
structure Ov where
  kind : Int
  id : Int
  addr : Int
  port : Int
  token : Int
  nonce : Int
  seq : Int
  sub : Int
  len : Int
  ack : Int
  flag : Bool
  key : ByteArray
  mark : ByteArray
  ids : List Int

def Ov.zero : Ov := ⟨0, 0, 0, 0, 0, 0, 0, 0, 0, 0, false, ⟨#[]⟩, ⟨#[]⟩, []⟩

/-- .. as cells; v is the slice of its Ids. -/
def Ov.cells (o : Ov) (v : Value) : Array Value :=
  #[.int .i64 o.kind, .int .i64 o.id, .int .i64 o.addr, .int .i64 o.port, .int .i64 o.token, .int .i64 o.nonce, .int .i64 o.seq, .int .i64 o.sub, .int .i64 o.len, .int .i64 o.ack, .bool o.flag, .string o.key, .string o.mark, v]

theorem Ov.cells_size (o : Ov) (v : Value) : (o.cells v).size = 14 := rfl

/-- Block g is the option. -/
def OvAt (W : World) (g : Nat) (o : Ov) (v : Value) : Prop := Cel W g 26 (o.cells v)

theorem OvAt.all {W : World} {g : Nat} {o : Ov} {v : Value} (h : OvAt W g o v) :
    W.cell? ⟨g, 0, none⟩ = some (.int .i64 o.kind) ∧ W.cell? ⟨g, 1, none⟩ = some (.int .i64 o.id) ∧ W.cell? ⟨g, 2, none⟩ = some (.int .i64 o.addr) ∧ W.cell? ⟨g, 3, none⟩ = some (.int .i64 o.port) ∧
    W.cell? ⟨g, 4, none⟩ = some (.int .i64 o.token) ∧ W.cell? ⟨g, 5, none⟩ = some (.int .i64 o.nonce) ∧ W.cell? ⟨g, 6, none⟩ = some (.int .i64 o.seq) ∧ W.cell? ⟨g, 7, none⟩ = some (.int .i64 o.sub) ∧
    W.cell? ⟨g, 8, none⟩ = some (.int .i64 o.len) ∧ W.cell? ⟨g, 9, none⟩ = some (.int .i64 o.ack) ∧ W.cell? ⟨g, 10, none⟩ = some (.bool o.flag) ∧ W.cell? ⟨g, 11, none⟩ = some (.string o.key) ∧
    W.cell? ⟨g, 12, none⟩ = some (.string o.mark) ∧ W.cell? ⟨g, 13, none⟩ = some v := by
  refine ⟨?_, ?_, ?_, ?_, ?_, ?_, ?_, ?_, ?_, ?_, ?_, ?_, ?_, ?_⟩ <;> rw [Cel.cell h] <;> rfl

theorem Ov.ats (o : Ov) (v : Value) :
    (o.cells v)[0]? = some (.int .i64 o.kind) ∧ (o.cells v)[1]? = some (.int .i64 o.id) ∧ (o.cells v)[2]? = some (.int .i64 o.addr) ∧ (o.cells v)[3]? = some (.int .i64 o.port) ∧
    (o.cells v)[4]? = some (.int .i64 o.token) ∧ (o.cells v)[5]? = some (.int .i64 o.nonce) ∧ (o.cells v)[6]? = some (.int .i64 o.seq) ∧ (o.cells v)[7]? = some (.int .i64 o.sub) ∧
    (o.cells v)[8]? = some (.int .i64 o.len) ∧ (o.cells v)[9]? = some (.int .i64 o.ack) ∧ (o.cells v)[10]? = some (.bool o.flag) ∧ (o.cells v)[11]? = some (.string o.key) ∧
    (o.cells v)[12]? = some (.string o.mark) ∧ (o.cells v)[13]? = some v := ⟨rfl, rfl, rfl, rfl, rfl, rfl, rfl, rfl, rfl, rfl, rfl, rfl, rfl, rfl⟩

theorem OvAt.new (W : World) (o : Ov) (v : Value) : OvAt (W.alloc (.cells (o.cells v) 26)) W.heap.size o v := Cel.new W _ _

theorem sizeOpt : (Try.prog.info? 26).map (·.size) = some 14 := by kernel_rfl
theorem sizeOpt' (o : Ov) (v : Value) : (Try.prog.info? 26).map (·.size) = some (o.cells v).size := sizeOpt

theorem Ov.cells_one (o : Ov) (a : Option Addr) (n c : Nat) : (o.cells (.slice a n c)).all (·.oneCell') = true := by
  unfold Ov.cells
  simp [Value.oneCell']
theorem Ov.cells_set (o : Ov) (v u : Value) : (o.cells v).setIfInBounds 13 u = o.cells u := rfl
attribute [irreducible] Ov.cells

theorem IRow.wider {W : World} {B B' C C' : Nat} {v : Value} {zs : List Int} (h : IRow W B C v zs) (hB : B' ≤ B) (hC : C ≤ C') : IRow W B' C' v zs := by
  obtain ⟨⟨h1, h2⟩, h3⟩ := h
  refine ⟨⟨h1, ?_⟩, fun g hg => Nat.lt_of_lt_of_le (h3 g hg) hC⟩
  rcases h2 with h2 | ⟨g, cap, cur, hv, hg, r⟩
  · exact .inl h2
  · exact .inr ⟨g, cap, cur, hv, Nat.le_trans hB hg, r⟩

theorem IRow.inside {W : World} {B C : Nat} {v : Value} {zs : List Int} (h : IRow W B C v zs) : IRow W B W.heap.size v zs := by
  refine ⟨h.1, fun g hg => ?_⟩
  rcases h.1.2 with ⟨hv, _⟩ | ⟨g', cap, cur, hv, _, hh, _⟩
  · rw [hv] at hg; simp [Value.ownBlock] at hg
  · rw [hv] at hg
    simp [Value.ownBlock] at hg
    subst hg
    exact (Array.getElem?_eq_some_iff.1 hh).1
end Go.Proofs.Ytkpajakangaekab
