import Derived.Test.YtdajfnonehianaaPto
import Derived.Test.YtdajfnonehianaaPok
import Derived.Test.YtdajfnonehianaaTxt
import Derived.Laws.StructEq
namespace Go.Proofs.Ytdajfnonehianaa
open Go.RowKit

/-- A send buffer. -/
structure Ot where
  text : ByteArray
  base : Int
  sent : Int
  room : Int

/-- It is valid. -/
def Ot.Ok (o : Ot) : Prop := 0 ≤ o.base ∧ o.base ≤ 1000000000 ∧ 1 ≤ o.room ∧ o.room ≤ 200 ∧ (o.text.size : Int) ≤ o.room ∧ o.base ≤ o.sent ∧ o.sent ≤ o.base + (o.text.size : Int)
instance (o : Ot) : Decidable o.Ok := by unfold Ot.Ok; infer_instance

theorem cel4 {W : World} {g : Nat} {t : TypeId} {x y z u : Value} (h : Cel W g t #[x, y, z, u]) : W.cell? ⟨g, 0, none⟩ = some x ∧ W.cell? ⟨g, 1, none⟩ = some y ∧ W.cell? ⟨g, 2, none⟩ = some z ∧ W.cell? ⟨g, 3, none⟩ = some u :=
  ⟨h.cell 0, h.cell 1, h.cell 2, h.cell 3⟩

set_option maxRecDepth 100000 in
theorem to_out (o : Ot) (w : World) :
    Calls Try.prog 27 #[.agg #[.string o.text, .int .i64 o.base, .int .i64 o.sent, .int .i64 o.room]] w fun e w' => e = .returned (.agg #[.string o.text, .int .i64 o.base, .int .i64 o.sent, .int .i64 o.room]) ∧ Below w.heap.size w w' := by
  have hb : Below w.heap.size w (((w.alloc (.cells #[.string o.text, .int .i64 o.base, .int .i64 o.sent, .int .i64 o.room] 45)).alloc (.cells #[.string o.text, .int .i64 o.base, .int .i64 o.sent, .int .i64 o.room] 33)).alloc (.cells #[.string o.text, .int .i64 o.base, .int .i64 o.sent, .int .i64 o.room] 33)) := (((Below.refl _ _).alloc (Nat.le_refl _) _).alloc (by simp) _).alloc (by simp; omega) _
  have HB := Lib.hid hb
  clear hb
  go_enter Try.func27, Try.ntmps27
  go_wp2_with (fail)
  exact bodyPost_ret (v := .agg #[.string o.text, .int .i64 o.base, .int .i64 o.sent, .int .i64 o.room]) (by simp [results, Try.results27, go_sem]) rfl ⟨rfl, HB.out⟩

theorem sz_out (o : Ot) (left : Int) (w : World) (h0 : 0 ≤ left) (h1 : left ≤ 1048576) (hs : o.text.size ≤ 9223372036854775807) :
    Calls Try.prog 26 #[.agg #[.string o.text, .int .i64 o.base, .int .i64 o.sent, .int .i64 o.room], .int .i64 left] w fun e w' => e = .returned (.int .i64 (if left - (o.text.size : Int) < 0 then -1 else left - (o.text.size : Int))) ∧ Below w.heap.size w w' := by
  have HB := Lib.hid (below_new w (.cells #[.string o.text, .int .i64 o.base, .int .i64 o.sent, .int .i64 o.room] 45))
  by_cases hl : left - (o.text.size : Int) < 0
  · rw [if_pos hl]
    go_enter Try.func26, Try.ntmps26
    go_wp2_with (fail)
    go_ret
    exact ⟨rfl, HB.out⟩
  · rw [if_neg hl]
    go_enter Try.func26, Try.ntmps26
    go_wp2_with (fail)
    go_ret
    exact ⟨rfl, HB.out⟩

set_option maxRecDepth 100000 in
theorem eq_out (o : Ot) (w : World) :
    Calls Try.prog 29 #[.agg #[.string o.text, .int .i64 o.base, .int .i64 o.sent, .int .i64 o.room], .agg #[.string o.text, .int .i64 o.base, .int .i64 o.sent, .int .i64 o.room]] w fun e w' => e = .returned (.bool true) ∧ Below w.heap.size w w' := by
  have hb : Below w.heap.size w ((w.alloc (.cells #[.string o.text, .int .i64 o.base, .int .i64 o.sent, .int .i64 o.room] 33)).alloc (.cells #[.string o.text, .int .i64 o.base, .int .i64 o.sent, .int .i64 o.room] 33)) := ((Below.refl _ _).alloc (Nat.le_refl _) _).alloc (by simp) _
  have HB := Lib.hid hb
  clear hb
  go_enter Try.func29, Try.ntmps29
  go_wp2_with (fail)
  go_ret
  exact ⟨rfl, HB.out⟩

theorem out_end (o : Ot) (w : World) :
    Calls Try.prog 54 #[.agg #[.string o.text, .int .i64 o.base, .int .i64 o.sent, .int .i64 o.room]] w fun e w' => e = .returned (.int .i64 (IntKind.i64.wrap (o.base + (o.text.size : Int)))) ∧ Below w.heap.size w w' := by
  have HB := Lib.hid (below_new w (.cells #[.string o.text, .int .i64 o.base, .int .i64 o.sent, .int .i64 o.room] 33))
  generalize e1 : IntKind.i64.wrap (o.base + (o.text.size : Int)) = z
  go_enter Try.func54, Try.ntmps54
  go_wp2_with (fail)
  go_ret
  exact ⟨rfl, HB.out⟩

theorem bytes_inj (a b : ByteArray) : a.toList = b.toList ↔ a = b :=
  ⟨fun h => by rw [ByteArray.toList_eq, ByteArray.toList_eq] at h; exact ByteArray.ext (Array.toList_inj.1 h), fun h => by rw [h]⟩

set_option maxRecDepth 100000 in
/-- '==' on two buffers. -/
theorem eql_out (o p : Ot) (W : World) (b : Bool) (hb : b = true ↔ o = p) :
    (binOp .eql 33 (.agg #[.string o.text, .int .i64 o.base, .int .i64 o.sent, .int .i64 o.room]) (.agg #[.string p.text, .int .i64 p.base, .int .i64 p.sent, .int .i64 p.room])).run Try.prog W = .ok (.bool b) W := by
  have u3 := Try.underlying3
  have a3 := Try.isAgg3
  have z3 := Try.sizeOf3
  have u9 := Try.underlying9
  have a9 := Try.isAgg9
  have z9 := Try.sizeOf9
  have hS : Try.prog.underlying 33 = some (.struct (Try.prog.fieldsOf 33)) := by kernel_rfl
  have hp : Try.prog.stoodInHeld 33 = false := by kernel_rfl
  rw [run_eql_struct, show (10000 : Nat) = 9999 + 1 from rfl, run_equalIn_agg W 9999 33 _ _ hS hp]
  simp only [Program.fieldsOf, Try.underlying33]
  obtain ⟨t1, b1, s1, r1⟩ := o
  obtain ⟨t2, b2, s2, r2⟩ := p
  simp only [Ot.mk.injEq] at hb
  go_simp
  by_cases h1 : t1 = t2 <;> by_cases h2 : b1 = b2 <;> by_cases h3 : s1 = s2 <;> by_cases h4 : r1 = r2 <;> simp_all [bytes_inj]
end Go.Proofs.Ytdajfnonehianaa
