import Derived.Test.YtoeflkmhofkiaaaAif
import Derived.Test.YtoeflkmhofkiaaaEk2
import Derived.Test.YtoeflkmhofkiaaaIntsL
namespace Go.Proofs.Ytoeflkmhofkiaaa
open Go.RowKit
set_option maxRecDepth 100000

theorem intK_flat (l : List Int) : intK.flat l = l.map (Value.int .i64) := by
  induction l with
  | nil => rfl
  | cons x r ih => simp only [EK.flat, List.map_cons, ih]; rfl
theorem own_irow {W : World} {B C : Nat} {v : Value} {zs : List Int} (h : OwnE intK W B C v zs) : IRow W B C v zs := ⟨by rw [← intK_flat]; exact h.1, h.2⟩

/-- s[:h] -/
theorem LieE.cut_to {α : Type} {K : EK α} {tS : TypeId} (hS : Try.prog.underlying tS = some (.slice K.t)) {W : World} {B C c : Nat} {a : Option Addr} {xs : List α} (h : LieE K W B C (.slice a xs.length c) xs) (hh : Nat) (hn : hh ≤ xs.length) :
    ∃ a', (∀ W', (Instr.slice tS (.slice a xs.length c) none (some (.int .i64 (hh : Int))) none).run Try.prog W' = .ok (.slice a' hh c) W') ∧ ∀ W', LieE K W' B C (.slice a xs.length c) xs → LieE K W' B C (.slice a' hh c) (xs.take hh) := by
  obtain ⟨i0, hq, -, hz1, -⟩ := einfo K
  have hc : xs.length ≤ c := by
    obtain ⟨a', c', he, hc, -⟩ := h
    injection he with e1 e2 e3
    omega
  refine ⟨if c = 0 then a else a.map (·.add (0 * K.n)), fun W' => ?_, fun W' h' => ?_⟩
  · have h2 : (0 : Int) ≤ (hh : Int) ∧ (hh : Int) ≤ (c : Int) := by omega
    have h3 : hh ≤ c := by omega
    simp [Instr.slice, run_underlying hS, Instr.sliceBounds, Instr.sliceBound, asIntOf, h2, h3, sizeOf, typeInfo, hq]
  · have := LieE.cut h' 0 hh c (Nat.zero_le _) hn (by omega) (Nat.le_refl _)
    simpa using this

theorem untold_take (ms : List Av) (k : Nat) (h : k < ms.length) : untoldA (ms.take (k + 1)) = untoldA (ms.take k) ++ (if ms[k].told = true then [] else [ms[k].id]) := by
  rw [List.take_succ_eq_append_getElem h, untold_append]
  congr 1
theorem rd_ibox (W : World) (n : Int) : RdE intK (W.alloc (.cells #[.int .i64 n] 3)) (.slice (some ⟨W.heap.size, 0, none⟩) 1 1) [n] :=
  (OwnE.of_cel (K := intK) (B := 0) (C := W.heap.size + 1) (xs := [n]) (Cel.new W 3 #[.int .i64 n]) (Nat.zero_le _) (Nat.lt_succ_self _) (by simp [maxLen])).rd

end Go.Proofs.Ytoeflkmhofkiaaa
