import Derived.Test.YtoeflkmhofkiaaaAqd
namespace Go.Proofs.Ytoeflkmhofkiaaa
open Go.RowKit
set_option maxRecDepth 100000

theorem irow_own {W : World} {B C : Nat} {v : Value} {zs : List Int} (h : IRow W B C v zs) : OwnE intK W B C v zs := ⟨by rw [intK_flat]; exact h.1, h.2⟩
theorem below_q {w : World} {v : Value} {f : FuncId} {args : Array Value} (h : Calls Try.prog f args w fun e w' => e = .returned v ∧ ∃ m, w' = w.drewN m) : Calls Try.prog f args w fun e w' => e = .returned v ∧ Below w.heap.size w w' :=
  h.mono fun _ _ ⟨he, m, hm⟩ => ⟨he, hm ▸ below_dN w m⟩

end Go.Proofs.Ytoeflkmhofkiaaa
