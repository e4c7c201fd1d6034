import Derived.Test.YtdajfnonehianaaRows
import Derived.WalkKit
import Derived.Deep.QuietTactic
import Derived.BigQuiet
namespace Go.Proofs.Ytdajfnonehianaa
open Go.RowKit

/-- A quiet call in a quiet region. -/
theorem q_first {f : FuncId} {args : Array Value} {w : World} {n : Nat} {v : Value}
    (h : ∀ W, Calls Try.prog f args W fun e w' => e = .returned v ∧ ∃ m, w' = W.drewN m) :
    Calls Try.prog f args (w.drewN n) fun e w'' => e = .returned v ∧ ∃ m, w'' = w.drewN m :=
  (h _).mono fun _ _ ⟨he, m, hm⟩ => ⟨he, n + m, by rw [hm, World.drewN_drewN]⟩

/-- .. behind a region that drew already. -/
theorem q_next {f : FuncId} {args : Array Value} {w : World} {a n : Nat} {v : Value}
    (h : ∀ W, Calls Try.prog f args W fun e w' => e = .returned v ∧ ∃ m, w' = W.drewN m) :
    Calls Try.prog f args (w.drewN (a + n)) fun e w'' => e = .returned v ∧ ∃ m, w'' = w.drewN (a + m) :=
  (h _).mono fun _ _ ⟨he, m, hm⟩ => ⟨he, n + m, by rw [hm, World.drewN_drewN, Nat.add_assoc]⟩

/-- A function that leaves the world alone only draws. -/
theorem q_none {f : FuncId} {args : Array Value} {v : Value} (h : ∀ W, Calls Try.prog f args W fun e w' => e = .returned v ∧ W = w') :
    ∀ W, Calls Try.prog f args W fun e w' => e = .returned v ∧ ∃ m, w' = W.drewN m :=
  fun W => (h W).mono fun _ _ ⟨he, hw⟩ => ⟨he, 0, hw.symm⟩
end Go.Proofs.Ytdajfnonehianaa
