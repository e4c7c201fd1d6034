/-
  No cell of these rows narrows 'for every input' (looked for: loops, veiled, ifaces, maps, wideKeys, modest, calm, conditions, laid).
  DERIVED. THE GIVEN ROWS OF THIS SEAT. 8 by the template 'for every input the law returns true; each argument reads behind the call as it read before'; 0 by the template 'total and deterministic' (their statements: YtoeflkmhofkiaaaTotals.lean).
  GIVEN WITH THE SEED: the statements are not yours to turn. If you find one false, say at which input.
  Laid BY PROGRAM, IN A SANDBOX (cutbox-rows.mjs): the forced cells as the released guide's own fill.sh prints them over the translation 06f6259a03dcef70… (all of the seat's roots in one cut). By AI agents, Wed Nov 11 2026. No macro, syntax, notation, axiom, sorry.
-/
import Derived.Test.YtoeflkmhofkiaaaChecked
import GoSem.Claim
import GoSem.ClaimJoined
import GoSem.ClaimMapViews
import Derived.JoinedTies
import Derived.KernelRfl
namespace Go.Proofs.Ytoeflkmhofkiaaa
/- THE CELL 'sum', in the pinned program and in every row, IS THE sha256 OF THE DUMP (.gsa) THAT YtoeflkmhofkiaaaProg.lean LOADS. Nothing in Lean hashes anything: it is a label: what it is worth is what the hold of that sum in a sandbox is worth. -/
noncomputable def Try.pinned : Pinned := { name := "ytoeflkmhofkiaaa", sum := "06f6259a03dcef703d361359bb5fff1bfbd31d7615f025cd722f77bb1c854807", checked := Try.checked }
namespace Rows
def none {H : Type} : Left H := { results := [], args := [] }

/-- 'laws.FnHalfs': WHATEVER THE INPUT: true; the input reads as it did. -/
def fnHalfsSpec : ChangeSpec := { name := "fnHalfs", fn := fun _ => fun
  | [d] => { results := [.lit (.bool true)], args := [d] }
  | _ => none }
def fnHalfsRow : OpenClaim := { program := "ytoeflkmhofkiaaa", sum := "06f6259a03dcef703d361359bb5fff1bfbd31d7615f025cd722f77bb1c854807", func := "loop.example/g00967/laws.FnHalfs", spec := "fnHalfs", unfollowed := true, recurses := true, apart := false }
def FnHalfsSaid : Prop := fnHalfsRow.holds Try.pinned (OpenSpec.ofChange fnHalfsSpec)

/-- ITS FALSE NEIGHBOUR: 'it returns false'. Refute it at one input. -/
def fnHalfsWrong : ChangeSpec := { name := "fnHalfs", fn := fun _ => fun
  | [d] => { results := [.lit (.bool false)], args := [d] }
  | _ => none }
def FnHalfsWrongFalsely : Prop := fnHalfsRow.holds Try.pinned (OpenSpec.ofChange fnHalfsWrong)

/-- 'laws.FnLetters': WHATEVER THE INPUT: true; the input reads as it did. -/
def fnLettersSpec : ChangeSpec := { name := "fnLetters", fn := fun _ => fun
  | [d] => { results := [.lit (.bool true)], args := [d] }
  | _ => none }
def fnLettersRow : OpenClaim := { program := "ytoeflkmhofkiaaa", sum := "06f6259a03dcef703d361359bb5fff1bfbd31d7615f025cd722f77bb1c854807", func := "loop.example/g00967/laws.FnLetters", spec := "fnLetters", apart := false }
def FnLettersSaid : Prop := fnLettersRow.holds Try.pinned (OpenSpec.ofChange fnLettersSpec)

/-- ITS FALSE NEIGHBOUR: 'it returns false'. Refute it at one input. -/
def fnLettersWrong : ChangeSpec := { name := "fnLetters", fn := fun _ => fun
  | [d] => { results := [.lit (.bool false)], args := [d] }
  | _ => none }
def FnLettersWrongFalsely : Prop := fnLettersRow.holds Try.pinned (OpenSpec.ofChange fnLettersWrong)

/-- 'laws.FnExactHalfsOk': WHATEVER THE INPUT: true; the input reads as it did. -/
def fnExactHalfsOkSpec : ChangeSpec := { name := "fnExactHalfsOk", fn := fun _ => fun
  | [d] => { results := [.lit (.bool true)], args := [d] }
  | _ => none }
def fnExactHalfsOkRow : OpenClaim := { program := "ytoeflkmhofkiaaa", sum := "06f6259a03dcef703d361359bb5fff1bfbd31d7615f025cd722f77bb1c854807", func := "loop.example/g00967/laws.FnExactHalfsOk", spec := "fnExactHalfsOk", unfollowed := true, recurses := true, apart := false }
def FnExactHalfsOkSaid : Prop := fnExactHalfsOkRow.holds Try.pinned (OpenSpec.ofChange fnExactHalfsOkSpec)

/-- ITS FALSE NEIGHBOUR: 'it returns false'. Refute it at one input. -/
def fnExactHalfsOkWrong : ChangeSpec := { name := "fnExactHalfsOk", fn := fun _ => fun
  | [d] => { results := [.lit (.bool false)], args := [d] }
  | _ => none }
def FnExactHalfsOkWrongFalsely : Prop := fnExactHalfsOkRow.holds Try.pinned (OpenSpec.ofChange fnExactHalfsOkWrong)

/-- 'laws.FnExactPutHalf': WHATEVER THE INPUT: true; the input reads as it did. -/
def fnExactPutHalfSpec : ChangeSpec := { name := "fnExactPutHalf", fn := fun _ => fun
  | [d1, d2] => { results := [.lit (.bool true)], args := [d1, d2] }
  | _ => none }
def fnExactPutHalfRow : OpenClaim := { program := "ytoeflkmhofkiaaa", sum := "06f6259a03dcef703d361359bb5fff1bfbd31d7615f025cd722f77bb1c854807", func := "loop.example/g00967/laws.FnExactPutHalf", spec := "fnExactPutHalf", unfollowed := true, recurses := true, apart := false }
def FnExactPutHalfSaid : Prop := fnExactPutHalfRow.holds Try.pinned (OpenSpec.ofChange fnExactPutHalfSpec)

/-- ITS FALSE NEIGHBOUR: 'it returns false'. Refute it at one input. -/
def fnExactPutHalfWrong : ChangeSpec := { name := "fnExactPutHalf", fn := fun _ => fun
  | [d1, d2] => { results := [.lit (.bool false)], args := [d1, d2] }
  | _ => none }
def FnExactPutHalfWrongFalsely : Prop := fnExactPutHalfRow.holds Try.pinned (OpenSpec.ofChange fnExactPutHalfWrong)

/-- 'laws.FnExactLetterOk': WHATEVER THE INPUT: true; the input reads as it did. -/
def fnExactLetterOkSpec : ChangeSpec := { name := "fnExactLetterOk", fn := fun _ => fun
  | [d] => { results := [.lit (.bool true)], args := [d] }
  | _ => none }
def fnExactLetterOkRow : OpenClaim := { program := "ytoeflkmhofkiaaa", sum := "06f6259a03dcef703d361359bb5fff1bfbd31d7615f025cd722f77bb1c854807", func := "loop.example/g00967/laws.FnExactLetterOk", spec := "fnExactLetterOk", apart := false }
def FnExactLetterOkSaid : Prop := fnExactLetterOkRow.holds Try.pinned (OpenSpec.ofChange fnExactLetterOkSpec)

/-- ITS FALSE NEIGHBOUR: 'it returns false'. Refute it at one input. -/
def fnExactLetterOkWrong : ChangeSpec := { name := "fnExactLetterOk", fn := fun _ => fun
  | [d] => { results := [.lit (.bool false)], args := [d] }
  | _ => none }
def FnExactLetterOkWrongFalsely : Prop := fnExactLetterOkRow.holds Try.pinned (OpenSpec.ofChange fnExactLetterOkWrong)

/-- 'laws.FnExactRoadOf': WHATEVER THE INPUT: true; the input reads as it did. -/
def fnExactRoadOfSpec : ChangeSpec := { name := "fnExactRoadOf", fn := fun _ => fun
  | [d] => { results := [.lit (.bool true)], args := [d] }
  | _ => none }
def fnExactRoadOfRow : OpenClaim := { program := "ytoeflkmhofkiaaa", sum := "06f6259a03dcef703d361359bb5fff1bfbd31d7615f025cd722f77bb1c854807", func := "loop.example/g00967/laws.FnExactRoadOf", spec := "fnExactRoadOf", apart := false }
def FnExactRoadOfSaid : Prop := fnExactRoadOfRow.holds Try.pinned (OpenSpec.ofChange fnExactRoadOfSpec)

/-- ITS FALSE NEIGHBOUR: 'it returns false'. Refute it at one input. -/
def fnExactRoadOfWrong : ChangeSpec := { name := "fnExactRoadOf", fn := fun _ => fun
  | [d] => { results := [.lit (.bool false)], args := [d] }
  | _ => none }
def FnExactRoadOfWrongFalsely : Prop := fnExactRoadOfRow.holds Try.pinned (OpenSpec.ofChange fnExactRoadOfWrong)

/-- 'laws.FnExactOnRoad': WHATEVER THE INPUT: true; the input reads as it did. -/
def fnExactOnRoadSpec : ChangeSpec := { name := "fnExactOnRoad", fn := fun _ => fun
  | [d] => { results := [.lit (.bool true)], args := [d] }
  | _ => none }
def fnExactOnRoadRow : OpenClaim := { program := "ytoeflkmhofkiaaa", sum := "06f6259a03dcef703d361359bb5fff1bfbd31d7615f025cd722f77bb1c854807", func := "loop.example/g00967/laws.FnExactOnRoad", spec := "fnExactOnRoad", apart := false }
def FnExactOnRoadSaid : Prop := fnExactOnRoadRow.holds Try.pinned (OpenSpec.ofChange fnExactOnRoadSpec)

/-- ITS FALSE NEIGHBOUR: 'it returns false'. Refute it at one input. -/
def fnExactOnRoadWrong : ChangeSpec := { name := "fnExactOnRoad", fn := fun _ => fun
  | [d] => { results := [.lit (.bool false)], args := [d] }
  | _ => none }
def FnExactOnRoadWrongFalsely : Prop := fnExactOnRoadRow.holds Try.pinned (OpenSpec.ofChange fnExactOnRoadWrong)

/-- 'laws.FnExactBetween': WHATEVER THE INPUT: true; the input reads as it did. -/
def fnExactBetweenSpec : ChangeSpec := { name := "fnExactBetween", fn := fun _ => fun
  | [d1, d2] => { results := [.lit (.bool true)], args := [d1, d2] }
  | _ => none }
def fnExactBetweenRow : OpenClaim := { program := "ytoeflkmhofkiaaa", sum := "06f6259a03dcef703d361359bb5fff1bfbd31d7615f025cd722f77bb1c854807", func := "loop.example/g00967/laws.FnExactBetween", spec := "fnExactBetween", apart := false }
def FnExactBetweenSaid : Prop := fnExactBetweenRow.holds Try.pinned (OpenSpec.ofChange fnExactBetweenSpec)

/-- ITS FALSE NEIGHBOUR: 'it returns false'. Refute it at one input. -/
def fnExactBetweenWrong : ChangeSpec := { name := "fnExactBetween", fn := fun _ => fun
  | [d1, d2] => { results := [.lit (.bool false)], args := [d1, d2] }
  | _ => none }
def FnExactBetweenWrongFalsely : Prop := fnExactBetweenRow.holds Try.pinned (OpenSpec.ofChange fnExactBetweenWrong)

/- THE SECOND FORM. 'bulk': how many values and letters a reading holds, each counted each time it is reached (what is shared counts as often as it is met; a slice's spare places count too). A statement '..UptoSaid' is the law's where the arguments, and the package variables that the reading takes, are together of bulk at most 1048576: NARROWER than '..Said'. Prove '..Said' where nothing that the law and all that it calls make is longer than what came in: it says more and counts as full. Else prove '..UptoSaid'. A law counts once. -/
mutual
def uptoBulk {H : Type} : DataW H → Nat
  | .lit (.string bytes) => bytes.length + 1
  | .lit _ => 1
  | .nil => 1
  | .ptr d => uptoBulk d + 1
  | .slice elems spare => uptoBulkAll elems + uptoBulkAll spare + 1
  | .agg parts => uptoBulkAll parts + 1
  | .iface _ d => uptoBulk d + 1
  | .map entries => uptoBulkEntries entries + 1
  | .held _ => 1
def uptoBulkAll {H : Type} : List (DataW H) → Nat
  | [] => 0
  | d :: r => uptoBulk d + uptoBulkAll r
def uptoBulkEntries {H : Type} : List (Lit × DataW H) → Nat
  | [] => 0
  | x :: r => uptoBulkEntry x + uptoBulkEntries r
def uptoBulkEntry {H : Type} : Lit × DataW H → Nat
  | (.string bytes, d) => bytes.length + uptoBulk d + 1
  | (_, d) => uptoBulk d + 1
 end
def uptoSmall : (H : Type) → List (DataW H) → Bool := fun _ ds => decide (uptoBulkAll ds ≤ 1048576)
def OpenSpec.upto (s : _root_.Go.ChangeSpec) : _root_.Go.OpenSpec := { _root_.Go.OpenSpec.ofChange s with cond := some uptoSmall }

/-- 'laws.FnHalfs', WHERE WHAT IT READS IS OF BULK AT MOST 1048576: true; the input reads as it did. -/
def fnHalfsUptoRow : OpenClaim := { program := "ytoeflkmhofkiaaa", sum := "06f6259a03dcef703d361359bb5fff1bfbd31d7615f025cd722f77bb1c854807", func := "loop.example/g00967/laws.FnHalfs", spec := "fnHalfs", unfollowed := true, recurses := true, apart := false, narrowed := true }
def FnHalfsUptoSaid : Prop := fnHalfsUptoRow.holds Try.pinned (OpenSpec.upto fnHalfsSpec)

/-- 'laws.FnLetters', WHERE WHAT IT READS IS OF BULK AT MOST 1048576: true; the input reads as it did. -/
def fnLettersUptoRow : OpenClaim := { program := "ytoeflkmhofkiaaa", sum := "06f6259a03dcef703d361359bb5fff1bfbd31d7615f025cd722f77bb1c854807", func := "loop.example/g00967/laws.FnLetters", spec := "fnLetters", apart := false, narrowed := true }
def FnLettersUptoSaid : Prop := fnLettersUptoRow.holds Try.pinned (OpenSpec.upto fnLettersSpec)

/-- 'laws.FnExactHalfsOk', WHERE WHAT IT READS IS OF BULK AT MOST 1048576: true; the input reads as it did. -/
def fnExactHalfsOkUptoRow : OpenClaim := { program := "ytoeflkmhofkiaaa", sum := "06f6259a03dcef703d361359bb5fff1bfbd31d7615f025cd722f77bb1c854807", func := "loop.example/g00967/laws.FnExactHalfsOk", spec := "fnExactHalfsOk", unfollowed := true, recurses := true, apart := false, narrowed := true }
def FnExactHalfsOkUptoSaid : Prop := fnExactHalfsOkUptoRow.holds Try.pinned (OpenSpec.upto fnExactHalfsOkSpec)

/-- 'laws.FnExactPutHalf', WHERE WHAT IT READS IS OF BULK AT MOST 1048576: true; the input reads as it did. -/
def fnExactPutHalfUptoRow : OpenClaim := { program := "ytoeflkmhofkiaaa", sum := "06f6259a03dcef703d361359bb5fff1bfbd31d7615f025cd722f77bb1c854807", func := "loop.example/g00967/laws.FnExactPutHalf", spec := "fnExactPutHalf", unfollowed := true, recurses := true, apart := false, narrowed := true }
def FnExactPutHalfUptoSaid : Prop := fnExactPutHalfUptoRow.holds Try.pinned (OpenSpec.upto fnExactPutHalfSpec)

/-- 'laws.FnExactLetterOk', WHERE WHAT IT READS IS OF BULK AT MOST 1048576: true; the input reads as it did. -/
def fnExactLetterOkUptoRow : OpenClaim := { program := "ytoeflkmhofkiaaa", sum := "06f6259a03dcef703d361359bb5fff1bfbd31d7615f025cd722f77bb1c854807", func := "loop.example/g00967/laws.FnExactLetterOk", spec := "fnExactLetterOk", apart := false, narrowed := true }
def FnExactLetterOkUptoSaid : Prop := fnExactLetterOkUptoRow.holds Try.pinned (OpenSpec.upto fnExactLetterOkSpec)

/-- 'laws.FnExactRoadOf', WHERE WHAT IT READS IS OF BULK AT MOST 1048576: true; the input reads as it did. -/
def fnExactRoadOfUptoRow : OpenClaim := { program := "ytoeflkmhofkiaaa", sum := "06f6259a03dcef703d361359bb5fff1bfbd31d7615f025cd722f77bb1c854807", func := "loop.example/g00967/laws.FnExactRoadOf", spec := "fnExactRoadOf", apart := false, narrowed := true }
def FnExactRoadOfUptoSaid : Prop := fnExactRoadOfUptoRow.holds Try.pinned (OpenSpec.upto fnExactRoadOfSpec)

/-- 'laws.FnExactOnRoad', WHERE WHAT IT READS IS OF BULK AT MOST 1048576: true; the input reads as it did. -/
def fnExactOnRoadUptoRow : OpenClaim := { program := "ytoeflkmhofkiaaa", sum := "06f6259a03dcef703d361359bb5fff1bfbd31d7615f025cd722f77bb1c854807", func := "loop.example/g00967/laws.FnExactOnRoad", spec := "fnExactOnRoad", apart := false, narrowed := true }
def FnExactOnRoadUptoSaid : Prop := fnExactOnRoadUptoRow.holds Try.pinned (OpenSpec.upto fnExactOnRoadSpec)

/-- 'laws.FnExactBetween', WHERE WHAT IT READS IS OF BULK AT MOST 1048576: true; the input reads as it did. -/
def fnExactBetweenUptoRow : OpenClaim := { program := "ytoeflkmhofkiaaa", sum := "06f6259a03dcef703d361359bb5fff1bfbd31d7615f025cd722f77bb1c854807", func := "loop.example/g00967/laws.FnExactBetween", spec := "fnExactBetween", apart := false, narrowed := true }
def FnExactBetweenUptoSaid : Prop := fnExactBetweenUptoRow.holds Try.pinned (OpenSpec.upto fnExactBetweenSpec)

end Rows
end Go.Proofs.Ytoeflkmhofkiaaa
