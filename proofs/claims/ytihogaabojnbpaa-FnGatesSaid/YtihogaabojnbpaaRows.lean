/-
  No cell of these rows narrows 'for every input' (looked for: loops, veiled, ifaces, maps, wideKeys, modest, calm, conditions, laid).
  DERIVED. THE GIVEN ROWS OF THIS SEAT. 8 by the template 'for every input the law returns true; each argument reads behind the call as it read before'; 0 by the template 'total and deterministic' (their statements: YtihogaabojnbpaaTotals.lean).
  GIVEN WITH THE SEED: the statements are not yours to turn. If you find one false, say at which input.
  Laid BY PROGRAM, IN A SANDBOX (cutbox-rows.mjs): the forced cells as the released guide's own fill.sh prints them over the translation f0c1a420860c6f07… (all of the seat's roots in one cut). By AI agents, Wed Nov 11 2026. No macro, syntax, notation, axiom, sorry.
-/
import Derived.Test.YtihogaabojnbpaaChecked
import GoSem.Claim
import GoSem.ClaimJoined
import GoSem.ClaimMapViews
import Derived.JoinedTies
import Derived.KernelRfl
namespace Go.Proofs.Ytihogaabojnbpaa
/- THE CELL 'sum', in the pinned program and in every row, IS THE sha256 OF THE DUMP (.gsa) THAT YtihogaabojnbpaaProg.lean LOADS. Nothing in Lean hashes anything: it is a label: what it is worth is what the hold of that sum in a sandbox is worth. -/
noncomputable def Try.pinned : Pinned := { name := "ytihogaabojnbpaa", sum := "f0c1a420860c6f0708812d5b7872d70c99a284da978d2e14fb8d562e534a8f19", checked := Try.checked }
namespace Rows
def none {H : Type} : Left H := { results := [], args := [] }

/-- 'laws.FnGates': WHATEVER THE INPUT: true; the input reads as it did. -/
def fnGatesSpec : ChangeSpec := { name := "fnGates", fn := fun _ => fun
  | [d] => { results := [.lit (.bool true)], args := [d] }
  | _ => none }
def fnGatesRow : OpenClaim := { program := "ytihogaabojnbpaa", sum := "f0c1a420860c6f0708812d5b7872d70c99a284da978d2e14fb8d562e534a8f19", func := "loop.example/g00967/laws.FnGates", spec := "fnGates", apart := false }
def FnGatesSaid : Prop := fnGatesRow.holds Try.pinned (OpenSpec.ofChange fnGatesSpec)

/-- ITS FALSE NEIGHBOUR: 'it returns false'. Refute it at one input. -/
def fnGatesWrong : ChangeSpec := { name := "fnGates", fn := fun _ => fun
  | [d] => { results := [.lit (.bool false)], args := [d] }
  | _ => none }
def FnGatesWrongFalsely : Prop := fnGatesRow.holds Try.pinned (OpenSpec.ofChange fnGatesWrong)

/-- 'laws.FnExactBucketOk': WHATEVER THE INPUT: true; the input reads as it did. -/
def fnExactBucketOkSpec : ChangeSpec := { name := "fnExactBucketOk", fn := fun _ => fun
  | [d] => { results := [.lit (.bool true)], args := [d] }
  | _ => none }
def fnExactBucketOkRow : OpenClaim := { program := "ytihogaabojnbpaa", sum := "f0c1a420860c6f0708812d5b7872d70c99a284da978d2e14fb8d562e534a8f19", func := "loop.example/g00967/laws.FnExactBucketOk", spec := "fnExactBucketOk", apart := false }
def FnExactBucketOkSaid : Prop := fnExactBucketOkRow.holds Try.pinned (OpenSpec.ofChange fnExactBucketOkSpec)

/-- ITS FALSE NEIGHBOUR: 'it returns false'. Refute it at one input. -/
def fnExactBucketOkWrong : ChangeSpec := { name := "fnExactBucketOk", fn := fun _ => fun
  | [d] => { results := [.lit (.bool false)], args := [d] }
  | _ => none }
def FnExactBucketOkWrongFalsely : Prop := fnExactBucketOkRow.holds Try.pinned (OpenSpec.ofChange fnExactBucketOkWrong)

/-- 'laws.FnExactBucketNew': WHATEVER THE INPUT: true; the input reads as it did. -/
def fnExactBucketNewSpec : ChangeSpec := { name := "fnExactBucketNew", fn := fun _ => fun
  | [d1, d2] => { results := [.lit (.bool true)], args := [d1, d2] }
  | _ => none }
def fnExactBucketNewRow : OpenClaim := { program := "ytihogaabojnbpaa", sum := "f0c1a420860c6f0708812d5b7872d70c99a284da978d2e14fb8d562e534a8f19", func := "loop.example/g00967/laws.FnExactBucketNew", spec := "fnExactBucketNew", apart := false }
def FnExactBucketNewSaid : Prop := fnExactBucketNewRow.holds Try.pinned (OpenSpec.ofChange fnExactBucketNewSpec)

/-- ITS FALSE NEIGHBOUR: 'it returns false'. Refute it at one input. -/
def fnExactBucketNewWrong : ChangeSpec := { name := "fnExactBucketNew", fn := fun _ => fun
  | [d1, d2] => { results := [.lit (.bool false)], args := [d1, d2] }
  | _ => none }
def FnExactBucketNewWrongFalsely : Prop := fnExactBucketNewRow.holds Try.pinned (OpenSpec.ofChange fnExactBucketNewWrong)

/-- 'laws.FnExactTakeOne': WHATEVER THE INPUT: true; the input reads as it did. -/
def fnExactTakeOneSpec : ChangeSpec := { name := "fnExactTakeOne", fn := fun _ => fun
  | [d] => { results := [.lit (.bool true)], args := [d] }
  | _ => none }
def fnExactTakeOneRow : OpenClaim := { program := "ytihogaabojnbpaa", sum := "f0c1a420860c6f0708812d5b7872d70c99a284da978d2e14fb8d562e534a8f19", func := "loop.example/g00967/laws.FnExactTakeOne", spec := "fnExactTakeOne", apart := false }
def FnExactTakeOneSaid : Prop := fnExactTakeOneRow.holds Try.pinned (OpenSpec.ofChange fnExactTakeOneSpec)

/-- ITS FALSE NEIGHBOUR: 'it returns false'. Refute it at one input. -/
def fnExactTakeOneWrong : ChangeSpec := { name := "fnExactTakeOne", fn := fun _ => fun
  | [d] => { results := [.lit (.bool false)], args := [d] }
  | _ => none }
def FnExactTakeOneWrongFalsely : Prop := fnExactTakeOneRow.holds Try.pinned (OpenSpec.ofChange fnExactTakeOneWrong)

/-- 'laws.FnExactFilled': WHATEVER THE INPUT: true; the input reads as it did. -/
def fnExactFilledSpec : ChangeSpec := { name := "fnExactFilled", fn := fun _ => fun
  | [d1, d2] => { results := [.lit (.bool true)], args := [d1, d2] }
  | _ => none }
def fnExactFilledRow : OpenClaim := { program := "ytihogaabojnbpaa", sum := "f0c1a420860c6f0708812d5b7872d70c99a284da978d2e14fb8d562e534a8f19", func := "loop.example/g00967/laws.FnExactFilled", spec := "fnExactFilled", apart := false }
def FnExactFilledSaid : Prop := fnExactFilledRow.holds Try.pinned (OpenSpec.ofChange fnExactFilledSpec)

/-- ITS FALSE NEIGHBOUR: 'it returns false'. Refute it at one input. -/
def fnExactFilledWrong : ChangeSpec := { name := "fnExactFilled", fn := fun _ => fun
  | [d1, d2] => { results := [.lit (.bool false)], args := [d1, d2] }
  | _ => none }
def FnExactFilledWrongFalsely : Prop := fnExactFilledRow.holds Try.pinned (OpenSpec.ofChange fnExactFilledWrong)

/-- 'laws.FnExactRunBucket': WHATEVER THE INPUT: true; the input reads as it did. -/
def fnExactRunBucketSpec : ChangeSpec := { name := "fnExactRunBucket", fn := fun _ => fun
  | [d1, d2] => { results := [.lit (.bool true)], args := [d1, d2] }
  | _ => none }
def fnExactRunBucketRow : OpenClaim := { program := "ytihogaabojnbpaa", sum := "f0c1a420860c6f0708812d5b7872d70c99a284da978d2e14fb8d562e534a8f19", func := "loop.example/g00967/laws.FnExactRunBucket", spec := "fnExactRunBucket", apart := false }
def FnExactRunBucketSaid : Prop := fnExactRunBucketRow.holds Try.pinned (OpenSpec.ofChange fnExactRunBucketSpec)

/-- ITS FALSE NEIGHBOUR: 'it returns false'. Refute it at one input. -/
def fnExactRunBucketWrong : ChangeSpec := { name := "fnExactRunBucket", fn := fun _ => fun
  | [d1, d2] => { results := [.lit (.bool false)], args := [d1, d2] }
  | _ => none }
def FnExactRunBucketWrongFalsely : Prop := fnExactRunBucketRow.holds Try.pinned (OpenSpec.ofChange fnExactRunBucketWrong)

/-- 'laws.FnExactMostIn': WHATEVER THE INPUT: true; the input reads as it did. -/
def fnExactMostInSpec : ChangeSpec := { name := "fnExactMostIn", fn := fun _ => fun
  | [d1, d2] => { results := [.lit (.bool true)], args := [d1, d2] }
  | _ => none }
def fnExactMostInRow : OpenClaim := { program := "ytihogaabojnbpaa", sum := "f0c1a420860c6f0708812d5b7872d70c99a284da978d2e14fb8d562e534a8f19", func := "loop.example/g00967/laws.FnExactMostIn", spec := "fnExactMostIn", apart := false }
def FnExactMostInSaid : Prop := fnExactMostInRow.holds Try.pinned (OpenSpec.ofChange fnExactMostInSpec)

/-- ITS FALSE NEIGHBOUR: 'it returns false'. Refute it at one input. -/
def fnExactMostInWrong : ChangeSpec := { name := "fnExactMostIn", fn := fun _ => fun
  | [d1, d2] => { results := [.lit (.bool false)], args := [d1, d2] }
  | _ => none }
def FnExactMostInWrongFalsely : Prop := fnExactMostInRow.holds Try.pinned (OpenSpec.ofChange fnExactMostInWrong)

/-- 'laws.FnFirst': WHATEVER THE INPUT: true; the input reads as it did. -/
def fnFirstSpec : ChangeSpec := { name := "fnFirst", fn := fun _ => fun
  | [d] => { results := [.lit (.bool true)], args := [d] }
  | _ => none }
def fnFirstRow : OpenClaim := { program := "ytihogaabojnbpaa", sum := "f0c1a420860c6f0708812d5b7872d70c99a284da978d2e14fb8d562e534a8f19", func := "loop.example/g00967/laws.FnFirst", spec := "fnFirst", apart := false }
def FnFirstSaid : Prop := fnFirstRow.holds Try.pinned (OpenSpec.ofChange fnFirstSpec)

/-- ITS FALSE NEIGHBOUR: 'it returns false'. Refute it at one input. -/
def fnFirstWrong : ChangeSpec := { name := "fnFirst", fn := fun _ => fun
  | [d] => { results := [.lit (.bool false)], args := [d] }
  | _ => none }
def FnFirstWrongFalsely : Prop := fnFirstRow.holds Try.pinned (OpenSpec.ofChange fnFirstWrong)

/- THE SECOND FORM. 'bulk': how many values and letters a reading holds, each counted each time it is reached (what is shared counts as often as it is met; a slice's spare places count too). A statement '..UptoSaid' is the law's where the arguments, and the package variables that the reading takes, are together of bulk at most 1048576: NARROWER than '..Said'. Prove '..Said' where nothing that the law and all that it calls make is longer than what came in: it says more and counts as full. Else prove '..UptoSaid'. A law counts once. -/
mutual
def uptoBulk {H : Type} : DataW H → Nat
  | .lit (.string bytes) => bytes.length + 1
  | .lit _ => 1
  | .nil => 1
  | .ptr d => uptoBulk d + 1
  | .slice elems spare => uptoBulkAll elems + uptoBulkAll spare + 1
  | .agg parts => uptoBulkAll parts + 1
  | .iface _ d => uptoBulk d + 1
  | .map entries => uptoBulkEntries entries + 1
  | .held _ => 1
def uptoBulkAll {H : Type} : List (DataW H) → Nat
  | [] => 0
  | d :: r => uptoBulk d + uptoBulkAll r
def uptoBulkEntries {H : Type} : List (Lit × DataW H) → Nat
  | [] => 0
  | x :: r => uptoBulkEntry x + uptoBulkEntries r
def uptoBulkEntry {H : Type} : Lit × DataW H → Nat
  | (.string bytes, d) => bytes.length + uptoBulk d + 1
  | (_, d) => uptoBulk d + 1
 end
def uptoSmall : (H : Type) → List (DataW H) → Bool := fun _ ds => decide (uptoBulkAll ds ≤ 1048576)
def OpenSpec.upto (s : _root_.Go.ChangeSpec) : _root_.Go.OpenSpec := { _root_.Go.OpenSpec.ofChange s with cond := some uptoSmall }

/-- 'laws.FnGates', WHERE WHAT IT READS IS OF BULK AT MOST 1048576: true; the input reads as it did. -/
def fnGatesUptoRow : OpenClaim := { program := "ytihogaabojnbpaa", sum := "f0c1a420860c6f0708812d5b7872d70c99a284da978d2e14fb8d562e534a8f19", func := "loop.example/g00967/laws.FnGates", spec := "fnGates", apart := false, narrowed := true }
def FnGatesUptoSaid : Prop := fnGatesUptoRow.holds Try.pinned (OpenSpec.upto fnGatesSpec)

/-- 'laws.FnExactBucketOk', WHERE WHAT IT READS IS OF BULK AT MOST 1048576: true; the input reads as it did. -/
def fnExactBucketOkUptoRow : OpenClaim := { program := "ytihogaabojnbpaa", sum := "f0c1a420860c6f0708812d5b7872d70c99a284da978d2e14fb8d562e534a8f19", func := "loop.example/g00967/laws.FnExactBucketOk", spec := "fnExactBucketOk", apart := false, narrowed := true }
def FnExactBucketOkUptoSaid : Prop := fnExactBucketOkUptoRow.holds Try.pinned (OpenSpec.upto fnExactBucketOkSpec)

/-- 'laws.FnExactBucketNew', WHERE WHAT IT READS IS OF BULK AT MOST 1048576: true; the input reads as it did. -/
def fnExactBucketNewUptoRow : OpenClaim := { program := "ytihogaabojnbpaa", sum := "f0c1a420860c6f0708812d5b7872d70c99a284da978d2e14fb8d562e534a8f19", func := "loop.example/g00967/laws.FnExactBucketNew", spec := "fnExactBucketNew", apart := false, narrowed := true }
def FnExactBucketNewUptoSaid : Prop := fnExactBucketNewUptoRow.holds Try.pinned (OpenSpec.upto fnExactBucketNewSpec)

/-- 'laws.FnExactTakeOne', WHERE WHAT IT READS IS OF BULK AT MOST 1048576: true; the input reads as it did. -/
def fnExactTakeOneUptoRow : OpenClaim := { program := "ytihogaabojnbpaa", sum := "f0c1a420860c6f0708812d5b7872d70c99a284da978d2e14fb8d562e534a8f19", func := "loop.example/g00967/laws.FnExactTakeOne", spec := "fnExactTakeOne", apart := false, narrowed := true }
def FnExactTakeOneUptoSaid : Prop := fnExactTakeOneUptoRow.holds Try.pinned (OpenSpec.upto fnExactTakeOneSpec)

/-- 'laws.FnExactFilled', WHERE WHAT IT READS IS OF BULK AT MOST 1048576: true; the input reads as it did. -/
def fnExactFilledUptoRow : OpenClaim := { program := "ytihogaabojnbpaa", sum := "f0c1a420860c6f0708812d5b7872d70c99a284da978d2e14fb8d562e534a8f19", func := "loop.example/g00967/laws.FnExactFilled", spec := "fnExactFilled", apart := false, narrowed := true }
def FnExactFilledUptoSaid : Prop := fnExactFilledUptoRow.holds Try.pinned (OpenSpec.upto fnExactFilledSpec)

/-- 'laws.FnExactRunBucket', WHERE WHAT IT READS IS OF BULK AT MOST 1048576: true; the input reads as it did. -/
def fnExactRunBucketUptoRow : OpenClaim := { program := "ytihogaabojnbpaa", sum := "f0c1a420860c6f0708812d5b7872d70c99a284da978d2e14fb8d562e534a8f19", func := "loop.example/g00967/laws.FnExactRunBucket", spec := "fnExactRunBucket", apart := false, narrowed := true }
def FnExactRunBucketUptoSaid : Prop := fnExactRunBucketUptoRow.holds Try.pinned (OpenSpec.upto fnExactRunBucketSpec)

/-- 'laws.FnExactMostIn', WHERE WHAT IT READS IS OF BULK AT MOST 1048576: true; the input reads as it did. -/
def fnExactMostInUptoRow : OpenClaim := { program := "ytihogaabojnbpaa", sum := "f0c1a420860c6f0708812d5b7872d70c99a284da978d2e14fb8d562e534a8f19", func := "loop.example/g00967/laws.FnExactMostIn", spec := "fnExactMostIn", apart := false, narrowed := true }
def FnExactMostInUptoSaid : Prop := fnExactMostInUptoRow.holds Try.pinned (OpenSpec.upto fnExactMostInSpec)

/-- 'laws.FnFirst', WHERE WHAT IT READS IS OF BULK AT MOST 1048576: true; the input reads as it did. -/
def fnFirstUptoRow : OpenClaim := { program := "ytihogaabojnbpaa", sum := "f0c1a420860c6f0708812d5b7872d70c99a284da978d2e14fb8d562e534a8f19", func := "loop.example/g00967/laws.FnFirst", spec := "fnFirst", apart := false, narrowed := true }
def FnFirstUptoSaid : Prop := fnFirstUptoRow.holds Try.pinned (OpenSpec.upto fnFirstSpec)

end Rows
end Go.Proofs.Ytihogaabojnbpaa
