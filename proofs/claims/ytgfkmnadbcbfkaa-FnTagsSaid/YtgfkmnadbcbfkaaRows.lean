/-
  No cell of these rows narrows 'for every input' (looked for: loops, veiled, ifaces, maps, wideKeys, modest, calm, conditions, laid).
  DERIVED. THE GIVEN ROWS OF THIS SEAT. 6 by the template 'for every input the law returns true; each argument reads behind the call as it read before'; 0 by the template 'total and deterministic' (their statements: YtgfkmnadbcbfkaaTotals.lean).
  GIVEN WITH THE SEED: the statements are not yours to turn. If you find one false, say at which input.
  Laid BY PROGRAM, IN A SANDBOX (cutbox-rows.mjs): the forced cells as the released guide's own fill.sh prints them over the translation 68bf24d72a50367f… (all of the seat's roots in one cut). By AI agents, Wed Nov 11 2026. No macro, syntax, notation, axiom, sorry.
-/
import Derived.Test.YtgfkmnadbcbfkaaChecked
import GoSem.Claim
import GoSem.ClaimJoined
import GoSem.ClaimMapViews
import Derived.JoinedTies
import Derived.KernelRfl
namespace Go.Proofs.Ytgfkmnadbcbfkaa
/- THE CELL 'sum', in the pinned program and in every row, IS THE sha256 OF THE DUMP (.gsa) THAT YtgfkmnadbcbfkaaProg.lean LOADS. Nothing in Lean hashes anything: it is a label: what it is worth is what the hold of that sum in a sandbox is worth. -/
noncomputable def Try.pinned : Pinned := { name := "ytgfkmnadbcbfkaa", sum := "68bf24d72a50367f9dd23b333f4d2a9b07bd3ede14a629a4d27a8b7ec091f0c1", checked := Try.checked }
namespace Rows
def none {H : Type} : Left H := { results := [], args := [] }

/-- 'laws.FnTags': WHATEVER THE INPUT: true; the input reads as it did. -/
def fnTagsSpec : ChangeSpec := { name := "fnTags", fn := fun _ => fun
  | [d] => { results := [.lit (.bool true)], args := [d] }
  | _ => none }
def fnTagsRow : OpenClaim := { program := "ytgfkmnadbcbfkaa", sum := "68bf24d72a50367f9dd23b333f4d2a9b07bd3ede14a629a4d27a8b7ec091f0c1", func := "loop.example/g00967/laws.FnTags", spec := "fnTags", plainKeys := false, apart := false }
def FnTagsSaid : Prop := fnTagsRow.holds Try.pinned (OpenSpec.ofChange fnTagsSpec)

/-- ITS FALSE NEIGHBOUR: 'it returns false'. Refute it at one input. -/
def fnTagsWrong : ChangeSpec := { name := "fnTags", fn := fun _ => fun
  | [d] => { results := [.lit (.bool false)], args := [d] }
  | _ => none }
def FnTagsWrongFalsely : Prop := fnTagsRow.holds Try.pinned (OpenSpec.ofChange fnTagsWrong)

/-- 'laws.FnExactTagBack': WHATEVER THE INPUT: true; the input reads as it did. -/
def fnExactTagBackSpec : ChangeSpec := { name := "fnExactTagBack", fn := fun _ => fun
  | [d1, d2, d3, d4] => { results := [.lit (.bool true)], args := [d1, d2, d3, d4] }
  | _ => none }
def fnExactTagBackRow : OpenClaim := { program := "ytgfkmnadbcbfkaa", sum := "68bf24d72a50367f9dd23b333f4d2a9b07bd3ede14a629a4d27a8b7ec091f0c1", func := "loop.example/g00967/laws.FnExactTagBack", spec := "fnExactTagBack", plainKeys := false, apart := false }
def FnExactTagBackSaid : Prop := fnExactTagBackRow.holds Try.pinned (OpenSpec.ofChange fnExactTagBackSpec)

/-- ITS FALSE NEIGHBOUR: 'it returns false'. Refute it at one input. -/
def fnExactTagBackWrong : ChangeSpec := { name := "fnExactTagBack", fn := fun _ => fun
  | [d1, d2, d3, d4] => { results := [.lit (.bool false)], args := [d1, d2, d3, d4] }
  | _ => none }
def FnExactTagBackWrongFalsely : Prop := fnExactTagBackRow.holds Try.pinned (OpenSpec.ofChange fnExactTagBackWrong)

/-- 'laws.FnExactTagDone': WHATEVER THE INPUT: true; the input reads as it did. -/
def fnExactTagDoneSpec : ChangeSpec := { name := "fnExactTagDone", fn := fun _ => fun
  | [d1, d2, d3, d4] => { results := [.lit (.bool true)], args := [d1, d2, d3, d4] }
  | _ => none }
def fnExactTagDoneRow : OpenClaim := { program := "ytgfkmnadbcbfkaa", sum := "68bf24d72a50367f9dd23b333f4d2a9b07bd3ede14a629a4d27a8b7ec091f0c1", func := "loop.example/g00967/laws.FnExactTagDone", spec := "fnExactTagDone", plainKeys := false, apart := false }
def FnExactTagDoneSaid : Prop := fnExactTagDoneRow.holds Try.pinned (OpenSpec.ofChange fnExactTagDoneSpec)

/-- ITS FALSE NEIGHBOUR: 'it returns false'. Refute it at one input. -/
def fnExactTagDoneWrong : ChangeSpec := { name := "fnExactTagDone", fn := fun _ => fun
  | [d1, d2, d3, d4] => { results := [.lit (.bool false)], args := [d1, d2, d3, d4] }
  | _ => none }
def FnExactTagDoneWrongFalsely : Prop := fnExactTagDoneRow.holds Try.pinned (OpenSpec.ofChange fnExactTagDoneWrong)

/-- 'laws.FnExactTagAddr': WHATEVER THE INPUT: true; the input reads as it did. -/
def fnExactTagAddrSpec : ChangeSpec := { name := "fnExactTagAddr", fn := fun _ => fun
  | [d1, d2, d3, d4] => { results := [.lit (.bool true)], args := [d1, d2, d3, d4] }
  | _ => none }
def fnExactTagAddrRow : OpenClaim := { program := "ytgfkmnadbcbfkaa", sum := "68bf24d72a50367f9dd23b333f4d2a9b07bd3ede14a629a4d27a8b7ec091f0c1", func := "loop.example/g00967/laws.FnExactTagAddr", spec := "fnExactTagAddr", plainKeys := false, apart := false }
def FnExactTagAddrSaid : Prop := fnExactTagAddrRow.holds Try.pinned (OpenSpec.ofChange fnExactTagAddrSpec)

/-- ITS FALSE NEIGHBOUR: 'it returns false'. Refute it at one input. -/
def fnExactTagAddrWrong : ChangeSpec := { name := "fnExactTagAddr", fn := fun _ => fun
  | [d1, d2, d3, d4] => { results := [.lit (.bool false)], args := [d1, d2, d3, d4] }
  | _ => none }
def FnExactTagAddrWrongFalsely : Prop := fnExactTagAddrRow.holds Try.pinned (OpenSpec.ofChange fnExactTagAddrWrong)

/-- 'laws.FnExactCanMake': WHATEVER THE INPUT: true; the input reads as it did. -/
def fnExactCanMakeSpec : ChangeSpec := { name := "fnExactCanMake", fn := fun _ => fun
  | [d1, d2] => { results := [.lit (.bool true)], args := [d1, d2] }
  | _ => none }
def fnExactCanMakeRow : OpenClaim := { program := "ytgfkmnadbcbfkaa", sum := "68bf24d72a50367f9dd23b333f4d2a9b07bd3ede14a629a4d27a8b7ec091f0c1", func := "loop.example/g00967/laws.FnExactCanMake", spec := "fnExactCanMake", plainKeys := false, apart := false }
def FnExactCanMakeSaid : Prop := fnExactCanMakeRow.holds Try.pinned (OpenSpec.ofChange fnExactCanMakeSpec)

/-- ITS FALSE NEIGHBOUR: 'it returns false'. Refute it at one input. -/
def fnExactCanMakeWrong : ChangeSpec := { name := "fnExactCanMake", fn := fun _ => fun
  | [d1, d2] => { results := [.lit (.bool false)], args := [d1, d2] }
  | _ => none }
def FnExactCanMakeWrongFalsely : Prop := fnExactCanMakeRow.holds Try.pinned (OpenSpec.ofChange fnExactCanMakeWrong)

/-- 'laws.FnExactLearn': WHATEVER THE INPUT: true; the input reads as it did. -/
def fnExactLearnSpec : ChangeSpec := { name := "fnExactLearn", fn := fun _ => fun
  | [d1, d2] => { results := [.lit (.bool true)], args := [d1, d2] }
  | _ => none }
def fnExactLearnRow : OpenClaim := { program := "ytgfkmnadbcbfkaa", sum := "68bf24d72a50367f9dd23b333f4d2a9b07bd3ede14a629a4d27a8b7ec091f0c1", func := "loop.example/g00967/laws.FnExactLearn", spec := "fnExactLearn", plainKeys := false, apart := false }
def FnExactLearnSaid : Prop := fnExactLearnRow.holds Try.pinned (OpenSpec.ofChange fnExactLearnSpec)

/-- ITS FALSE NEIGHBOUR: 'it returns false'. Refute it at one input. -/
def fnExactLearnWrong : ChangeSpec := { name := "fnExactLearn", fn := fun _ => fun
  | [d1, d2] => { results := [.lit (.bool false)], args := [d1, d2] }
  | _ => none }
def FnExactLearnWrongFalsely : Prop := fnExactLearnRow.holds Try.pinned (OpenSpec.ofChange fnExactLearnWrong)

/- THE SECOND FORM. 'bulk': how many values and letters a reading holds, each counted each time it is reached (what is shared counts as often as it is met; a slice's spare places count too). A statement '..UptoSaid' is the law's where the arguments, and the package variables that the reading takes, are together of bulk at most 1048576: NARROWER than '..Said'. Prove '..Said' where nothing that the law and all that it calls make is longer than what came in: it says more and counts as full. Else prove '..UptoSaid'. A law counts once. -/
mutual
def uptoBulk {H : Type} : DataW H → Nat
  | .lit (.string bytes) => bytes.length + 1
  | .lit _ => 1
  | .nil => 1
  | .ptr d => uptoBulk d + 1
  | .slice elems spare => uptoBulkAll elems + uptoBulkAll spare + 1
  | .agg parts => uptoBulkAll parts + 1
  | .iface _ d => uptoBulk d + 1
  | .map entries => uptoBulkEntries entries + 1
  | .held _ => 1
def uptoBulkAll {H : Type} : List (DataW H) → Nat
  | [] => 0
  | d :: r => uptoBulk d + uptoBulkAll r
def uptoBulkEntries {H : Type} : List (Lit × DataW H) → Nat
  | [] => 0
  | x :: r => uptoBulkEntry x + uptoBulkEntries r
def uptoBulkEntry {H : Type} : Lit × DataW H → Nat
  | (.string bytes, d) => bytes.length + uptoBulk d + 1
  | (_, d) => uptoBulk d + 1
 end
def uptoSmall : (H : Type) → List (DataW H) → Bool := fun _ ds => decide (uptoBulkAll ds ≤ 1048576)
def OpenSpec.upto (s : _root_.Go.ChangeSpec) : _root_.Go.OpenSpec := { _root_.Go.OpenSpec.ofChange s with cond := some uptoSmall }

/-- 'laws.FnTags', WHERE WHAT IT READS IS OF BULK AT MOST 1048576: true; the input reads as it did. -/
def fnTagsUptoRow : OpenClaim := { program := "ytgfkmnadbcbfkaa", sum := "68bf24d72a50367f9dd23b333f4d2a9b07bd3ede14a629a4d27a8b7ec091f0c1", func := "loop.example/g00967/laws.FnTags", spec := "fnTags", plainKeys := false, apart := false, narrowed := true }
def FnTagsUptoSaid : Prop := fnTagsUptoRow.holds Try.pinned (OpenSpec.upto fnTagsSpec)

/-- 'laws.FnExactTagBack', WHERE WHAT IT READS IS OF BULK AT MOST 1048576: true; the input reads as it did. -/
def fnExactTagBackUptoRow : OpenClaim := { program := "ytgfkmnadbcbfkaa", sum := "68bf24d72a50367f9dd23b333f4d2a9b07bd3ede14a629a4d27a8b7ec091f0c1", func := "loop.example/g00967/laws.FnExactTagBack", spec := "fnExactTagBack", plainKeys := false, apart := false, narrowed := true }
def FnExactTagBackUptoSaid : Prop := fnExactTagBackUptoRow.holds Try.pinned (OpenSpec.upto fnExactTagBackSpec)

/-- 'laws.FnExactTagDone', WHERE WHAT IT READS IS OF BULK AT MOST 1048576: true; the input reads as it did. -/
def fnExactTagDoneUptoRow : OpenClaim := { program := "ytgfkmnadbcbfkaa", sum := "68bf24d72a50367f9dd23b333f4d2a9b07bd3ede14a629a4d27a8b7ec091f0c1", func := "loop.example/g00967/laws.FnExactTagDone", spec := "fnExactTagDone", plainKeys := false, apart := false, narrowed := true }
def FnExactTagDoneUptoSaid : Prop := fnExactTagDoneUptoRow.holds Try.pinned (OpenSpec.upto fnExactTagDoneSpec)

/-- 'laws.FnExactTagAddr', WHERE WHAT IT READS IS OF BULK AT MOST 1048576: true; the input reads as it did. -/
def fnExactTagAddrUptoRow : OpenClaim := { program := "ytgfkmnadbcbfkaa", sum := "68bf24d72a50367f9dd23b333f4d2a9b07bd3ede14a629a4d27a8b7ec091f0c1", func := "loop.example/g00967/laws.FnExactTagAddr", spec := "fnExactTagAddr", plainKeys := false, apart := false, narrowed := true }
def FnExactTagAddrUptoSaid : Prop := fnExactTagAddrUptoRow.holds Try.pinned (OpenSpec.upto fnExactTagAddrSpec)

/-- 'laws.FnExactCanMake', WHERE WHAT IT READS IS OF BULK AT MOST 1048576: true; the input reads as it did. -/
def fnExactCanMakeUptoRow : OpenClaim := { program := "ytgfkmnadbcbfkaa", sum := "68bf24d72a50367f9dd23b333f4d2a9b07bd3ede14a629a4d27a8b7ec091f0c1", func := "loop.example/g00967/laws.FnExactCanMake", spec := "fnExactCanMake", plainKeys := false, apart := false, narrowed := true }
def FnExactCanMakeUptoSaid : Prop := fnExactCanMakeUptoRow.holds Try.pinned (OpenSpec.upto fnExactCanMakeSpec)

/-- 'laws.FnExactLearn', WHERE WHAT IT READS IS OF BULK AT MOST 1048576: true; the input reads as it did. -/
def fnExactLearnUptoRow : OpenClaim := { program := "ytgfkmnadbcbfkaa", sum := "68bf24d72a50367f9dd23b333f4d2a9b07bd3ede14a629a4d27a8b7ec091f0c1", func := "loop.example/g00967/laws.FnExactLearn", spec := "fnExactLearn", plainKeys := false, apart := false, narrowed := true }
def FnExactLearnUptoSaid : Prop := fnExactLearnUptoRow.holds Try.pinned (OpenSpec.upto fnExactLearnSpec)

end Rows
end Go.Proofs.Ytgfkmnadbcbfkaa
