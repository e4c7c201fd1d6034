/-
  No cell of these rows narrows 'for every input' (looked for: loops, veiled, ifaces, maps, wideKeys, modest, calm, conditions, laid).
  DERIVED. THE GIVEN ROWS OF THIS SEAT. 6 by the template 'for every input the law returns true; each argument reads behind the call as it read before'; 0 by the template 'total and deterministic' (their statements: YtigmldponhobhaaTotals.lean).
  GIVEN WITH THE SEED: the statements are not yours to turn. If you find one false, say at which input.
  Laid BY PROGRAM, IN A SANDBOX (cutbox-rows.mjs): the forced cells as the released guide's own fill.sh prints them over the translation b0bb4d15aded79b7… (all of the seat's roots in one cut). By AI agents, Wed Nov 11 2026. No macro, syntax, notation, axiom, sorry.
-/
import Derived.Test.YtigmldponhobhaaChecked
import GoSem.Claim
import GoSem.ClaimJoined
import GoSem.ClaimMapViews
import Derived.JoinedTies
import Derived.KernelRfl
namespace Go.Proofs.Ytigmldponhobhaa
/- THE CELL 'sum', in the pinned program and in every row, IS THE sha256 OF THE DUMP (.gsa) THAT YtigmldponhobhaaProg.lean LOADS. Nothing in Lean hashes anything: it is a label: what it is worth is what the hold of that sum in a sandbox is worth. -/
noncomputable def Try.pinned : Pinned := { name := "ytigmldponhobhaa", sum := "b0bb4d15aded79b7496dd4da9832f1ac7e1d619c9f7790be747f8b8d6e7018dd", checked := Try.checked }
namespace Rows
def none {H : Type} : Left H := { results := [], args := [] }

/-- 'laws.FnOptions': WHATEVER THE INPUT: true; the input reads as it did. -/
def fnOptionsSpec : ChangeSpec := { name := "fnOptions", fn := fun _ => fun
  | [d] => { results := [.lit (.bool true)], args := [d] }
  | _ => none }
def fnOptionsRow : OpenClaim := { program := "ytigmldponhobhaa", sum := "b0bb4d15aded79b7496dd4da9832f1ac7e1d619c9f7790be747f8b8d6e7018dd", func := "loop.example/g00967/laws.FnOptions", spec := "fnOptions", unfollowed := true, recurses := true, apart := false }
def FnOptionsSaid : Prop := fnOptionsRow.holds Try.pinned (OpenSpec.ofChange fnOptionsSpec)

/-- ITS FALSE NEIGHBOUR: 'it returns false'. Refute it at one input. -/
def fnOptionsWrong : ChangeSpec := { name := "fnOptions", fn := fun _ => fun
  | [d] => { results := [.lit (.bool false)], args := [d] }
  | _ => none }
def FnOptionsWrongFalsely : Prop := fnOptionsRow.holds Try.pinned (OpenSpec.ofChange fnOptionsWrong)

/-- 'laws.FnExactOptOk': WHATEVER THE INPUT: true; the input reads as it did. -/
def fnExactOptOkSpec : ChangeSpec := { name := "fnExactOptOk", fn := fun _ => fun
  | [d] => { results := [.lit (.bool true)], args := [d] }
  | _ => none }
def fnExactOptOkRow : OpenClaim := { program := "ytigmldponhobhaa", sum := "b0bb4d15aded79b7496dd4da9832f1ac7e1d619c9f7790be747f8b8d6e7018dd", func := "loop.example/g00967/laws.FnExactOptOk", spec := "fnExactOptOk", unfollowed := true, recurses := true, apart := false }
def FnExactOptOkSaid : Prop := fnExactOptOkRow.holds Try.pinned (OpenSpec.ofChange fnExactOptOkSpec)

/-- ITS FALSE NEIGHBOUR: 'it returns false'. Refute it at one input. -/
def fnExactOptOkWrong : ChangeSpec := { name := "fnExactOptOk", fn := fun _ => fun
  | [d] => { results := [.lit (.bool false)], args := [d] }
  | _ => none }
def FnExactOptOkWrongFalsely : Prop := fnExactOptOkRow.holds Try.pinned (OpenSpec.ofChange fnExactOptOkWrong)

/-- 'laws.FnExactSameOpt': WHATEVER THE INPUT: true; the input reads as it did. -/
def fnExactSameOptSpec : ChangeSpec := { name := "fnExactSameOpt", fn := fun _ => fun
  | [d1, d2] => { results := [.lit (.bool true)], args := [d1, d2] }
  | _ => none }
def fnExactSameOptRow : OpenClaim := { program := "ytigmldponhobhaa", sum := "b0bb4d15aded79b7496dd4da9832f1ac7e1d619c9f7790be747f8b8d6e7018dd", func := "loop.example/g00967/laws.FnExactSameOpt", spec := "fnExactSameOpt", apart := false }
def FnExactSameOptSaid : Prop := fnExactSameOptRow.holds Try.pinned (OpenSpec.ofChange fnExactSameOptSpec)

/-- ITS FALSE NEIGHBOUR: 'it returns false'. Refute it at one input. -/
def fnExactSameOptWrong : ChangeSpec := { name := "fnExactSameOpt", fn := fun _ => fun
  | [d1, d2] => { results := [.lit (.bool false)], args := [d1, d2] }
  | _ => none }
def FnExactSameOptWrongFalsely : Prop := fnExactSameOptRow.holds Try.pinned (OpenSpec.ofChange fnExactSameOptWrong)

/-- 'laws.FnExactOptText': WHATEVER THE INPUT: true; the input reads as it did. -/
def fnExactOptTextSpec : ChangeSpec := { name := "fnExactOptText", fn := fun _ => fun
  | [d] => { results := [.lit (.bool true)], args := [d] }
  | _ => none }
def fnExactOptTextRow : OpenClaim := { program := "ytigmldponhobhaa", sum := "b0bb4d15aded79b7496dd4da9832f1ac7e1d619c9f7790be747f8b8d6e7018dd", func := "loop.example/g00967/laws.FnExactOptText", spec := "fnExactOptText", unfollowed := true, recurses := true, apart := false }
def FnExactOptTextSaid : Prop := fnExactOptTextRow.holds Try.pinned (OpenSpec.ofChange fnExactOptTextSpec)

/-- ITS FALSE NEIGHBOUR: 'it returns false'. Refute it at one input. -/
def fnExactOptTextWrong : ChangeSpec := { name := "fnExactOptText", fn := fun _ => fun
  | [d] => { results := [.lit (.bool false)], args := [d] }
  | _ => none }
def FnExactOptTextWrongFalsely : Prop := fnExactOptTextRow.holds Try.pinned (OpenSpec.ofChange fnExactOptTextWrong)

/-- 'laws.FnExactReadOpt': WHATEVER THE INPUT: true; the input reads as it did. -/
def fnExactReadOptSpec : ChangeSpec := { name := "fnExactReadOpt", fn := fun _ => fun
  | [d1, d2] => { results := [.lit (.bool true)], args := [d1, d2] }
  | _ => none }
def fnExactReadOptRow : OpenClaim := { program := "ytigmldponhobhaa", sum := "b0bb4d15aded79b7496dd4da9832f1ac7e1d619c9f7790be747f8b8d6e7018dd", func := "loop.example/g00967/laws.FnExactReadOpt", spec := "fnExactReadOpt", unfollowed := true, recurses := true, apart := false }
def FnExactReadOptSaid : Prop := fnExactReadOptRow.holds Try.pinned (OpenSpec.ofChange fnExactReadOptSpec)

/-- ITS FALSE NEIGHBOUR: 'it returns false'. Refute it at one input. -/
def fnExactReadOptWrong : ChangeSpec := { name := "fnExactReadOpt", fn := fun _ => fun
  | [d1, d2] => { results := [.lit (.bool false)], args := [d1, d2] }
  | _ => none }
def FnExactReadOptWrongFalsely : Prop := fnExactReadOptRow.holds Try.pinned (OpenSpec.ofChange fnExactReadOptWrong)

/-- 'laws.FnExactOptSize': WHATEVER THE INPUT: true; the input reads as it did. -/
def fnExactOptSizeSpec : ChangeSpec := { name := "fnExactOptSize", fn := fun _ => fun
  | [d] => { results := [.lit (.bool true)], args := [d] }
  | _ => none }
def fnExactOptSizeRow : OpenClaim := { program := "ytigmldponhobhaa", sum := "b0bb4d15aded79b7496dd4da9832f1ac7e1d619c9f7790be747f8b8d6e7018dd", func := "loop.example/g00967/laws.FnExactOptSize", spec := "fnExactOptSize", unfollowed := true, recurses := true, apart := false }
def FnExactOptSizeSaid : Prop := fnExactOptSizeRow.holds Try.pinned (OpenSpec.ofChange fnExactOptSizeSpec)

/-- ITS FALSE NEIGHBOUR: 'it returns false'. Refute it at one input. -/
def fnExactOptSizeWrong : ChangeSpec := { name := "fnExactOptSize", fn := fun _ => fun
  | [d] => { results := [.lit (.bool false)], args := [d] }
  | _ => none }
def FnExactOptSizeWrongFalsely : Prop := fnExactOptSizeRow.holds Try.pinned (OpenSpec.ofChange fnExactOptSizeWrong)

/- THE SECOND FORM. 'bulk': how many values and letters a reading holds, each counted each time it is reached (what is shared counts as often as it is met; a slice's spare places count too). A statement '..UptoSaid' is the law's where the arguments, and the package variables that the reading takes, are together of bulk at most 1048576: NARROWER than '..Said'. Prove '..Said' where nothing that the law and all that it calls make is longer than what came in: it says more and counts as full. Else prove '..UptoSaid'. A law counts once. -/
mutual
def uptoBulk {H : Type} : DataW H → Nat
  | .lit (.string bytes) => bytes.length + 1
  | .lit _ => 1
  | .nil => 1
  | .ptr d => uptoBulk d + 1
  | .slice elems spare => uptoBulkAll elems + uptoBulkAll spare + 1
  | .agg parts => uptoBulkAll parts + 1
  | .iface _ d => uptoBulk d + 1
  | .map entries => uptoBulkEntries entries + 1
  | .held _ => 1
def uptoBulkAll {H : Type} : List (DataW H) → Nat
  | [] => 0
  | d :: r => uptoBulk d + uptoBulkAll r
def uptoBulkEntries {H : Type} : List (Lit × DataW H) → Nat
  | [] => 0
  | x :: r => uptoBulkEntry x + uptoBulkEntries r
def uptoBulkEntry {H : Type} : Lit × DataW H → Nat
  | (.string bytes, d) => bytes.length + uptoBulk d + 1
  | (_, d) => uptoBulk d + 1
 end
def uptoSmall : (H : Type) → List (DataW H) → Bool := fun _ ds => decide (uptoBulkAll ds ≤ 1048576)
def OpenSpec.upto (s : _root_.Go.ChangeSpec) : _root_.Go.OpenSpec := { _root_.Go.OpenSpec.ofChange s with cond := some uptoSmall }

/-- 'laws.FnOptions', WHERE WHAT IT READS IS OF BULK AT MOST 1048576: true; the input reads as it did. -/
def fnOptionsUptoRow : OpenClaim := { program := "ytigmldponhobhaa", sum := "b0bb4d15aded79b7496dd4da9832f1ac7e1d619c9f7790be747f8b8d6e7018dd", func := "loop.example/g00967/laws.FnOptions", spec := "fnOptions", unfollowed := true, recurses := true, apart := false, narrowed := true }
def FnOptionsUptoSaid : Prop := fnOptionsUptoRow.holds Try.pinned (OpenSpec.upto fnOptionsSpec)

/-- 'laws.FnExactOptOk', WHERE WHAT IT READS IS OF BULK AT MOST 1048576: true; the input reads as it did. -/
def fnExactOptOkUptoRow : OpenClaim := { program := "ytigmldponhobhaa", sum := "b0bb4d15aded79b7496dd4da9832f1ac7e1d619c9f7790be747f8b8d6e7018dd", func := "loop.example/g00967/laws.FnExactOptOk", spec := "fnExactOptOk", unfollowed := true, recurses := true, apart := false, narrowed := true }
def FnExactOptOkUptoSaid : Prop := fnExactOptOkUptoRow.holds Try.pinned (OpenSpec.upto fnExactOptOkSpec)

/-- 'laws.FnExactSameOpt', WHERE WHAT IT READS IS OF BULK AT MOST 1048576: true; the input reads as it did. -/
def fnExactSameOptUptoRow : OpenClaim := { program := "ytigmldponhobhaa", sum := "b0bb4d15aded79b7496dd4da9832f1ac7e1d619c9f7790be747f8b8d6e7018dd", func := "loop.example/g00967/laws.FnExactSameOpt", spec := "fnExactSameOpt", apart := false, narrowed := true }
def FnExactSameOptUptoSaid : Prop := fnExactSameOptUptoRow.holds Try.pinned (OpenSpec.upto fnExactSameOptSpec)

/-- 'laws.FnExactOptText', WHERE WHAT IT READS IS OF BULK AT MOST 1048576: true; the input reads as it did. -/
def fnExactOptTextUptoRow : OpenClaim := { program := "ytigmldponhobhaa", sum := "b0bb4d15aded79b7496dd4da9832f1ac7e1d619c9f7790be747f8b8d6e7018dd", func := "loop.example/g00967/laws.FnExactOptText", spec := "fnExactOptText", unfollowed := true, recurses := true, apart := false, narrowed := true }
def FnExactOptTextUptoSaid : Prop := fnExactOptTextUptoRow.holds Try.pinned (OpenSpec.upto fnExactOptTextSpec)

/-- 'laws.FnExactReadOpt', WHERE WHAT IT READS IS OF BULK AT MOST 1048576: true; the input reads as it did. -/
def fnExactReadOptUptoRow : OpenClaim := { program := "ytigmldponhobhaa", sum := "b0bb4d15aded79b7496dd4da9832f1ac7e1d619c9f7790be747f8b8d6e7018dd", func := "loop.example/g00967/laws.FnExactReadOpt", spec := "fnExactReadOpt", unfollowed := true, recurses := true, apart := false, narrowed := true }
def FnExactReadOptUptoSaid : Prop := fnExactReadOptUptoRow.holds Try.pinned (OpenSpec.upto fnExactReadOptSpec)

/-- 'laws.FnExactOptSize', WHERE WHAT IT READS IS OF BULK AT MOST 1048576: true; the input reads as it did. -/
def fnExactOptSizeUptoRow : OpenClaim := { program := "ytigmldponhobhaa", sum := "b0bb4d15aded79b7496dd4da9832f1ac7e1d619c9f7790be747f8b8d6e7018dd", func := "loop.example/g00967/laws.FnExactOptSize", spec := "fnExactOptSize", unfollowed := true, recurses := true, apart := false, narrowed := true }
def FnExactOptSizeUptoSaid : Prop := fnExactOptSizeUptoRow.holds Try.pinned (OpenSpec.upto fnExactOptSizeSpec)

end Rows
end Go.Proofs.Ytigmldponhobhaa
