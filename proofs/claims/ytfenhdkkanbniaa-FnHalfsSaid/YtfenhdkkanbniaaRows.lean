/-
  No cell of these rows narrows 'for every input' (looked for: loops, veiled, ifaces, maps, wideKeys, modest, calm, conditions, laid).
  DERIVED. THE GIVEN ROWS OF THIS SEAT. 6 by the template 'for every input the law returns true; each argument reads behind the call as it read before'; 0 by the template 'total and deterministic' (their statements: YtfenhdkkanbniaaTotals.lean).
  GIVEN WITH THE SEED: the statements are not yours to turn. If you find one false, say at which input.
  Laid BY PROGRAM, IN A SANDBOX (cutbox-rows.mjs): the forced cells as the released guide's own fill.sh prints them over the translation 0eff2d5283af1290… (all of the seat's roots in one cut). By AI agents, Wed Nov 11 2026. No macro, syntax, notation, axiom, sorry.
-/
import Derived.Test.YtfenhdkkanbniaaChecked
import GoSem.Claim
import GoSem.ClaimJoined
import GoSem.ClaimMapViews
import Derived.JoinedTies
import Derived.KernelRfl
namespace Go.Proofs.Ytfenhdkkanbniaa
/- THE CELL 'sum', in the pinned program and in every row, IS THE sha256 OF THE DUMP (.gsa) THAT YtfenhdkkanbniaaProg.lean LOADS. Nothing in Lean hashes anything: it is a label: what it is worth is what the hold of that sum in a sandbox is worth. -/
noncomputable def Try.pinned : Pinned := { name := "ytfenhdkkanbniaa", sum := "0eff2d5283af1290e7fb49cdbb047c31aaf24ce6400d904fc3ba74e20080ae2b", checked := Try.checked }
namespace Rows
def none {H : Type} : Left H := { results := [], args := [] }

/-- 'laws.FnHalfs': WHATEVER THE INPUT: true; the input reads as it did. -/
def fnHalfsSpec : ChangeSpec := { name := "fnHalfs", fn := fun _ => fun
  | [d] => { results := [.lit (.bool true)], args := [d] }
  | _ => none }
def fnHalfsRow : OpenClaim := { program := "ytfenhdkkanbniaa", sum := "0eff2d5283af1290e7fb49cdbb047c31aaf24ce6400d904fc3ba74e20080ae2b", func := "loop.example/g00967/laws.FnHalfs", spec := "fnHalfs", unfollowed := true, recurses := true, apart := false }
def FnHalfsSaid : Prop := fnHalfsRow.holds Try.pinned (OpenSpec.ofChange fnHalfsSpec)

/-- ITS FALSE NEIGHBOUR: 'it returns false'. Refute it at one input. -/
def fnHalfsWrong : ChangeSpec := { name := "fnHalfs", fn := fun _ => fun
  | [d] => { results := [.lit (.bool false)], args := [d] }
  | _ => none }
def FnHalfsWrongFalsely : Prop := fnHalfsRow.holds Try.pinned (OpenSpec.ofChange fnHalfsWrong)

/-- 'laws.FnExactHalfsOk': WHATEVER THE INPUT: true; the input reads as it did. -/
def fnExactHalfsOkSpec : ChangeSpec := { name := "fnExactHalfsOk", fn := fun _ => fun
  | [d] => { results := [.lit (.bool true)], args := [d] }
  | _ => none }
def fnExactHalfsOkRow : OpenClaim := { program := "ytfenhdkkanbniaa", sum := "0eff2d5283af1290e7fb49cdbb047c31aaf24ce6400d904fc3ba74e20080ae2b", func := "loop.example/g00967/laws.FnExactHalfsOk", spec := "fnExactHalfsOk", unfollowed := true, recurses := true, apart := false }
def FnExactHalfsOkSaid : Prop := fnExactHalfsOkRow.holds Try.pinned (OpenSpec.ofChange fnExactHalfsOkSpec)

/-- ITS FALSE NEIGHBOUR: 'it returns false'. Refute it at one input. -/
def fnExactHalfsOkWrong : ChangeSpec := { name := "fnExactHalfsOk", fn := fun _ => fun
  | [d] => { results := [.lit (.bool false)], args := [d] }
  | _ => none }
def FnExactHalfsOkWrongFalsely : Prop := fnExactHalfsOkRow.holds Try.pinned (OpenSpec.ofChange fnExactHalfsOkWrong)

/-- 'laws.FnExactHalfAt': WHATEVER THE INPUT: true; the input reads as it did. -/
def fnExactHalfAtSpec : ChangeSpec := { name := "fnExactHalfAt", fn := fun _ => fun
  | [d1, d2] => { results := [.lit (.bool true)], args := [d1, d2] }
  | _ => none }
def fnExactHalfAtRow : OpenClaim := { program := "ytfenhdkkanbniaa", sum := "0eff2d5283af1290e7fb49cdbb047c31aaf24ce6400d904fc3ba74e20080ae2b", func := "loop.example/g00967/laws.FnExactHalfAt", spec := "fnExactHalfAt", unfollowed := true, recurses := true, apart := false }
def FnExactHalfAtSaid : Prop := fnExactHalfAtRow.holds Try.pinned (OpenSpec.ofChange fnExactHalfAtSpec)

/-- ITS FALSE NEIGHBOUR: 'it returns false'. Refute it at one input. -/
def fnExactHalfAtWrong : ChangeSpec := { name := "fnExactHalfAt", fn := fun _ => fun
  | [d1, d2] => { results := [.lit (.bool false)], args := [d1, d2] }
  | _ => none }
def FnExactHalfAtWrongFalsely : Prop := fnExactHalfAtRow.holds Try.pinned (OpenSpec.ofChange fnExactHalfAtWrong)

/-- 'laws.FnExactPutHalf': WHATEVER THE INPUT: true; the input reads as it did. -/
def fnExactPutHalfSpec : ChangeSpec := { name := "fnExactPutHalf", fn := fun _ => fun
  | [d1, d2] => { results := [.lit (.bool true)], args := [d1, d2] }
  | _ => none }
def fnExactPutHalfRow : OpenClaim := { program := "ytfenhdkkanbniaa", sum := "0eff2d5283af1290e7fb49cdbb047c31aaf24ce6400d904fc3ba74e20080ae2b", func := "loop.example/g00967/laws.FnExactPutHalf", spec := "fnExactPutHalf", unfollowed := true, recurses := true, apart := false }
def FnExactPutHalfSaid : Prop := fnExactPutHalfRow.holds Try.pinned (OpenSpec.ofChange fnExactPutHalfSpec)

/-- ITS FALSE NEIGHBOUR: 'it returns false'. Refute it at one input. -/
def fnExactPutHalfWrong : ChangeSpec := { name := "fnExactPutHalf", fn := fun _ => fun
  | [d1, d2] => { results := [.lit (.bool false)], args := [d1, d2] }
  | _ => none }
def FnExactPutHalfWrongFalsely : Prop := fnExactPutHalfRow.holds Try.pinned (OpenSpec.ofChange fnExactPutHalfWrong)

/-- 'laws.FnExactDropHalf': WHATEVER THE INPUT: true; the input reads as it did. -/
def fnExactDropHalfSpec : ChangeSpec := { name := "fnExactDropHalf", fn := fun _ => fun
  | [d1, d2] => { results := [.lit (.bool true)], args := [d1, d2] }
  | _ => none }
def fnExactDropHalfRow : OpenClaim := { program := "ytfenhdkkanbniaa", sum := "0eff2d5283af1290e7fb49cdbb047c31aaf24ce6400d904fc3ba74e20080ae2b", func := "loop.example/g00967/laws.FnExactDropHalf", spec := "fnExactDropHalf", unfollowed := true, recurses := true, apart := false }
def FnExactDropHalfSaid : Prop := fnExactDropHalfRow.holds Try.pinned (OpenSpec.ofChange fnExactDropHalfSpec)

/-- ITS FALSE NEIGHBOUR: 'it returns false'. Refute it at one input. -/
def fnExactDropHalfWrong : ChangeSpec := { name := "fnExactDropHalf", fn := fun _ => fun
  | [d1, d2] => { results := [.lit (.bool false)], args := [d1, d2] }
  | _ => none }
def FnExactDropHalfWrongFalsely : Prop := fnExactDropHalfRow.holds Try.pinned (OpenSpec.ofChange fnExactDropHalfWrong)

/-- 'laws.FnExactYounger': WHATEVER THE INPUT: true; the input reads as it did. -/
def fnExactYoungerSpec : ChangeSpec := { name := "fnExactYounger", fn := fun _ => fun
  | [d1, d2] => { results := [.lit (.bool true)], args := [d1, d2] }
  | _ => none }
def fnExactYoungerRow : OpenClaim := { program := "ytfenhdkkanbniaa", sum := "0eff2d5283af1290e7fb49cdbb047c31aaf24ce6400d904fc3ba74e20080ae2b", func := "loop.example/g00967/laws.FnExactYounger", spec := "fnExactYounger", unfollowed := true, recurses := true, apart := false }
def FnExactYoungerSaid : Prop := fnExactYoungerRow.holds Try.pinned (OpenSpec.ofChange fnExactYoungerSpec)

/-- ITS FALSE NEIGHBOUR: 'it returns false'. Refute it at one input. -/
def fnExactYoungerWrong : ChangeSpec := { name := "fnExactYounger", fn := fun _ => fun
  | [d1, d2] => { results := [.lit (.bool false)], args := [d1, d2] }
  | _ => none }
def FnExactYoungerWrongFalsely : Prop := fnExactYoungerRow.holds Try.pinned (OpenSpec.ofChange fnExactYoungerWrong)

/- THE SECOND FORM. 'bulk': how many values and letters a reading holds, each counted each time it is reached (what is shared counts as often as it is met; a slice's spare places count too). A statement '..UptoSaid' is the law's where the arguments, and the package variables that the reading takes, are together of bulk at most 1048576: NARROWER than '..Said'. Prove '..Said' where nothing that the law and all that it calls make is longer than what came in: it says more and counts as full. Else prove '..UptoSaid'. A law counts once. -/
mutual
def uptoBulk {H : Type} : DataW H → Nat
  | .lit (.string bytes) => bytes.length + 1
  | .lit _ => 1
  | .nil => 1
  | .ptr d => uptoBulk d + 1
  | .slice elems spare => uptoBulkAll elems + uptoBulkAll spare + 1
  | .agg parts => uptoBulkAll parts + 1
  | .iface _ d => uptoBulk d + 1
  | .map entries => uptoBulkEntries entries + 1
  | .held _ => 1
def uptoBulkAll {H : Type} : List (DataW H) → Nat
  | [] => 0
  | d :: r => uptoBulk d + uptoBulkAll r
def uptoBulkEntries {H : Type} : List (Lit × DataW H) → Nat
  | [] => 0
  | x :: r => uptoBulkEntry x + uptoBulkEntries r
def uptoBulkEntry {H : Type} : Lit × DataW H → Nat
  | (.string bytes, d) => bytes.length + uptoBulk d + 1
  | (_, d) => uptoBulk d + 1
 end
def uptoSmall : (H : Type) → List (DataW H) → Bool := fun _ ds => decide (uptoBulkAll ds ≤ 1048576)
def OpenSpec.upto (s : _root_.Go.ChangeSpec) : _root_.Go.OpenSpec := { _root_.Go.OpenSpec.ofChange s with cond := some uptoSmall }

/-- 'laws.FnHalfs', WHERE WHAT IT READS IS OF BULK AT MOST 1048576: true; the input reads as it did. -/
def fnHalfsUptoRow : OpenClaim := { program := "ytfenhdkkanbniaa", sum := "0eff2d5283af1290e7fb49cdbb047c31aaf24ce6400d904fc3ba74e20080ae2b", func := "loop.example/g00967/laws.FnHalfs", spec := "fnHalfs", unfollowed := true, recurses := true, apart := false, narrowed := true }
def FnHalfsUptoSaid : Prop := fnHalfsUptoRow.holds Try.pinned (OpenSpec.upto fnHalfsSpec)

/-- 'laws.FnExactHalfsOk', WHERE WHAT IT READS IS OF BULK AT MOST 1048576: true; the input reads as it did. -/
def fnExactHalfsOkUptoRow : OpenClaim := { program := "ytfenhdkkanbniaa", sum := "0eff2d5283af1290e7fb49cdbb047c31aaf24ce6400d904fc3ba74e20080ae2b", func := "loop.example/g00967/laws.FnExactHalfsOk", spec := "fnExactHalfsOk", unfollowed := true, recurses := true, apart := false, narrowed := true }
def FnExactHalfsOkUptoSaid : Prop := fnExactHalfsOkUptoRow.holds Try.pinned (OpenSpec.upto fnExactHalfsOkSpec)

/-- 'laws.FnExactHalfAt', WHERE WHAT IT READS IS OF BULK AT MOST 1048576: true; the input reads as it did. -/
def fnExactHalfAtUptoRow : OpenClaim := { program := "ytfenhdkkanbniaa", sum := "0eff2d5283af1290e7fb49cdbb047c31aaf24ce6400d904fc3ba74e20080ae2b", func := "loop.example/g00967/laws.FnExactHalfAt", spec := "fnExactHalfAt", unfollowed := true, recurses := true, apart := false, narrowed := true }
def FnExactHalfAtUptoSaid : Prop := fnExactHalfAtUptoRow.holds Try.pinned (OpenSpec.upto fnExactHalfAtSpec)

/-- 'laws.FnExactPutHalf', WHERE WHAT IT READS IS OF BULK AT MOST 1048576: true; the input reads as it did. -/
def fnExactPutHalfUptoRow : OpenClaim := { program := "ytfenhdkkanbniaa", sum := "0eff2d5283af1290e7fb49cdbb047c31aaf24ce6400d904fc3ba74e20080ae2b", func := "loop.example/g00967/laws.FnExactPutHalf", spec := "fnExactPutHalf", unfollowed := true, recurses := true, apart := false, narrowed := true }
def FnExactPutHalfUptoSaid : Prop := fnExactPutHalfUptoRow.holds Try.pinned (OpenSpec.upto fnExactPutHalfSpec)

/-- 'laws.FnExactDropHalf', WHERE WHAT IT READS IS OF BULK AT MOST 1048576: true; the input reads as it did. -/
def fnExactDropHalfUptoRow : OpenClaim := { program := "ytfenhdkkanbniaa", sum := "0eff2d5283af1290e7fb49cdbb047c31aaf24ce6400d904fc3ba74e20080ae2b", func := "loop.example/g00967/laws.FnExactDropHalf", spec := "fnExactDropHalf", unfollowed := true, recurses := true, apart := false, narrowed := true }
def FnExactDropHalfUptoSaid : Prop := fnExactDropHalfUptoRow.holds Try.pinned (OpenSpec.upto fnExactDropHalfSpec)

/-- 'laws.FnExactYounger', WHERE WHAT IT READS IS OF BULK AT MOST 1048576: true; the input reads as it did. -/
def fnExactYoungerUptoRow : OpenClaim := { program := "ytfenhdkkanbniaa", sum := "0eff2d5283af1290e7fb49cdbb047c31aaf24ce6400d904fc3ba74e20080ae2b", func := "loop.example/g00967/laws.FnExactYounger", spec := "fnExactYounger", unfollowed := true, recurses := true, apart := false, narrowed := true }
def FnExactYoungerUptoSaid : Prop := fnExactYoungerUptoRow.holds Try.pinned (OpenSpec.upto fnExactYoungerSpec)

end Rows
end Go.Proofs.Ytfenhdkkanbniaa
