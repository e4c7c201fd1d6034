/-
  No cell of these rows narrows 'for every input' (looked for: loops, veiled, ifaces, maps, wideKeys, modest, calm, conditions, laid).
  DERIVED. THE GIVEN ROWS OF THIS SEAT. 5 by the template 'for every input the law returns true; each argument reads behind the call as it read before'; 0 by the template 'total and deterministic' (their statements: YtmokepopmfcdnaaTotals.lean).
  GIVEN WITH THE SEED: the statements are not yours to turn. If you find one false, say at which input.
  Laid BY PROGRAM, IN A SANDBOX (cutbox-rows.mjs): the forced cells as the released guide's own fill.sh prints them over the translation 0e27f55bb5a86858… (all of the seat's roots in one cut). By AI agents, Wed Nov 11 2026. No macro, syntax, notation, axiom, sorry.
-/
import Derived.Test.YtmokepopmfcdnaaChecked
import GoSem.Claim
import GoSem.ClaimJoined
import GoSem.ClaimMapViews
import Derived.JoinedTies
import Derived.KernelRfl
namespace Go.Proofs.Ytmokepopmfcdnaa
/- THE CELL 'sum', in the pinned program and in every row, IS THE sha256 OF THE DUMP (.gsa) THAT YtmokepopmfcdnaaProg.lean LOADS. Nothing in Lean hashes anything: it is a label: what it is worth is what the hold of that sum in a sandbox is worth. -/
noncomputable def Try.pinned : Pinned := { name := "ytmokepopmfcdnaa", sum := "0e27f55bb5a86858c44fcb4184742abf08f85453486d3227a4a9c4c3a1f16497", checked := Try.checked }
namespace Rows
def none {H : Type} : Left H := { results := [], args := [] }

/-- 'laws.FnPolicies': WHATEVER THE INPUT: true; the input reads as it did. -/
def fnPoliciesSpec : ChangeSpec := { name := "fnPolicies", fn := fun _ => fun
  | [d] => { results := [.lit (.bool true)], args := [d] }
  | _ => none }
def fnPoliciesRow : OpenClaim := { program := "ytmokepopmfcdnaa", sum := "0e27f55bb5a86858c44fcb4184742abf08f85453486d3227a4a9c4c3a1f16497", func := "loop.example/g00967/laws.FnPolicies", spec := "fnPolicies", unfollowed := true, recurses := true, apart := false }
def FnPoliciesSaid : Prop := fnPoliciesRow.holds Try.pinned (OpenSpec.ofChange fnPoliciesSpec)

/-- ITS FALSE NEIGHBOUR: 'it returns false'. Refute it at one input. -/
def fnPoliciesWrong : ChangeSpec := { name := "fnPolicies", fn := fun _ => fun
  | [d] => { results := [.lit (.bool false)], args := [d] }
  | _ => none }
def FnPoliciesWrongFalsely : Prop := fnPoliciesRow.holds Try.pinned (OpenSpec.ofChange fnPoliciesWrong)

/-- 'laws.FnExactPolicyOk': WHATEVER THE INPUT: true; the input reads as it did. -/
def fnExactPolicyOkSpec : ChangeSpec := { name := "fnExactPolicyOk", fn := fun _ => fun
  | [d] => { results := [.lit (.bool true)], args := [d] }
  | _ => none }
def fnExactPolicyOkRow : OpenClaim := { program := "ytmokepopmfcdnaa", sum := "0e27f55bb5a86858c44fcb4184742abf08f85453486d3227a4a9c4c3a1f16497", func := "loop.example/g00967/laws.FnExactPolicyOk", spec := "fnExactPolicyOk", apart := false }
def FnExactPolicyOkSaid : Prop := fnExactPolicyOkRow.holds Try.pinned (OpenSpec.ofChange fnExactPolicyOkSpec)

/-- ITS FALSE NEIGHBOUR: 'it returns false'. Refute it at one input. -/
def fnExactPolicyOkWrong : ChangeSpec := { name := "fnExactPolicyOk", fn := fun _ => fun
  | [d] => { results := [.lit (.bool false)], args := [d] }
  | _ => none }
def FnExactPolicyOkWrongFalsely : Prop := fnExactPolicyOkRow.holds Try.pinned (OpenSpec.ofChange fnExactPolicyOkWrong)

/-- 'laws.FnExactWantedOf': WHATEVER THE INPUT: true; the input reads as it did. -/
def fnExactWantedOfSpec : ChangeSpec := { name := "fnExactWantedOf", fn := fun _ => fun
  | [d1, d2, d3] => { results := [.lit (.bool true)], args := [d1, d2, d3] }
  | _ => none }
def fnExactWantedOfRow : OpenClaim := { program := "ytmokepopmfcdnaa", sum := "0e27f55bb5a86858c44fcb4184742abf08f85453486d3227a4a9c4c3a1f16497", func := "loop.example/g00967/laws.FnExactWantedOf", spec := "fnExactWantedOf", unfollowed := true, recurses := true, apart := false }
def FnExactWantedOfSaid : Prop := fnExactWantedOfRow.holds Try.pinned (OpenSpec.ofChange fnExactWantedOfSpec)

/-- ITS FALSE NEIGHBOUR: 'it returns false'. Refute it at one input. -/
def fnExactWantedOfWrong : ChangeSpec := { name := "fnExactWantedOf", fn := fun _ => fun
  | [d1, d2, d3] => { results := [.lit (.bool false)], args := [d1, d2, d3] }
  | _ => none }
def FnExactWantedOfWrongFalsely : Prop := fnExactWantedOfRow.holds Try.pinned (OpenSpec.ofChange fnExactWantedOfWrong)

/-- 'laws.FnExactMissingOf': WHATEVER THE INPUT: true; the input reads as it did. -/
def fnExactMissingOfSpec : ChangeSpec := { name := "fnExactMissingOf", fn := fun _ => fun
  | [d1, d2] => { results := [.lit (.bool true)], args := [d1, d2] }
  | _ => none }
def fnExactMissingOfRow : OpenClaim := { program := "ytmokepopmfcdnaa", sum := "0e27f55bb5a86858c44fcb4184742abf08f85453486d3227a4a9c4c3a1f16497", func := "loop.example/g00967/laws.FnExactMissingOf", spec := "fnExactMissingOf", apart := false }
def FnExactMissingOfSaid : Prop := fnExactMissingOfRow.holds Try.pinned (OpenSpec.ofChange fnExactMissingOfSpec)

/-- ITS FALSE NEIGHBOUR: 'it returns false'. Refute it at one input. -/
def fnExactMissingOfWrong : ChangeSpec := { name := "fnExactMissingOf", fn := fun _ => fun
  | [d1, d2] => { results := [.lit (.bool false)], args := [d1, d2] }
  | _ => none }
def FnExactMissingOfWrongFalsely : Prop := fnExactMissingOfRow.holds Try.pinned (OpenSpec.ofChange fnExactMissingOfWrong)

/-- 'laws.FnExactRoadBack': WHATEVER THE INPUT: true; the input reads as it did. -/
def fnExactRoadBackSpec : ChangeSpec := { name := "fnExactRoadBack", fn := fun _ => fun
  | [d] => { results := [.lit (.bool true)], args := [d] }
  | _ => none }
def fnExactRoadBackRow : OpenClaim := { program := "ytmokepopmfcdnaa", sum := "0e27f55bb5a86858c44fcb4184742abf08f85453486d3227a4a9c4c3a1f16497", func := "loop.example/g00967/laws.FnExactRoadBack", spec := "fnExactRoadBack", apart := false }
def FnExactRoadBackSaid : Prop := fnExactRoadBackRow.holds Try.pinned (OpenSpec.ofChange fnExactRoadBackSpec)

/-- ITS FALSE NEIGHBOUR: 'it returns false'. Refute it at one input. -/
def fnExactRoadBackWrong : ChangeSpec := { name := "fnExactRoadBack", fn := fun _ => fun
  | [d] => { results := [.lit (.bool false)], args := [d] }
  | _ => none }
def FnExactRoadBackWrongFalsely : Prop := fnExactRoadBackRow.holds Try.pinned (OpenSpec.ofChange fnExactRoadBackWrong)

/- THE SECOND FORM. 'bulk': how many values and letters a reading holds, each counted each time it is reached (what is shared counts as often as it is met; a slice's spare places count too). A statement '..UptoSaid' is the law's where the arguments, and the package variables that the reading takes, are together of bulk at most 1048576: NARROWER than '..Said'. Prove '..Said' where nothing that the law and all that it calls make is longer than what came in: it says more and counts as full. Else prove '..UptoSaid'. A law counts once. -/
mutual
def uptoBulk {H : Type} : DataW H → Nat
  | .lit (.string bytes) => bytes.length + 1
  | .lit _ => 1
  | .nil => 1
  | .ptr d => uptoBulk d + 1
  | .slice elems spare => uptoBulkAll elems + uptoBulkAll spare + 1
  | .agg parts => uptoBulkAll parts + 1
  | .iface _ d => uptoBulk d + 1
  | .map entries => uptoBulkEntries entries + 1
  | .held _ => 1
def uptoBulkAll {H : Type} : List (DataW H) → Nat
  | [] => 0
  | d :: r => uptoBulk d + uptoBulkAll r
def uptoBulkEntries {H : Type} : List (Lit × DataW H) → Nat
  | [] => 0
  | x :: r => uptoBulkEntry x + uptoBulkEntries r
def uptoBulkEntry {H : Type} : Lit × DataW H → Nat
  | (.string bytes, d) => bytes.length + uptoBulk d + 1
  | (_, d) => uptoBulk d + 1
 end
def uptoSmall : (H : Type) → List (DataW H) → Bool := fun _ ds => decide (uptoBulkAll ds ≤ 1048576)
def OpenSpec.upto (s : _root_.Go.ChangeSpec) : _root_.Go.OpenSpec := { _root_.Go.OpenSpec.ofChange s with cond := some uptoSmall }

/-- 'laws.FnPolicies', WHERE WHAT IT READS IS OF BULK AT MOST 1048576: true; the input reads as it did. -/
def fnPoliciesUptoRow : OpenClaim := { program := "ytmokepopmfcdnaa", sum := "0e27f55bb5a86858c44fcb4184742abf08f85453486d3227a4a9c4c3a1f16497", func := "loop.example/g00967/laws.FnPolicies", spec := "fnPolicies", unfollowed := true, recurses := true, apart := false, narrowed := true }
def FnPoliciesUptoSaid : Prop := fnPoliciesUptoRow.holds Try.pinned (OpenSpec.upto fnPoliciesSpec)

/-- 'laws.FnExactPolicyOk', WHERE WHAT IT READS IS OF BULK AT MOST 1048576: true; the input reads as it did. -/
def fnExactPolicyOkUptoRow : OpenClaim := { program := "ytmokepopmfcdnaa", sum := "0e27f55bb5a86858c44fcb4184742abf08f85453486d3227a4a9c4c3a1f16497", func := "loop.example/g00967/laws.FnExactPolicyOk", spec := "fnExactPolicyOk", apart := false, narrowed := true }
def FnExactPolicyOkUptoSaid : Prop := fnExactPolicyOkUptoRow.holds Try.pinned (OpenSpec.upto fnExactPolicyOkSpec)

/-- 'laws.FnExactWantedOf', WHERE WHAT IT READS IS OF BULK AT MOST 1048576: true; the input reads as it did. -/
def fnExactWantedOfUptoRow : OpenClaim := { program := "ytmokepopmfcdnaa", sum := "0e27f55bb5a86858c44fcb4184742abf08f85453486d3227a4a9c4c3a1f16497", func := "loop.example/g00967/laws.FnExactWantedOf", spec := "fnExactWantedOf", unfollowed := true, recurses := true, apart := false, narrowed := true }
def FnExactWantedOfUptoSaid : Prop := fnExactWantedOfUptoRow.holds Try.pinned (OpenSpec.upto fnExactWantedOfSpec)

/-- 'laws.FnExactMissingOf', WHERE WHAT IT READS IS OF BULK AT MOST 1048576: true; the input reads as it did. -/
def fnExactMissingOfUptoRow : OpenClaim := { program := "ytmokepopmfcdnaa", sum := "0e27f55bb5a86858c44fcb4184742abf08f85453486d3227a4a9c4c3a1f16497", func := "loop.example/g00967/laws.FnExactMissingOf", spec := "fnExactMissingOf", apart := false, narrowed := true }
def FnExactMissingOfUptoSaid : Prop := fnExactMissingOfUptoRow.holds Try.pinned (OpenSpec.upto fnExactMissingOfSpec)

/-- 'laws.FnExactRoadBack', WHERE WHAT IT READS IS OF BULK AT MOST 1048576: true; the input reads as it did. -/
def fnExactRoadBackUptoRow : OpenClaim := { program := "ytmokepopmfcdnaa", sum := "0e27f55bb5a86858c44fcb4184742abf08f85453486d3227a4a9c4c3a1f16497", func := "loop.example/g00967/laws.FnExactRoadBack", spec := "fnExactRoadBack", apart := false, narrowed := true }
def FnExactRoadBackUptoSaid : Prop := fnExactRoadBackUptoRow.holds Try.pinned (OpenSpec.upto fnExactRoadBackSpec)

end Rows
end Go.Proofs.Ytmokepopmfcdnaa
