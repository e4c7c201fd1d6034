/-
  No cell of these rows narrows 'for every input' (looked for: loops, veiled, ifaces, maps, wideKeys, modest, calm, conditions, laid).
  DERIVED. THE GIVEN ROWS OF THIS SEAT. 6 by the template 'for every input the law returns true; each argument reads behind the call as it read before'; 0 by the template 'total and deterministic' (their statements: YtmfbhejclmelaaaTotals.lean).
  GIVEN WITH THE SEED: the statements are not yours to turn. If you find one false, say at which input.
  Laid BY PROGRAM, IN A SANDBOX (cutbox-rows.mjs): the forced cells as the released guide's own fill.sh prints them over the translation 4c735c5f6cb64433… (all of the seat's roots in one cut). By AI agents, Wed Nov 11 2026. No macro, syntax, notation, axiom, sorry.
-/
import Derived.Test.YtmfbhejclmelaaaChecked
import GoSem.Claim
import GoSem.ClaimJoined
import GoSem.ClaimMapViews
import Derived.JoinedTies
import Derived.KernelRfl
namespace Go.Proofs.Ytmfbhejclmelaaa
/- THE CELL 'sum', in the pinned program and in every row, IS THE sha256 OF THE DUMP (.gsa) THAT YtmfbhejclmelaaaProg.lean LOADS. Nothing in Lean hashes anything: it is a label: what it is worth is what the hold of that sum in a sandbox is worth. -/
noncomputable def Try.pinned : Pinned := { name := "ytmfbhejclmelaaa", sum := "4c735c5f6cb64433a28111a944e1a655c0ded9c3decf4066fb5b899dc1c38ade", checked := Try.checked }
namespace Rows
def none {H : Type} : Left H := { results := [], args := [] }

/-- 'laws.FnAddrs': WHATEVER THE INPUT: true; the input reads as it did. -/
def fnAddrsSpec : ChangeSpec := { name := "fnAddrs", fn := fun _ => fun
  | [d] => { results := [.lit (.bool true)], args := [d] }
  | _ => none }
def fnAddrsRow : OpenClaim := { program := "ytmfbhejclmelaaa", sum := "4c735c5f6cb64433a28111a944e1a655c0ded9c3decf4066fb5b899dc1c38ade", func := "loop.example/g00967/laws.FnAddrs", spec := "fnAddrs", inPlace := ["slices.overlaps[loop.example/g00967/impl.addrKey]"], unfollowed := true, recurses := true, plainKeys := false, apart := false }
def FnAddrsSaid : Prop := fnAddrsRow.holds Try.pinned (OpenSpec.ofChange fnAddrsSpec)

/-- ITS FALSE NEIGHBOUR: 'it returns false'. Refute it at one input. -/
def fnAddrsWrong : ChangeSpec := { name := "fnAddrs", fn := fun _ => fun
  | [d] => { results := [.lit (.bool false)], args := [d] }
  | _ => none }
def FnAddrsWrongFalsely : Prop := fnAddrsRow.holds Try.pinned (OpenSpec.ofChange fnAddrsWrong)

/-- 'laws.FnExactAddrsOk': WHATEVER THE INPUT: true; the input reads as it did. -/
def fnExactAddrsOkSpec : ChangeSpec := { name := "fnExactAddrsOk", fn := fun _ => fun
  | [d] => { results := [.lit (.bool true)], args := [d] }
  | _ => none }
def fnExactAddrsOkRow : OpenClaim := { program := "ytmfbhejclmelaaa", sum := "4c735c5f6cb64433a28111a944e1a655c0ded9c3decf4066fb5b899dc1c38ade", func := "loop.example/g00967/laws.FnExactAddrsOk", spec := "fnExactAddrsOk", unfollowed := true, recurses := true, plainKeys := false, apart := false }
def FnExactAddrsOkSaid : Prop := fnExactAddrsOkRow.holds Try.pinned (OpenSpec.ofChange fnExactAddrsOkSpec)

/-- ITS FALSE NEIGHBOUR: 'it returns false'. Refute it at one input. -/
def fnExactAddrsOkWrong : ChangeSpec := { name := "fnExactAddrsOk", fn := fun _ => fun
  | [d] => { results := [.lit (.bool false)], args := [d] }
  | _ => none }
def FnExactAddrsOkWrongFalsely : Prop := fnExactAddrsOkRow.holds Try.pinned (OpenSpec.ofChange fnExactAddrsOkWrong)

/-- 'laws.FnExactPutAddr': WHATEVER THE INPUT: true; the input reads as it did. -/
def fnExactPutAddrSpec : ChangeSpec := { name := "fnExactPutAddr", fn := fun _ => fun
  | [d1, d2] => { results := [.lit (.bool true)], args := [d1, d2] }
  | _ => none }
def fnExactPutAddrRow : OpenClaim := { program := "ytmfbhejclmelaaa", sum := "4c735c5f6cb64433a28111a944e1a655c0ded9c3decf4066fb5b899dc1c38ade", func := "loop.example/g00967/laws.FnExactPutAddr", spec := "fnExactPutAddr", inPlace := ["slices.overlaps[loop.example/g00967/impl.addrKey]"], unfollowed := true, recurses := true, plainKeys := false, apart := false }
def FnExactPutAddrSaid : Prop := fnExactPutAddrRow.holds Try.pinned (OpenSpec.ofChange fnExactPutAddrSpec)

/-- ITS FALSE NEIGHBOUR: 'it returns false'. Refute it at one input. -/
def fnExactPutAddrWrong : ChangeSpec := { name := "fnExactPutAddr", fn := fun _ => fun
  | [d1, d2] => { results := [.lit (.bool false)], args := [d1, d2] }
  | _ => none }
def FnExactPutAddrWrongFalsely : Prop := fnExactPutAddrRow.holds Try.pinned (OpenSpec.ofChange fnExactPutAddrWrong)

/-- 'laws.FnExactDropAddr': WHATEVER THE INPUT: true; the input reads as it did. -/
def fnExactDropAddrSpec : ChangeSpec := { name := "fnExactDropAddr", fn := fun _ => fun
  | [d1, d2] => { results := [.lit (.bool true)], args := [d1, d2] }
  | _ => none }
def fnExactDropAddrRow : OpenClaim := { program := "ytmfbhejclmelaaa", sum := "4c735c5f6cb64433a28111a944e1a655c0ded9c3decf4066fb5b899dc1c38ade", func := "loop.example/g00967/laws.FnExactDropAddr", spec := "fnExactDropAddr", plainKeys := false, apart := false }
def FnExactDropAddrSaid : Prop := fnExactDropAddrRow.holds Try.pinned (OpenSpec.ofChange fnExactDropAddrSpec)

/-- ITS FALSE NEIGHBOUR: 'it returns false'. Refute it at one input. -/
def fnExactDropAddrWrong : ChangeSpec := { name := "fnExactDropAddr", fn := fun _ => fun
  | [d1, d2] => { results := [.lit (.bool false)], args := [d1, d2] }
  | _ => none }
def FnExactDropAddrWrongFalsely : Prop := fnExactDropAddrRow.holds Try.pinned (OpenSpec.ofChange fnExactDropAddrWrong)

/-- 'laws.FnExactAddrAt': WHATEVER THE INPUT: true; the input reads as it did. -/
def fnExactAddrAtSpec : ChangeSpec := { name := "fnExactAddrAt", fn := fun _ => fun
  | [d1, d2] => { results := [.lit (.bool true)], args := [d1, d2] }
  | _ => none }
def fnExactAddrAtRow : OpenClaim := { program := "ytmfbhejclmelaaa", sum := "4c735c5f6cb64433a28111a944e1a655c0ded9c3decf4066fb5b899dc1c38ade", func := "loop.example/g00967/laws.FnExactAddrAt", spec := "fnExactAddrAt", unfollowed := true, recurses := true, plainKeys := false, apart := false }
def FnExactAddrAtSaid : Prop := fnExactAddrAtRow.holds Try.pinned (OpenSpec.ofChange fnExactAddrAtSpec)

/-- ITS FALSE NEIGHBOUR: 'it returns false'. Refute it at one input. -/
def fnExactAddrAtWrong : ChangeSpec := { name := "fnExactAddrAt", fn := fun _ => fun
  | [d1, d2] => { results := [.lit (.bool false)], args := [d1, d2] }
  | _ => none }
def FnExactAddrAtWrongFalsely : Prop := fnExactAddrAtRow.holds Try.pinned (OpenSpec.ofChange fnExactAddrAtWrong)

/-- 'laws.FnExactUntoldOf': WHATEVER THE INPUT: true; the input reads as it did. -/
def fnExactUntoldOfSpec : ChangeSpec := { name := "fnExactUntoldOf", fn := fun _ => fun
  | [d] => { results := [.lit (.bool true)], args := [d] }
  | _ => none }
def fnExactUntoldOfRow : OpenClaim := { program := "ytmfbhejclmelaaa", sum := "4c735c5f6cb64433a28111a944e1a655c0ded9c3decf4066fb5b899dc1c38ade", func := "loop.example/g00967/laws.FnExactUntoldOf", spec := "fnExactUntoldOf", plainKeys := false, apart := false }
def FnExactUntoldOfSaid : Prop := fnExactUntoldOfRow.holds Try.pinned (OpenSpec.ofChange fnExactUntoldOfSpec)

/-- ITS FALSE NEIGHBOUR: 'it returns false'. Refute it at one input. -/
def fnExactUntoldOfWrong : ChangeSpec := { name := "fnExactUntoldOf", fn := fun _ => fun
  | [d] => { results := [.lit (.bool false)], args := [d] }
  | _ => none }
def FnExactUntoldOfWrongFalsely : Prop := fnExactUntoldOfRow.holds Try.pinned (OpenSpec.ofChange fnExactUntoldOfWrong)

/- THE SECOND FORM. 'bulk': how many values and letters a reading holds, each counted each time it is reached (what is shared counts as often as it is met; a slice's spare places count too). A statement '..UptoSaid' is the law's where the arguments, and the package variables that the reading takes, are together of bulk at most 1048576: NARROWER than '..Said'. Prove '..Said' where nothing that the law and all that it calls make is longer than what came in: it says more and counts as full. Else prove '..UptoSaid'. A law counts once. -/
mutual
def uptoBulk {H : Type} : DataW H → Nat
  | .lit (.string bytes) => bytes.length + 1
  | .lit _ => 1
  | .nil => 1
  | .ptr d => uptoBulk d + 1
  | .slice elems spare => uptoBulkAll elems + uptoBulkAll spare + 1
  | .agg parts => uptoBulkAll parts + 1
  | .iface _ d => uptoBulk d + 1
  | .map entries => uptoBulkEntries entries + 1
  | .held _ => 1
def uptoBulkAll {H : Type} : List (DataW H) → Nat
  | [] => 0
  | d :: r => uptoBulk d + uptoBulkAll r
def uptoBulkEntries {H : Type} : List (Lit × DataW H) → Nat
  | [] => 0
  | x :: r => uptoBulkEntry x + uptoBulkEntries r
def uptoBulkEntry {H : Type} : Lit × DataW H → Nat
  | (.string bytes, d) => bytes.length + uptoBulk d + 1
  | (_, d) => uptoBulk d + 1
 end
def uptoSmall : (H : Type) → List (DataW H) → Bool := fun _ ds => decide (uptoBulkAll ds ≤ 1048576)
def OpenSpec.upto (s : _root_.Go.ChangeSpec) : _root_.Go.OpenSpec := { _root_.Go.OpenSpec.ofChange s with cond := some uptoSmall }

/-- 'laws.FnAddrs', WHERE WHAT IT READS IS OF BULK AT MOST 1048576: true; the input reads as it did. -/
def fnAddrsUptoRow : OpenClaim := { program := "ytmfbhejclmelaaa", sum := "4c735c5f6cb64433a28111a944e1a655c0ded9c3decf4066fb5b899dc1c38ade", func := "loop.example/g00967/laws.FnAddrs", spec := "fnAddrs", inPlace := ["slices.overlaps[loop.example/g00967/impl.addrKey]"], unfollowed := true, recurses := true, plainKeys := false, apart := false, narrowed := true }
def FnAddrsUptoSaid : Prop := fnAddrsUptoRow.holds Try.pinned (OpenSpec.upto fnAddrsSpec)

/-- 'laws.FnExactAddrsOk', WHERE WHAT IT READS IS OF BULK AT MOST 1048576: true; the input reads as it did. -/
def fnExactAddrsOkUptoRow : OpenClaim := { program := "ytmfbhejclmelaaa", sum := "4c735c5f6cb64433a28111a944e1a655c0ded9c3decf4066fb5b899dc1c38ade", func := "loop.example/g00967/laws.FnExactAddrsOk", spec := "fnExactAddrsOk", unfollowed := true, recurses := true, plainKeys := false, apart := false, narrowed := true }
def FnExactAddrsOkUptoSaid : Prop := fnExactAddrsOkUptoRow.holds Try.pinned (OpenSpec.upto fnExactAddrsOkSpec)

/-- 'laws.FnExactPutAddr', WHERE WHAT IT READS IS OF BULK AT MOST 1048576: true; the input reads as it did. -/
def fnExactPutAddrUptoRow : OpenClaim := { program := "ytmfbhejclmelaaa", sum := "4c735c5f6cb64433a28111a944e1a655c0ded9c3decf4066fb5b899dc1c38ade", func := "loop.example/g00967/laws.FnExactPutAddr", spec := "fnExactPutAddr", inPlace := ["slices.overlaps[loop.example/g00967/impl.addrKey]"], unfollowed := true, recurses := true, plainKeys := false, apart := false, narrowed := true }
def FnExactPutAddrUptoSaid : Prop := fnExactPutAddrUptoRow.holds Try.pinned (OpenSpec.upto fnExactPutAddrSpec)

/-- 'laws.FnExactDropAddr', WHERE WHAT IT READS IS OF BULK AT MOST 1048576: true; the input reads as it did. -/
def fnExactDropAddrUptoRow : OpenClaim := { program := "ytmfbhejclmelaaa", sum := "4c735c5f6cb64433a28111a944e1a655c0ded9c3decf4066fb5b899dc1c38ade", func := "loop.example/g00967/laws.FnExactDropAddr", spec := "fnExactDropAddr", plainKeys := false, apart := false, narrowed := true }
def FnExactDropAddrUptoSaid : Prop := fnExactDropAddrUptoRow.holds Try.pinned (OpenSpec.upto fnExactDropAddrSpec)

/-- 'laws.FnExactAddrAt', WHERE WHAT IT READS IS OF BULK AT MOST 1048576: true; the input reads as it did. -/
def fnExactAddrAtUptoRow : OpenClaim := { program := "ytmfbhejclmelaaa", sum := "4c735c5f6cb64433a28111a944e1a655c0ded9c3decf4066fb5b899dc1c38ade", func := "loop.example/g00967/laws.FnExactAddrAt", spec := "fnExactAddrAt", unfollowed := true, recurses := true, plainKeys := false, apart := false, narrowed := true }
def FnExactAddrAtUptoSaid : Prop := fnExactAddrAtUptoRow.holds Try.pinned (OpenSpec.upto fnExactAddrAtSpec)

/-- 'laws.FnExactUntoldOf', WHERE WHAT IT READS IS OF BULK AT MOST 1048576: true; the input reads as it did. -/
def fnExactUntoldOfUptoRow : OpenClaim := { program := "ytmfbhejclmelaaa", sum := "4c735c5f6cb64433a28111a944e1a655c0ded9c3decf4066fb5b899dc1c38ade", func := "loop.example/g00967/laws.FnExactUntoldOf", spec := "fnExactUntoldOf", plainKeys := false, apart := false, narrowed := true }
def FnExactUntoldOfUptoSaid : Prop := fnExactUntoldOfUptoRow.holds Try.pinned (OpenSpec.upto fnExactUntoldOfSpec)

end Rows
end Go.Proofs.Ytmfbhejclmelaaa
