/-
  No cell of these rows narrows 'for every input' (looked for: loops, veiled, ifaces, maps, wideKeys, modest, calm, conditions, laid).
  DERIVED. THE GIVEN ROWS OF THIS SEAT. 8 by the template 'for every input the law returns true; each argument reads behind the call as it read before'; 0 by the template 'total and deterministic' (their statements: YtdajfnonehianaaTotals.lean).
  GIVEN WITH THE SEED: the statements are not yours to turn. If you find one false, say at which input.
  Laid BY PROGRAM, IN A SANDBOX (cutbox-rows.mjs): the forced cells as the released guide's own fill.sh prints them over the translation 9c070152ae984972… (all of the seat's roots in one cut). By AI agents, Wed Nov 11 2026. No macro, syntax, notation, axiom, sorry.
-/
import Derived.Test.YtdajfnonehianaaChecked
import GoSem.Claim
import GoSem.ClaimJoined
import GoSem.ClaimMapViews
import Derived.JoinedTies
import Derived.KernelRfl
namespace Go.Proofs.Ytdajfnonehianaa
/- THE CELL 'sum', in the pinned program and in every row, IS THE sha256 OF THE DUMP (.gsa) THAT YtdajfnonehianaaProg.lean LOADS. Nothing in Lean hashes anything: it is a label: what it is worth is what the hold of that sum in a sandbox is worth. -/
noncomputable def Try.pinned : Pinned := { name := "ytdajfnonehianaa", sum := "9c070152ae9849729e6aae901cc8b52010968ee645e37be28d582cea4d37739f", checked := Try.checked }
namespace Rows
def none {H : Type} : Left H := { results := [], args := [] }

/-- 'laws.FnStays': WHATEVER THE INPUT: true; the input reads as it did. -/
def fnStaysSpec : ChangeSpec := { name := "fnStays", fn := fun _ => fun
  | [d] => { results := [.lit (.bool true)], args := [d] }
  | _ => none }
def fnStaysRow : OpenClaim := { program := "ytdajfnonehianaa", sum := "9c070152ae9849729e6aae901cc8b52010968ee645e37be28d582cea4d37739f", func := "loop.example/g00967/laws.FnStays", spec := "fnStays", apart := false }
def FnStaysSaid : Prop := fnStaysRow.holds Try.pinned (OpenSpec.ofChange fnStaysSpec)

/-- ITS FALSE NEIGHBOUR: 'it returns false'. Refute it at one input. -/
def fnStaysWrong : ChangeSpec := { name := "fnStays", fn := fun _ => fun
  | [d] => { results := [.lit (.bool false)], args := [d] }
  | _ => none }
def FnStaysWrongFalsely : Prop := fnStaysRow.holds Try.pinned (OpenSpec.ofChange fnStaysWrong)

/-- 'laws.FnSends': WHATEVER THE INPUT: true; the input reads as it did. -/
def fnSendsSpec : ChangeSpec := { name := "fnSends", fn := fun _ => fun
  | [d] => { results := [.lit (.bool true)], args := [d] }
  | _ => none }
def fnSendsRow : OpenClaim := { program := "ytdajfnonehianaa", sum := "9c070152ae9849729e6aae901cc8b52010968ee645e37be28d582cea4d37739f", func := "loop.example/g00967/laws.FnSends", spec := "fnSends", apart := false }
def FnSendsSaid : Prop := fnSendsRow.holds Try.pinned (OpenSpec.ofChange fnSendsSpec)

/-- ITS FALSE NEIGHBOUR: 'it returns false'. Refute it at one input. -/
def fnSendsWrong : ChangeSpec := { name := "fnSends", fn := fun _ => fun
  | [d] => { results := [.lit (.bool false)], args := [d] }
  | _ => none }
def FnSendsWrongFalsely : Prop := fnSendsRow.holds Try.pinned (OpenSpec.ofChange fnSendsWrong)

/-- 'laws.FnExactOutOk': WHATEVER THE INPUT: true; the input reads as it did. -/
def fnExactOutOkSpec : ChangeSpec := { name := "fnExactOutOk", fn := fun _ => fun
  | [d] => { results := [.lit (.bool true)], args := [d] }
  | _ => none }
def fnExactOutOkRow : OpenClaim := { program := "ytdajfnonehianaa", sum := "9c070152ae9849729e6aae901cc8b52010968ee645e37be28d582cea4d37739f", func := "loop.example/g00967/laws.FnExactOutOk", spec := "fnExactOutOk", apart := false }
def FnExactOutOkSaid : Prop := fnExactOutOkRow.holds Try.pinned (OpenSpec.ofChange fnExactOutOkSpec)

/-- ITS FALSE NEIGHBOUR: 'it returns false'. Refute it at one input. -/
def fnExactOutOkWrong : ChangeSpec := { name := "fnExactOutOk", fn := fun _ => fun
  | [d] => { results := [.lit (.bool false)], args := [d] }
  | _ => none }
def FnExactOutOkWrongFalsely : Prop := fnExactOutOkRow.holds Try.pinned (OpenSpec.ofChange fnExactOutOkWrong)

/-- 'laws.FnExactAccept': WHATEVER THE INPUT: true; the input reads as it did. -/
def fnExactAcceptSpec : ChangeSpec := { name := "fnExactAccept", fn := fun _ => fun
  | [d1, d2] => { results := [.lit (.bool true)], args := [d1, d2] }
  | _ => none }
def fnExactAcceptRow : OpenClaim := { program := "ytdajfnonehianaa", sum := "9c070152ae9849729e6aae901cc8b52010968ee645e37be28d582cea4d37739f", func := "loop.example/g00967/laws.FnExactAccept", spec := "fnExactAccept", apart := false }
def FnExactAcceptSaid : Prop := fnExactAcceptRow.holds Try.pinned (OpenSpec.ofChange fnExactAcceptSpec)

/-- ITS FALSE NEIGHBOUR: 'it returns false'. Refute it at one input. -/
def fnExactAcceptWrong : ChangeSpec := { name := "fnExactAccept", fn := fun _ => fun
  | [d1, d2] => { results := [.lit (.bool false)], args := [d1, d2] }
  | _ => none }
def FnExactAcceptWrongFalsely : Prop := fnExactAcceptRow.holds Try.pinned (OpenSpec.ofChange fnExactAcceptWrong)

/-- 'laws.FnExactNextPiece': WHATEVER THE INPUT: true; the input reads as it did. -/
def fnExactNextPieceSpec : ChangeSpec := { name := "fnExactNextPiece", fn := fun _ => fun
  | [d] => { results := [.lit (.bool true)], args := [d] }
  | _ => none }
def fnExactNextPieceRow : OpenClaim := { program := "ytdajfnonehianaa", sum := "9c070152ae9849729e6aae901cc8b52010968ee645e37be28d582cea4d37739f", func := "loop.example/g00967/laws.FnExactNextPiece", spec := "fnExactNextPiece", apart := false }
def FnExactNextPieceSaid : Prop := fnExactNextPieceRow.holds Try.pinned (OpenSpec.ofChange fnExactNextPieceSpec)

/-- ITS FALSE NEIGHBOUR: 'it returns false'. Refute it at one input. -/
def fnExactNextPieceWrong : ChangeSpec := { name := "fnExactNextPiece", fn := fun _ => fun
  | [d] => { results := [.lit (.bool false)], args := [d] }
  | _ => none }
def FnExactNextPieceWrongFalsely : Prop := fnExactNextPieceRow.holds Try.pinned (OpenSpec.ofChange fnExactNextPieceWrong)

/-- 'laws.FnExactWasSent': WHATEVER THE INPUT: true; the input reads as it did. -/
def fnExactWasSentSpec : ChangeSpec := { name := "fnExactWasSent", fn := fun _ => fun
  | [d] => { results := [.lit (.bool true)], args := [d] }
  | _ => none }
def fnExactWasSentRow : OpenClaim := { program := "ytdajfnonehianaa", sum := "9c070152ae9849729e6aae901cc8b52010968ee645e37be28d582cea4d37739f", func := "loop.example/g00967/laws.FnExactWasSent", spec := "fnExactWasSent", apart := false }
def FnExactWasSentSaid : Prop := fnExactWasSentRow.holds Try.pinned (OpenSpec.ofChange fnExactWasSentSpec)

/-- ITS FALSE NEIGHBOUR: 'it returns false'. Refute it at one input. -/
def fnExactWasSentWrong : ChangeSpec := { name := "fnExactWasSent", fn := fun _ => fun
  | [d] => { results := [.lit (.bool false)], args := [d] }
  | _ => none }
def FnExactWasSentWrongFalsely : Prop := fnExactWasSentRow.holds Try.pinned (OpenSpec.ofChange fnExactWasSentWrong)

/-- 'laws.FnExactCame': WHATEVER THE INPUT: true; the input reads as it did. -/
def fnExactCameSpec : ChangeSpec := { name := "fnExactCame", fn := fun _ => fun
  | [d1, d2] => { results := [.lit (.bool true)], args := [d1, d2] }
  | _ => none }
def fnExactCameRow : OpenClaim := { program := "ytdajfnonehianaa", sum := "9c070152ae9849729e6aae901cc8b52010968ee645e37be28d582cea4d37739f", func := "loop.example/g00967/laws.FnExactCame", spec := "fnExactCame", apart := false }
def FnExactCameSaid : Prop := fnExactCameRow.holds Try.pinned (OpenSpec.ofChange fnExactCameSpec)

/-- ITS FALSE NEIGHBOUR: 'it returns false'. Refute it at one input. -/
def fnExactCameWrong : ChangeSpec := { name := "fnExactCame", fn := fun _ => fun
  | [d1, d2] => { results := [.lit (.bool false)], args := [d1, d2] }
  | _ => none }
def FnExactCameWrongFalsely : Prop := fnExactCameRow.holds Try.pinned (OpenSpec.ofChange fnExactCameWrong)

/-- 'laws.FnExactAnew': WHATEVER THE INPUT: true; the input reads as it did. -/
def fnExactAnewSpec : ChangeSpec := { name := "fnExactAnew", fn := fun _ => fun
  | [d] => { results := [.lit (.bool true)], args := [d] }
  | _ => none }
def fnExactAnewRow : OpenClaim := { program := "ytdajfnonehianaa", sum := "9c070152ae9849729e6aae901cc8b52010968ee645e37be28d582cea4d37739f", func := "loop.example/g00967/laws.FnExactAnew", spec := "fnExactAnew", apart := false }
def FnExactAnewSaid : Prop := fnExactAnewRow.holds Try.pinned (OpenSpec.ofChange fnExactAnewSpec)

/-- ITS FALSE NEIGHBOUR: 'it returns false'. Refute it at one input. -/
def fnExactAnewWrong : ChangeSpec := { name := "fnExactAnew", fn := fun _ => fun
  | [d] => { results := [.lit (.bool false)], args := [d] }
  | _ => none }
def FnExactAnewWrongFalsely : Prop := fnExactAnewRow.holds Try.pinned (OpenSpec.ofChange fnExactAnewWrong)

/- THE SECOND FORM. 'bulk': how many values and letters a reading holds, each counted each time it is reached (what is shared counts as often as it is met; a slice's spare places count too). A statement '..UptoSaid' is the law's where the arguments, and the package variables that the reading takes, are together of bulk at most 1048576: NARROWER than '..Said'. Prove '..Said' where nothing that the law and all that it calls make is longer than what came in: it says more and counts as full. Else prove '..UptoSaid'. A law counts once. -/
mutual
def uptoBulk {H : Type} : DataW H → Nat
  | .lit (.string bytes) => bytes.length + 1
  | .lit _ => 1
  | .nil => 1
  | .ptr d => uptoBulk d + 1
  | .slice elems spare => uptoBulkAll elems + uptoBulkAll spare + 1
  | .agg parts => uptoBulkAll parts + 1
  | .iface _ d => uptoBulk d + 1
  | .map entries => uptoBulkEntries entries + 1
  | .held _ => 1
def uptoBulkAll {H : Type} : List (DataW H) → Nat
  | [] => 0
  | d :: r => uptoBulk d + uptoBulkAll r
def uptoBulkEntries {H : Type} : List (Lit × DataW H) → Nat
  | [] => 0
  | x :: r => uptoBulkEntry x + uptoBulkEntries r
def uptoBulkEntry {H : Type} : Lit × DataW H → Nat
  | (.string bytes, d) => bytes.length + uptoBulk d + 1
  | (_, d) => uptoBulk d + 1
 end
def uptoSmall : (H : Type) → List (DataW H) → Bool := fun _ ds => decide (uptoBulkAll ds ≤ 1048576)
def OpenSpec.upto (s : _root_.Go.ChangeSpec) : _root_.Go.OpenSpec := { _root_.Go.OpenSpec.ofChange s with cond := some uptoSmall }

/-- 'laws.FnStays', WHERE WHAT IT READS IS OF BULK AT MOST 1048576: true; the input reads as it did. -/
def fnStaysUptoRow : OpenClaim := { program := "ytdajfnonehianaa", sum := "9c070152ae9849729e6aae901cc8b52010968ee645e37be28d582cea4d37739f", func := "loop.example/g00967/laws.FnStays", spec := "fnStays", apart := false, narrowed := true }
def FnStaysUptoSaid : Prop := fnStaysUptoRow.holds Try.pinned (OpenSpec.upto fnStaysSpec)

/-- 'laws.FnSends', WHERE WHAT IT READS IS OF BULK AT MOST 1048576: true; the input reads as it did. -/
def fnSendsUptoRow : OpenClaim := { program := "ytdajfnonehianaa", sum := "9c070152ae9849729e6aae901cc8b52010968ee645e37be28d582cea4d37739f", func := "loop.example/g00967/laws.FnSends", spec := "fnSends", apart := false, narrowed := true }
def FnSendsUptoSaid : Prop := fnSendsUptoRow.holds Try.pinned (OpenSpec.upto fnSendsSpec)

/-- 'laws.FnExactOutOk', WHERE WHAT IT READS IS OF BULK AT MOST 1048576: true; the input reads as it did. -/
def fnExactOutOkUptoRow : OpenClaim := { program := "ytdajfnonehianaa", sum := "9c070152ae9849729e6aae901cc8b52010968ee645e37be28d582cea4d37739f", func := "loop.example/g00967/laws.FnExactOutOk", spec := "fnExactOutOk", apart := false, narrowed := true }
def FnExactOutOkUptoSaid : Prop := fnExactOutOkUptoRow.holds Try.pinned (OpenSpec.upto fnExactOutOkSpec)

/-- 'laws.FnExactAccept', WHERE WHAT IT READS IS OF BULK AT MOST 1048576: true; the input reads as it did. -/
def fnExactAcceptUptoRow : OpenClaim := { program := "ytdajfnonehianaa", sum := "9c070152ae9849729e6aae901cc8b52010968ee645e37be28d582cea4d37739f", func := "loop.example/g00967/laws.FnExactAccept", spec := "fnExactAccept", apart := false, narrowed := true }
def FnExactAcceptUptoSaid : Prop := fnExactAcceptUptoRow.holds Try.pinned (OpenSpec.upto fnExactAcceptSpec)

/-- 'laws.FnExactNextPiece', WHERE WHAT IT READS IS OF BULK AT MOST 1048576: true; the input reads as it did. -/
def fnExactNextPieceUptoRow : OpenClaim := { program := "ytdajfnonehianaa", sum := "9c070152ae9849729e6aae901cc8b52010968ee645e37be28d582cea4d37739f", func := "loop.example/g00967/laws.FnExactNextPiece", spec := "fnExactNextPiece", apart := false, narrowed := true }
def FnExactNextPieceUptoSaid : Prop := fnExactNextPieceUptoRow.holds Try.pinned (OpenSpec.upto fnExactNextPieceSpec)

/-- 'laws.FnExactWasSent', WHERE WHAT IT READS IS OF BULK AT MOST 1048576: true; the input reads as it did. -/
def fnExactWasSentUptoRow : OpenClaim := { program := "ytdajfnonehianaa", sum := "9c070152ae9849729e6aae901cc8b52010968ee645e37be28d582cea4d37739f", func := "loop.example/g00967/laws.FnExactWasSent", spec := "fnExactWasSent", apart := false, narrowed := true }
def FnExactWasSentUptoSaid : Prop := fnExactWasSentUptoRow.holds Try.pinned (OpenSpec.upto fnExactWasSentSpec)

/-- 'laws.FnExactCame', WHERE WHAT IT READS IS OF BULK AT MOST 1048576: true; the input reads as it did. -/
def fnExactCameUptoRow : OpenClaim := { program := "ytdajfnonehianaa", sum := "9c070152ae9849729e6aae901cc8b52010968ee645e37be28d582cea4d37739f", func := "loop.example/g00967/laws.FnExactCame", spec := "fnExactCame", apart := false, narrowed := true }
def FnExactCameUptoSaid : Prop := fnExactCameUptoRow.holds Try.pinned (OpenSpec.upto fnExactCameSpec)

/-- 'laws.FnExactAnew', WHERE WHAT IT READS IS OF BULK AT MOST 1048576: true; the input reads as it did. -/
def fnExactAnewUptoRow : OpenClaim := { program := "ytdajfnonehianaa", sum := "9c070152ae9849729e6aae901cc8b52010968ee645e37be28d582cea4d37739f", func := "loop.example/g00967/laws.FnExactAnew", spec := "fnExactAnew", apart := false, narrowed := true }
def FnExactAnewUptoSaid : Prop := fnExactAnewUptoRow.holds Try.pinned (OpenSpec.upto fnExactAnewSpec)

end Rows
end Go.Proofs.Ytdajfnonehianaa
