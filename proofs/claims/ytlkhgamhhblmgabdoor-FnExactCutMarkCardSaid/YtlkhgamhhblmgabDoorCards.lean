/-
  DERIVED. GIVEN WITH THE SEED: THE CARDS: each row of YtlkhgamhhblmgabDoorRows.lean that lists a variable, with what it lists TIED to the program's text (the seventh form; the later family's looks); each row that meets fmt, with fmt's text TOLD by the authors' own Lean function (tested against real Go, not proved from fmt's source: count such statements apart). THE CARD IS WHAT COUNTS. Prove the row's statement (the work); the ties are given (YtlkhgamhhblmgabDoorTie.lean); close each card by the builder's one call (the guide's Derived/Test/ToyasCard.lean, 'card_holds'). Laid BY PROGRAM, IN A SANDBOX (cutbox-door.mjs). By AI agents, Wed Nov 11 2026. No macro, syntax, notation, axiom, sorry.
-/
import Derived.Test.YtlkhgamhhblmgabDoorRows
import GoSem.ClaimSeven
namespace Go.Proofs.YtlkhgamhhblmgabDoor
namespace Rows

/-- THE TIED CARD OF 'laws.FnExactCutMark'. -/
def fnExactCutMarkCard : Claim7 := { stood := { row := fnExactCutMarkRow, standIns := [], harness := (true, "88a85f9755ad875f1b7d2ac8b2349833c31c5807641ab6f5304279dc38682a3b"), looks := false }, kinds := [], alts := [], laidByText := true, laidKinds := [.wider, .data], laidTests := true, laidLooks := .later }
def FnExactCutMarkCardSaid : Prop := Claim7.holds Tryd.pinned (.plain (OpenSpec.ofChange fnExactCutMarkSpec)) fnExactCutMarkCard

/-- THE SECOND FORM's CARD OF 'laws.FnExactCutMark'. -/
def fnExactCutMarkUptoCard : Claim7 := { stood := { row := fnExactCutMarkUptoRow, standIns := [], harness := (true, "88a85f9755ad875f1b7d2ac8b2349833c31c5807641ab6f5304279dc38682a3b"), looks := false }, kinds := [], alts := [], laidByText := true, laidKinds := [.wider, .data], laidTests := true, laidLooks := .later }
def FnExactCutMarkUptoCardSaid : Prop := Claim7.holds Tryd.pinned (.plain (OpenSpec.upto fnExactCutMarkSpec)) fnExactCutMarkUptoCard
end Rows
end Go.Proofs.YtlkhgamhhblmgabDoor
