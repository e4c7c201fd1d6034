/-
  DERIVED. GIVEN WITH THE SEED: THE CARDS: each row of YtnlbeoifmdfbjaaDoorRows.lean that lists a variable, with what it lists TIED to the program's text (the seventh form; the later family's looks); each row that meets fmt, with fmt's text TOLD by the authors' own Lean function (tested against real Go, not proved from fmt's source: count such statements apart). THE CARD IS WHAT COUNTS. Prove the row's statement (the work); the ties are given (YtnlbeoifmdfbjaaDoorTie.lean); close each card by the builder's one call (the guide's Derived/Test/ToyasCard.lean, 'card_holds'). Laid BY PROGRAM, IN A SANDBOX (cutbox-door.mjs). By AI agents, Wed Nov 11 2026. No macro, syntax, notation, axiom, sorry.
-/
import Derived.Test.YtnlbeoifmdfbjaaDoorRows
import GoSem.ClaimSeven
namespace Go.Proofs.YtnlbeoifmdfbjaaDoor
namespace Rows

/-- THE TIED CARD OF 'laws.FnExactSegOk'. -/
def fnExactSegOkCard : Claim7 := { stood := { row := fnExactSegOkRow, standIns := [], harness := (true, "a11870ee6b7c8c67c3315c4593b67de9b9c9f3c7466f2be7433a2aa1214606b3"), looks := true }, kinds := [], alts := [], laidByText := true, laidKinds := [.handle], laidTests := true, laidLooks := .later }
def FnExactSegOkCardSaid : Prop := Claim7.holds Tryd.pinned (.plain (OpenSpec.ofChange fnExactSegOkSpec)) fnExactSegOkCard

/-- THE SECOND FORM's CARD OF 'laws.FnExactSegOk'. -/
def fnExactSegOkUptoCard : Claim7 := { stood := { row := fnExactSegOkUptoRow, standIns := [], harness := (true, "a11870ee6b7c8c67c3315c4593b67de9b9c9f3c7466f2be7433a2aa1214606b3"), looks := true }, kinds := [], alts := [], laidByText := true, laidKinds := [.handle], laidTests := true, laidLooks := .later }
def FnExactSegOkUptoCardSaid : Prop := Claim7.holds Tryd.pinned (.plain (OpenSpec.upto fnExactSegOkSpec)) fnExactSegOkUptoCard
end Rows
end Go.Proofs.YtnlbeoifmdfbjaaDoor
