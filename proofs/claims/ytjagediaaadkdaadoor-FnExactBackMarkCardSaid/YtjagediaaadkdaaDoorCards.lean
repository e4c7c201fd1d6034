/-
  DERIVED. GIVEN WITH THE SEED: THE CARDS: each row of YtjagediaaadkdaaDoorRows.lean that lists a variable, with what it lists TIED to the program's text (the seventh form; the later family's looks); each row that meets fmt, with fmt's text TOLD by the authors' own Lean function (tested against real Go, not proved from fmt's source: count such statements apart). THE CARD IS WHAT COUNTS. Prove the row's statement (the work); the ties are given (YtjagediaaadkdaaDoorTie.lean); close each card by the builder's one call (the guide's Derived/Test/ToyasCard.lean, 'card_holds'). Laid BY PROGRAM, IN A SANDBOX (cutbox-door.mjs). By AI agents, Wed Nov 11 2026. No macro, syntax, notation, axiom, sorry.
-/
import Derived.Test.YtjagediaaadkdaaDoorRows
import GoSem.ClaimSeven
namespace Go.Proofs.YtjagediaaadkdaaDoor
namespace Rows

/-- THE TIED CARD OF 'laws.FnExactTokenOf'. -/
def fnExactTokenOfCard : Claim7 := { stood := { row := fnExactTokenOfRow, standIns := [], harness := (true, "c2438d0724d1171d06e0337efa7e14bed0fa15dd90c1ccf17591c6b666985ab9"), looks := false }, kinds := [], alts := [], laidByText := true, laidKinds := [.wider, .data], laidTests := true, laidLooks := .later }
def FnExactTokenOfCardSaid : Prop := Claim7.holds Tryd.pinned (.plain (OpenSpec.ofChange fnExactTokenOfSpec)) fnExactTokenOfCard

/-- THE TIED CARD OF 'laws.FnExactStartOf'. -/
def fnExactStartOfCard : Claim7 := { stood := { row := fnExactStartOfRow, standIns := [], harness := (true, "c2438d0724d1171d06e0337efa7e14bed0fa15dd90c1ccf17591c6b666985ab9"), looks := false }, kinds := [], alts := [], laidByText := true, laidKinds := [.wider, .data], laidTests := true, laidLooks := .later }
def FnExactStartOfCardSaid : Prop := Claim7.holds Tryd.pinned (.plain (OpenSpec.ofChange fnExactStartOfSpec)) fnExactStartOfCard

/-- THE TIED CARD OF 'laws.FnExactJoinMark'. -/
def fnExactJoinMarkCard : Claim7 := { stood := { row := fnExactJoinMarkRow, standIns := [], harness := (true, "c2438d0724d1171d06e0337efa7e14bed0fa15dd90c1ccf17591c6b666985ab9"), looks := false }, kinds := [], alts := [], laidByText := true, laidKinds := [.wider, .data], laidTests := true, laidLooks := .later }
def FnExactJoinMarkCardSaid : Prop := Claim7.holds Tryd.pinned (.plain (OpenSpec.ofChange fnExactJoinMarkSpec)) fnExactJoinMarkCard

/-- THE TIED CARD OF 'laws.FnExactBackMark'. -/
def fnExactBackMarkCard : Claim7 := { stood := { row := fnExactBackMarkRow, standIns := [], harness := (true, "c2438d0724d1171d06e0337efa7e14bed0fa15dd90c1ccf17591c6b666985ab9"), looks := false }, kinds := [], alts := [], laidByText := true, laidKinds := [.wider, .data], laidTests := true, laidLooks := .later }
def FnExactBackMarkCardSaid : Prop := Claim7.holds Tryd.pinned (.plain (OpenSpec.ofChange fnExactBackMarkSpec)) fnExactBackMarkCard

/-- THE TIED CARD OF 'laws.FnExactDoneMark'. -/
def fnExactDoneMarkCard : Claim7 := { stood := { row := fnExactDoneMarkRow, standIns := [], harness := (true, "c2438d0724d1171d06e0337efa7e14bed0fa15dd90c1ccf17591c6b666985ab9"), looks := false }, kinds := [], alts := [], laidByText := true, laidKinds := [.wider, .data], laidTests := true, laidLooks := .later }
def FnExactDoneMarkCardSaid : Prop := Claim7.holds Tryd.pinned (.plain (OpenSpec.ofChange fnExactDoneMarkSpec)) fnExactDoneMarkCard

/-- THE TIED CARD OF 'laws.FnExactAddrMark'. -/
def fnExactAddrMarkCard : Claim7 := { stood := { row := fnExactAddrMarkRow, standIns := [], harness := (true, "c2438d0724d1171d06e0337efa7e14bed0fa15dd90c1ccf17591c6b666985ab9"), looks := false }, kinds := [], alts := [], laidByText := true, laidKinds := [.wider, .data], laidTests := true, laidLooks := .later }
def FnExactAddrMarkCardSaid : Prop := Claim7.holds Tryd.pinned (.plain (OpenSpec.ofChange fnExactAddrMarkSpec)) fnExactAddrMarkCard

/-- THE SECOND FORM's CARD OF 'laws.FnExactTokenOf'. -/
def fnExactTokenOfUptoCard : Claim7 := { stood := { row := fnExactTokenOfUptoRow, standIns := [], harness := (true, "c2438d0724d1171d06e0337efa7e14bed0fa15dd90c1ccf17591c6b666985ab9"), looks := false }, kinds := [], alts := [], laidByText := true, laidKinds := [.wider, .data], laidTests := true, laidLooks := .later }
def FnExactTokenOfUptoCardSaid : Prop := Claim7.holds Tryd.pinned (.plain (OpenSpec.upto fnExactTokenOfSpec)) fnExactTokenOfUptoCard

/-- THE SECOND FORM's CARD OF 'laws.FnExactStartOf'. -/
def fnExactStartOfUptoCard : Claim7 := { stood := { row := fnExactStartOfUptoRow, standIns := [], harness := (true, "c2438d0724d1171d06e0337efa7e14bed0fa15dd90c1ccf17591c6b666985ab9"), looks := false }, kinds := [], alts := [], laidByText := true, laidKinds := [.wider, .data], laidTests := true, laidLooks := .later }
def FnExactStartOfUptoCardSaid : Prop := Claim7.holds Tryd.pinned (.plain (OpenSpec.upto fnExactStartOfSpec)) fnExactStartOfUptoCard

/-- THE SECOND FORM's CARD OF 'laws.FnExactJoinMark'. -/
def fnExactJoinMarkUptoCard : Claim7 := { stood := { row := fnExactJoinMarkUptoRow, standIns := [], harness := (true, "c2438d0724d1171d06e0337efa7e14bed0fa15dd90c1ccf17591c6b666985ab9"), looks := false }, kinds := [], alts := [], laidByText := true, laidKinds := [.wider, .data], laidTests := true, laidLooks := .later }
def FnExactJoinMarkUptoCardSaid : Prop := Claim7.holds Tryd.pinned (.plain (OpenSpec.upto fnExactJoinMarkSpec)) fnExactJoinMarkUptoCard

/-- THE SECOND FORM's CARD OF 'laws.FnExactBackMark'. -/
def fnExactBackMarkUptoCard : Claim7 := { stood := { row := fnExactBackMarkUptoRow, standIns := [], harness := (true, "c2438d0724d1171d06e0337efa7e14bed0fa15dd90c1ccf17591c6b666985ab9"), looks := false }, kinds := [], alts := [], laidByText := true, laidKinds := [.wider, .data], laidTests := true, laidLooks := .later }
def FnExactBackMarkUptoCardSaid : Prop := Claim7.holds Tryd.pinned (.plain (OpenSpec.upto fnExactBackMarkSpec)) fnExactBackMarkUptoCard

/-- THE SECOND FORM's CARD OF 'laws.FnExactDoneMark'. -/
def fnExactDoneMarkUptoCard : Claim7 := { stood := { row := fnExactDoneMarkUptoRow, standIns := [], harness := (true, "c2438d0724d1171d06e0337efa7e14bed0fa15dd90c1ccf17591c6b666985ab9"), looks := false }, kinds := [], alts := [], laidByText := true, laidKinds := [.wider, .data], laidTests := true, laidLooks := .later }
def FnExactDoneMarkUptoCardSaid : Prop := Claim7.holds Tryd.pinned (.plain (OpenSpec.upto fnExactDoneMarkSpec)) fnExactDoneMarkUptoCard

/-- THE SECOND FORM's CARD OF 'laws.FnExactAddrMark'. -/
def fnExactAddrMarkUptoCard : Claim7 := { stood := { row := fnExactAddrMarkUptoRow, standIns := [], harness := (true, "c2438d0724d1171d06e0337efa7e14bed0fa15dd90c1ccf17591c6b666985ab9"), looks := false }, kinds := [], alts := [], laidByText := true, laidKinds := [.wider, .data], laidTests := true, laidLooks := .later }
def FnExactAddrMarkUptoCardSaid : Prop := Claim7.holds Tryd.pinned (.plain (OpenSpec.upto fnExactAddrMarkSpec)) fnExactAddrMarkUptoCard
end Rows
end Go.Proofs.YtjagediaaadkdaaDoor
