/-
  DERIVED. GIVEN WITH THE SEED: THE CARDS: each row of YtjnobggefofjcacDoorRows.lean that lists a variable, with what it lists TIED to the program's text (the seventh form; the later family's looks); each row that meets fmt, with fmt's text TOLD by the authors' own Lean function (tested against real Go, not proved from fmt's source: count such statements apart). THE CARD IS WHAT COUNTS. Prove the row's statement (the work); the ties are given (YtjnobggefofjcacDoorTie.lean); close each card by the builder's one call (the guide's Derived/Test/ToyasCard.lean, 'card_holds'). Laid BY PROGRAM, IN A SANDBOX (cutbox-door.mjs). By AI agents, Wed Nov 11 2026. No macro, syntax, notation, axiom, sorry.
-/
import Derived.Test.YtjnobggefofjcacDoorRows
import GoSem.ClaimSeven
namespace Go.Proofs.YtjnobggefofjcacDoor
namespace Rows

/-- THE TIED CARD OF 'laws.FnExactJoinMark'. -/
def fnExactJoinMarkCard : Claim7 := { stood := { row := fnExactJoinMarkRow, standIns := [], harness := (true, "06295c3ee3437fad6420cc15b888ce849dad20a6c6a4b7f9ad17c23f84a692a1"), looks := false }, kinds := [], alts := [], laidByText := true, laidKinds := [.wider, .data], laidTests := true, laidLooks := .later }
def FnExactJoinMarkCardSaid : Prop := Claim7.holds Tryd.pinned (.plain (OpenSpec.ofChange fnExactJoinMarkSpec)) fnExactJoinMarkCard

/-- THE TIED CARD OF 'laws.FnExactBackMark'. -/
def fnExactBackMarkCard : Claim7 := { stood := { row := fnExactBackMarkRow, standIns := [], harness := (true, "06295c3ee3437fad6420cc15b888ce849dad20a6c6a4b7f9ad17c23f84a692a1"), looks := false }, kinds := [], alts := [], laidByText := true, laidKinds := [.wider, .data], laidTests := true, laidLooks := .later }
def FnExactBackMarkCardSaid : Prop := Claim7.holds Tryd.pinned (.plain (OpenSpec.ofChange fnExactBackMarkSpec)) fnExactBackMarkCard

/-- THE TIED CARD OF 'laws.FnExactDoneMark'. -/
def fnExactDoneMarkCard : Claim7 := { stood := { row := fnExactDoneMarkRow, standIns := [], harness := (true, "06295c3ee3437fad6420cc15b888ce849dad20a6c6a4b7f9ad17c23f84a692a1"), looks := false }, kinds := [], alts := [], laidByText := true, laidKinds := [.wider, .data], laidTests := true, laidLooks := .later }
def FnExactDoneMarkCardSaid : Prop := Claim7.holds Tryd.pinned (.plain (OpenSpec.ofChange fnExactDoneMarkSpec)) fnExactDoneMarkCard

/-- THE TIED CARD OF 'laws.FnExactAddrMark'. -/
def fnExactAddrMarkCard : Claim7 := { stood := { row := fnExactAddrMarkRow, standIns := [], harness := (true, "06295c3ee3437fad6420cc15b888ce849dad20a6c6a4b7f9ad17c23f84a692a1"), looks := false }, kinds := [], alts := [], laidByText := true, laidKinds := [.wider, .data], laidTests := true, laidLooks := .later }
def FnExactAddrMarkCardSaid : Prop := Claim7.holds Tryd.pinned (.plain (OpenSpec.ofChange fnExactAddrMarkSpec)) fnExactAddrMarkCard

/-- THE SECOND FORM's CARD OF 'laws.FnExactJoinMark'. -/
def fnExactJoinMarkUptoCard : Claim7 := { stood := { row := fnExactJoinMarkUptoRow, standIns := [], harness := (true, "06295c3ee3437fad6420cc15b888ce849dad20a6c6a4b7f9ad17c23f84a692a1"), looks := false }, kinds := [], alts := [], laidByText := true, laidKinds := [.wider, .data], laidTests := true, laidLooks := .later }
def FnExactJoinMarkUptoCardSaid : Prop := Claim7.holds Tryd.pinned (.plain (OpenSpec.upto fnExactJoinMarkSpec)) fnExactJoinMarkUptoCard

/-- THE SECOND FORM's CARD OF 'laws.FnExactBackMark'. -/
def fnExactBackMarkUptoCard : Claim7 := { stood := { row := fnExactBackMarkUptoRow, standIns := [], harness := (true, "06295c3ee3437fad6420cc15b888ce849dad20a6c6a4b7f9ad17c23f84a692a1"), looks := false }, kinds := [], alts := [], laidByText := true, laidKinds := [.wider, .data], laidTests := true, laidLooks := .later }
def FnExactBackMarkUptoCardSaid : Prop := Claim7.holds Tryd.pinned (.plain (OpenSpec.upto fnExactBackMarkSpec)) fnExactBackMarkUptoCard

/-- THE SECOND FORM's CARD OF 'laws.FnExactDoneMark'. -/
def fnExactDoneMarkUptoCard : Claim7 := { stood := { row := fnExactDoneMarkUptoRow, standIns := [], harness := (true, "06295c3ee3437fad6420cc15b888ce849dad20a6c6a4b7f9ad17c23f84a692a1"), looks := false }, kinds := [], alts := [], laidByText := true, laidKinds := [.wider, .data], laidTests := true, laidLooks := .later }
def FnExactDoneMarkUptoCardSaid : Prop := Claim7.holds Tryd.pinned (.plain (OpenSpec.upto fnExactDoneMarkSpec)) fnExactDoneMarkUptoCard

/-- THE SECOND FORM's CARD OF 'laws.FnExactAddrMark'. -/
def fnExactAddrMarkUptoCard : Claim7 := { stood := { row := fnExactAddrMarkUptoRow, standIns := [], harness := (true, "06295c3ee3437fad6420cc15b888ce849dad20a6c6a4b7f9ad17c23f84a692a1"), looks := false }, kinds := [], alts := [], laidByText := true, laidKinds := [.wider, .data], laidTests := true, laidLooks := .later }
def FnExactAddrMarkUptoCardSaid : Prop := Claim7.holds Tryd.pinned (.plain (OpenSpec.upto fnExactAddrMarkSpec)) fnExactAddrMarkUptoCard
end Rows
end Go.Proofs.YtjnobggefofjcacDoor
