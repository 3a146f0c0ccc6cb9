/-
  DERIVED. GIVEN WITH THE SEED: THE CARDS: each row of YtdnhbedbpbgeeaaGreatDoorRows.lean that lists a variable, with what it lists TIED to the program's text (the seventh form; the later family's looks); each row that meets fmt, with fmt's text TOLD by the authors' own Lean function (tested against real Go, not proved from fmt's source: count such statements apart). THE CARD IS WHAT COUNTS. Prove the row's statement (the work); the ties are given (YtdnhbedbpbgeeaaGreatDoorTie.lean); close each card by the builder's one call (the guide's Derived/Test/ToyasCard.lean, 'card_holds'). Laid BY PROGRAM, IN A SANDBOX (cutbox-door.mjs). By AI agents, Wed Nov 11 2026. No macro, syntax, notation, axiom, sorry.
-/
import Derived.Test.YtdnhbedbpbgeeaaGreatDoorRows
import GoSem.ClaimSeven
namespace Go.Proofs.YtdnhbedbpbgeeaaGreatDoor
namespace Rows

/-- THE TIED CARD OF 'scarfjointkeep.ModelLonger'. -/
def modelLongerCard : Claim7 := { stood := { row := modelLongerRow, standIns := [], harness := (true, "8de77375c4762c43478b870f87b6a7aa42c1ef5343bf5b03acecabf884949bef"), looks := true }, kinds := [], alts := [], laidByText := true, laidKinds := [.data, .data, .data, .sentinel, .sentinel, .data], laidTests := true, laidLooks := .later }
def ModelLongerCardSaid : Prop := Claim7.holds Tryz.pinned (.plain (OpenSpec.ofChange modelLongerSpec)) modelLongerCard

/-- THE TIED CARD OF 'scarfjointkeep.ModelTurned'. -/
def modelTurnedCard : Claim7 := { stood := { row := modelTurnedRow, standIns := [], harness := (true, "8de77375c4762c43478b870f87b6a7aa42c1ef5343bf5b03acecabf884949bef"), looks := true }, kinds := [], alts := [], laidByText := true, laidKinds := [.data, .data, .data, .sentinel, .sentinel, .data], laidTests := true, laidLooks := .later }
def ModelTurnedCardSaid : Prop := Claim7.holds Tryz.pinned (.plain (OpenSpec.ofChange modelTurnedSpec)) modelTurnedCard

/-- THE SECOND FORM's CARD OF 'scarfjointkeep.ModelLonger'. -/
def modelLongerUptoCard : Claim7 := { stood := { row := modelLongerUptoRow, standIns := [], harness := (true, "8de77375c4762c43478b870f87b6a7aa42c1ef5343bf5b03acecabf884949bef"), looks := true }, kinds := [], alts := [], laidByText := true, laidKinds := [.data, .data, .data, .sentinel, .sentinel, .data], laidTests := true, laidLooks := .later }
def ModelLongerUptoCardSaid : Prop := Claim7.holds Tryz.pinned (.plain (OpenSpec.upto modelLongerSpec)) modelLongerUptoCard

/-- THE SECOND FORM's CARD OF 'scarfjointkeep.ModelTurned'. -/
def modelTurnedUptoCard : Claim7 := { stood := { row := modelTurnedUptoRow, standIns := [], harness := (true, "8de77375c4762c43478b870f87b6a7aa42c1ef5343bf5b03acecabf884949bef"), looks := true }, kinds := [], alts := [], laidByText := true, laidKinds := [.data, .data, .data, .sentinel, .sentinel, .data], laidTests := true, laidLooks := .later }
def ModelTurnedUptoCardSaid : Prop := Claim7.holds Tryz.pinned (.plain (OpenSpec.upto modelTurnedSpec)) modelTurnedUptoCard
end Rows
end Go.Proofs.YtdnhbedbpbgeeaaGreatDoor
