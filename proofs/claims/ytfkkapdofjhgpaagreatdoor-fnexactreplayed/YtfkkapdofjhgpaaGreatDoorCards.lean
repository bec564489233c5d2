/-
  DERIVED. GIVEN WITH THE SEED: THE CARDS: each row of YtfkkapdofjhgpaaGreatDoorRows.lean that lists a variable, with what it lists TIED to the program's text (the seventh form; the later family's looks); each row that meets fmt, with fmt's text TOLD by the authors' own Lean function (tested against real Go, not proved from fmt's source: count such statements apart). THE CARD IS WHAT COUNTS. Prove the row's statement (the work); the ties are given (YtfkkapdofjhgpaaGreatDoorTie.lean); close each card by the builder's one call (the guide's Derived/Test/ToyasCard.lean, 'card_holds'). Laid BY PROGRAM, IN A SANDBOX (cutbox-door.mjs). By AI agents, Wed Nov 11 2026. No macro, syntax, notation, axiom, sorry.
-/
import Derived.Test.YtfkkapdofjhgpaaGreatDoorRows
import GoSem.ClaimSeven
namespace Go.Proofs.YtfkkapdofjhgpaaGreatDoor
namespace Rows

/-- THE TIED CARD OF 'laws.FnHouses'. -/
def fnHousesCard : Claim7 := { stood := { row := fnHousesRow, standIns := [], harness := (true, "2e225b0ab374328a243553b41226e329ef3e3b142b6c54e00fa2f42a0364bee5"), looks := true }, kinds := [], alts := [], laidByText := true, laidKinds := [.handle, .sentinel, .sentinel, .sentinel, .sentinel, .sentinel, .sentinel, .sentinel, .sentinel, .sentinel, .sentinel, .sentinel], laidTests := true, laidLooks := .later }
def FnHousesCardSaid : Prop := Claim7.holds Tryz.pinned (.plain (OpenSpec.ofChange fnHousesSpec)) fnHousesCard

/-- THE TIED CARD OF 'laws.FnReplay'. -/
def fnReplayCard : Claim7 := { stood := { row := fnReplayRow, standIns := [], harness := (true, "2e225b0ab374328a243553b41226e329ef3e3b142b6c54e00fa2f42a0364bee5"), looks := true }, kinds := [], alts := [], laidByText := true, laidKinds := [.handle, .sentinel, .sentinel, .sentinel, .sentinel, .sentinel, .sentinel, .sentinel, .sentinel, .sentinel, .sentinel, .sentinel], laidTests := true, laidLooks := .later }
def FnReplayCardSaid : Prop := Claim7.holds Tryz.pinned (.plain (OpenSpec.ofChange fnReplaySpec)) fnReplayCard

/-- THE TIED CARD OF 'laws.FnExactReplayed'. -/
def fnExactReplayedCard : Claim7 := { stood := { row := fnExactReplayedRow, standIns := [], harness := (true, "2e225b0ab374328a243553b41226e329ef3e3b142b6c54e00fa2f42a0364bee5"), looks := true }, kinds := [], alts := [], laidByText := true, laidKinds := [.handle, .sentinel, .sentinel, .sentinel, .sentinel, .sentinel, .sentinel, .sentinel, .sentinel, .sentinel, .sentinel, .sentinel], laidTests := true, laidLooks := .later }
def FnExactReplayedCardSaid : Prop := Claim7.holds Tryz.pinned (.plain (OpenSpec.ofChange fnExactReplayedSpec)) fnExactReplayedCard

/-- THE TIED CARD OF 'laws.FnExactHouseOk'. -/
def fnExactHouseOkCard : Claim7 := { stood := { row := fnExactHouseOkRow, standIns := [], harness := (true, "2e225b0ab374328a243553b41226e329ef3e3b142b6c54e00fa2f42a0364bee5"), looks := true }, kinds := [], alts := [], laidByText := true, laidKinds := [.handle, .sentinel, .sentinel, .sentinel, .sentinel, .sentinel, .sentinel, .sentinel, .sentinel, .sentinel, .sentinel, .sentinel], laidTests := true, laidLooks := .later }
def FnExactHouseOkCardSaid : Prop := Claim7.holds Tryz.pinned (.plain (OpenSpec.ofChange fnExactHouseOkSpec)) fnExactHouseOkCard

/-- THE TIED CARD OF 'laws.FnExactApplied'. -/
def fnExactAppliedCard : Claim7 := { stood := { row := fnExactAppliedRow, standIns := [], harness := (true, "2e225b0ab374328a243553b41226e329ef3e3b142b6c54e00fa2f42a0364bee5"), looks := true }, kinds := [], alts := [], laidByText := true, laidKinds := [.handle, .sentinel, .sentinel, .sentinel, .sentinel, .sentinel, .sentinel, .sentinel, .sentinel, .sentinel, .sentinel, .sentinel], laidTests := true, laidLooks := .later }
def FnExactAppliedCardSaid : Prop := Claim7.holds Tryz.pinned (.plain (OpenSpec.ofChange fnExactAppliedSpec)) fnExactAppliedCard

/-- THE TIED CARD OF 'laws.FnExactCopied'. -/
def fnExactCopiedCard : Claim7 := { stood := { row := fnExactCopiedRow, standIns := [], harness := (true, "2e225b0ab374328a243553b41226e329ef3e3b142b6c54e00fa2f42a0364bee5"), looks := true }, kinds := [], alts := [], laidByText := true, laidKinds := [.handle, .sentinel, .sentinel, .sentinel, .sentinel, .sentinel, .sentinel, .sentinel, .sentinel, .sentinel, .sentinel, .sentinel], laidTests := true, laidLooks := .later }
def FnExactCopiedCardSaid : Prop := Claim7.holds Tryz.pinned (.plain (OpenSpec.ofChange fnExactCopiedSpec)) fnExactCopiedCard

/-- THE SECOND FORM's CARD OF 'laws.FnHouses'. -/
def fnHousesUptoCard : Claim7 := { stood := { row := fnHousesUptoRow, standIns := [], harness := (true, "2e225b0ab374328a243553b41226e329ef3e3b142b6c54e00fa2f42a0364bee5"), looks := true }, kinds := [], alts := [], laidByText := true, laidKinds := [.handle, .sentinel, .sentinel, .sentinel, .sentinel, .sentinel, .sentinel, .sentinel, .sentinel, .sentinel, .sentinel, .sentinel], laidTests := true, laidLooks := .later }
def FnHousesUptoCardSaid : Prop := Claim7.holds Tryz.pinned (.plain (OpenSpec.upto fnHousesSpec)) fnHousesUptoCard

/-- THE SECOND FORM's CARD OF 'laws.FnReplay'. -/
def fnReplayUptoCard : Claim7 := { stood := { row := fnReplayUptoRow, standIns := [], harness := (true, "2e225b0ab374328a243553b41226e329ef3e3b142b6c54e00fa2f42a0364bee5"), looks := true }, kinds := [], alts := [], laidByText := true, laidKinds := [.handle, .sentinel, .sentinel, .sentinel, .sentinel, .sentinel, .sentinel, .sentinel, .sentinel, .sentinel, .sentinel, .sentinel], laidTests := true, laidLooks := .later }
def FnReplayUptoCardSaid : Prop := Claim7.holds Tryz.pinned (.plain (OpenSpec.upto fnReplaySpec)) fnReplayUptoCard

/-- THE SECOND FORM's CARD OF 'laws.FnExactReplayed'. -/
def fnExactReplayedUptoCard : Claim7 := { stood := { row := fnExactReplayedUptoRow, standIns := [], harness := (true, "2e225b0ab374328a243553b41226e329ef3e3b142b6c54e00fa2f42a0364bee5"), looks := true }, kinds := [], alts := [], laidByText := true, laidKinds := [.handle, .sentinel, .sentinel, .sentinel, .sentinel, .sentinel, .sentinel, .sentinel, .sentinel, .sentinel, .sentinel, .sentinel], laidTests := true, laidLooks := .later }
def FnExactReplayedUptoCardSaid : Prop := Claim7.holds Tryz.pinned (.plain (OpenSpec.upto fnExactReplayedSpec)) fnExactReplayedUptoCard

/-- THE SECOND FORM's CARD OF 'laws.FnExactHouseOk'. -/
def fnExactHouseOkUptoCard : Claim7 := { stood := { row := fnExactHouseOkUptoRow, standIns := [], harness := (true, "2e225b0ab374328a243553b41226e329ef3e3b142b6c54e00fa2f42a0364bee5"), looks := true }, kinds := [], alts := [], laidByText := true, laidKinds := [.handle, .sentinel, .sentinel, .sentinel, .sentinel, .sentinel, .sentinel, .sentinel, .sentinel, .sentinel, .sentinel, .sentinel], laidTests := true, laidLooks := .later }
def FnExactHouseOkUptoCardSaid : Prop := Claim7.holds Tryz.pinned (.plain (OpenSpec.upto fnExactHouseOkSpec)) fnExactHouseOkUptoCard

/-- THE SECOND FORM's CARD OF 'laws.FnExactApplied'. -/
def fnExactAppliedUptoCard : Claim7 := { stood := { row := fnExactAppliedUptoRow, standIns := [], harness := (true, "2e225b0ab374328a243553b41226e329ef3e3b142b6c54e00fa2f42a0364bee5"), looks := true }, kinds := [], alts := [], laidByText := true, laidKinds := [.handle, .sentinel, .sentinel, .sentinel, .sentinel, .sentinel, .sentinel, .sentinel, .sentinel, .sentinel, .sentinel, .sentinel], laidTests := true, laidLooks := .later }
def FnExactAppliedUptoCardSaid : Prop := Claim7.holds Tryz.pinned (.plain (OpenSpec.upto fnExactAppliedSpec)) fnExactAppliedUptoCard

/-- THE SECOND FORM's CARD OF 'laws.FnExactCopied'. -/
def fnExactCopiedUptoCard : Claim7 := { stood := { row := fnExactCopiedUptoRow, standIns := [], harness := (true, "2e225b0ab374328a243553b41226e329ef3e3b142b6c54e00fa2f42a0364bee5"), looks := true }, kinds := [], alts := [], laidByText := true, laidKinds := [.handle, .sentinel, .sentinel, .sentinel, .sentinel, .sentinel, .sentinel, .sentinel, .sentinel, .sentinel, .sentinel, .sentinel], laidTests := true, laidLooks := .later }
def FnExactCopiedUptoCardSaid : Prop := Claim7.holds Tryz.pinned (.plain (OpenSpec.upto fnExactCopiedSpec)) fnExactCopiedUptoCard
end Rows
end Go.Proofs.YtfkkapdofjhgpaaGreatDoor
