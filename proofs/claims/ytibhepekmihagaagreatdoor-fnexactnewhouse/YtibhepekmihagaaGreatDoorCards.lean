/-
  DERIVED. GIVEN WITH THE SEED: THE CARDS: each row of YtibhepekmihagaaGreatDoorRows.lean that lists a variable, with what it lists TIED to the program's text (the seventh form; the later family's looks); each row that meets fmt, with fmt's text TOLD by the authors' own Lean function (tested against real Go, not proved from fmt's source: count such statements apart). THE CARD IS WHAT COUNTS. Prove the row's statement (the work); the ties are given (YtibhepekmihagaaGreatDoorTie.lean); close each card by the builder's one call (the guide's Derived/Test/ToyasCard.lean, 'card_holds'). Laid BY PROGRAM, IN A SANDBOX (cutbox-door.mjs). By AI agents, Wed Nov 11 2026. No macro, syntax, notation, axiom, sorry.
-/
import Derived.Test.YtibhepekmihagaaGreatDoorRows
import GoSem.ClaimSeven
namespace Go.Proofs.YtibhepekmihagaaGreatDoor
namespace Rows

/-- THE TIED CARD OF 'laws.FnExactNewHouse'. -/
def fnExactNewHouseCard : Claim7 := { stood := { row := fnExactNewHouseRow, standIns := [], harness := (true, "0982d5ae380c2dea0abb4d2040c985eedbc7985d22bb2a5e3b3720686eb6e62d"), looks := true }, kinds := [], alts := [], laidByText := true, laidKinds := [.handle, .sentinel, .sentinel, .sentinel, .sentinel, .sentinel, .sentinel, .sentinel, .sentinel, .sentinel, .sentinel, .sentinel], laidTests := true, laidLooks := .later }
def FnExactNewHouseCardSaid : Prop := Claim7.holds Tryz.pinned (.plain (OpenSpec.ofChange fnExactNewHouseSpec)) fnExactNewHouseCard

/-- THE TIED CARD OF 'laws.FnExactReplayed'. -/
def fnExactReplayedCard : Claim7 := { stood := { row := fnExactReplayedRow, standIns := [], harness := (true, "0982d5ae380c2dea0abb4d2040c985eedbc7985d22bb2a5e3b3720686eb6e62d"), looks := true }, kinds := [], alts := [], laidByText := true, laidKinds := [.handle, .sentinel, .sentinel, .sentinel, .sentinel, .sentinel, .sentinel, .sentinel, .sentinel, .sentinel, .sentinel, .sentinel], laidTests := true, laidLooks := .later }
def FnExactReplayedCardSaid : Prop := Claim7.holds Tryz.pinned (.plain (OpenSpec.ofChange fnExactReplayedSpec)) fnExactReplayedCard

/-- THE TIED CARD OF 'laws.FnExactHouseOk'. -/
def fnExactHouseOkCard : Claim7 := { stood := { row := fnExactHouseOkRow, standIns := [], harness := (true, "0982d5ae380c2dea0abb4d2040c985eedbc7985d22bb2a5e3b3720686eb6e62d"), looks := true }, kinds := [], alts := [], laidByText := true, laidKinds := [.handle, .sentinel, .sentinel, .sentinel, .sentinel, .sentinel, .sentinel, .sentinel, .sentinel, .sentinel, .sentinel, .sentinel], laidTests := true, laidLooks := .later }
def FnExactHouseOkCardSaid : Prop := Claim7.holds Tryz.pinned (.plain (OpenSpec.ofChange fnExactHouseOkSpec)) fnExactHouseOkCard

/-- THE TIED CARD OF 'laws.FnExactNewWorld'. -/
def fnExactNewWorldCard : Claim7 := { stood := { row := fnExactNewWorldRow, standIns := [], harness := (true, "0982d5ae380c2dea0abb4d2040c985eedbc7985d22bb2a5e3b3720686eb6e62d"), looks := true }, kinds := [], alts := [], laidByText := true, laidKinds := [.handle, .sentinel, .sentinel, .sentinel, .sentinel, .sentinel, .sentinel, .sentinel, .sentinel, .sentinel, .sentinel, .sentinel], laidTests := true, laidLooks := .later }
def FnExactNewWorldCardSaid : Prop := Claim7.holds Tryz.pinned (.plain (OpenSpec.ofChange fnExactNewWorldSpec)) fnExactNewWorldCard

/-- THE SECOND FORM's CARD OF 'laws.FnExactNewHouse'. -/
def fnExactNewHouseUptoCard : Claim7 := { stood := { row := fnExactNewHouseUptoRow, standIns := [], harness := (true, "0982d5ae380c2dea0abb4d2040c985eedbc7985d22bb2a5e3b3720686eb6e62d"), looks := true }, kinds := [], alts := [], laidByText := true, laidKinds := [.handle, .sentinel, .sentinel, .sentinel, .sentinel, .sentinel, .sentinel, .sentinel, .sentinel, .sentinel, .sentinel, .sentinel], laidTests := true, laidLooks := .later }
def FnExactNewHouseUptoCardSaid : Prop := Claim7.holds Tryz.pinned (.plain (OpenSpec.upto fnExactNewHouseSpec)) fnExactNewHouseUptoCard

/-- THE SECOND FORM's CARD OF 'laws.FnExactReplayed'. -/
def fnExactReplayedUptoCard : Claim7 := { stood := { row := fnExactReplayedUptoRow, standIns := [], harness := (true, "0982d5ae380c2dea0abb4d2040c985eedbc7985d22bb2a5e3b3720686eb6e62d"), looks := true }, kinds := [], alts := [], laidByText := true, laidKinds := [.handle, .sentinel, .sentinel, .sentinel, .sentinel, .sentinel, .sentinel, .sentinel, .sentinel, .sentinel, .sentinel, .sentinel], laidTests := true, laidLooks := .later }
def FnExactReplayedUptoCardSaid : Prop := Claim7.holds Tryz.pinned (.plain (OpenSpec.upto fnExactReplayedSpec)) fnExactReplayedUptoCard

/-- THE SECOND FORM's CARD OF 'laws.FnExactHouseOk'. -/
def fnExactHouseOkUptoCard : Claim7 := { stood := { row := fnExactHouseOkUptoRow, standIns := [], harness := (true, "0982d5ae380c2dea0abb4d2040c985eedbc7985d22bb2a5e3b3720686eb6e62d"), looks := true }, kinds := [], alts := [], laidByText := true, laidKinds := [.handle, .sentinel, .sentinel, .sentinel, .sentinel, .sentinel, .sentinel, .sentinel, .sentinel, .sentinel, .sentinel, .sentinel], laidTests := true, laidLooks := .later }
def FnExactHouseOkUptoCardSaid : Prop := Claim7.holds Tryz.pinned (.plain (OpenSpec.upto fnExactHouseOkSpec)) fnExactHouseOkUptoCard

/-- THE SECOND FORM's CARD OF 'laws.FnExactNewWorld'. -/
def fnExactNewWorldUptoCard : Claim7 := { stood := { row := fnExactNewWorldUptoRow, standIns := [], harness := (true, "0982d5ae380c2dea0abb4d2040c985eedbc7985d22bb2a5e3b3720686eb6e62d"), looks := true }, kinds := [], alts := [], laidByText := true, laidKinds := [.handle, .sentinel, .sentinel, .sentinel, .sentinel, .sentinel, .sentinel, .sentinel, .sentinel, .sentinel, .sentinel, .sentinel], laidTests := true, laidLooks := .later }
def FnExactNewWorldUptoCardSaid : Prop := Claim7.holds Tryz.pinned (.plain (OpenSpec.upto fnExactNewWorldSpec)) fnExactNewWorldUptoCard
end Rows
end Go.Proofs.YtibhepekmihagaaGreatDoor
