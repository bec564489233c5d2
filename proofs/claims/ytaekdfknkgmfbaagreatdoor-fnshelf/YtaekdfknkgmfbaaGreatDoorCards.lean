/-
  DERIVED. GIVEN WITH THE SEED: THE CARDS: each row of YtaekdfknkgmfbaaGreatDoorRows.lean that lists a variable, with what it lists TIED to the program's text (the seventh form; the later family's looks); each row that meets fmt, with fmt's text TOLD by the authors' own Lean function (tested against real Go, not proved from fmt's source: count such statements apart). THE CARD IS WHAT COUNTS. Prove the row's statement (the work); the ties are given (YtaekdfknkgmfbaaGreatDoorTie.lean); close each card by the builder's one call (the guide's Derived/Test/ToyasCard.lean, 'card_holds'). Laid BY PROGRAM, IN A SANDBOX (cutbox-door.mjs). By AI agents, Wed Nov 11 2026. No macro, syntax, notation, axiom, sorry.
-/
import Derived.Test.YtaekdfknkgmfbaaGreatDoorRows
import GoSem.ClaimSeven
namespace Go.Proofs.YtaekdfknkgmfbaaGreatDoor
namespace Rows

/-- THE TIED CARD OF 'laws.FnShelf'. -/
def fnShelfCard : Claim7 := { stood := { row := fnShelfRow, standIns := [], harness := (true, "b2287236bee097b051ce9616ae8ae0340ef641078460b544a384993f62e4c8ab"), looks := true }, kinds := [], alts := [], laidByText := true, laidKinds := [.handle, .sentinel, .sentinel, .sentinel, .sentinel, .sentinel, .sentinel, .sentinel, .sentinel, .sentinel, .sentinel], laidTests := true, laidLooks := .later }
def FnShelfCardSaid : Prop := Claim7.holds Tryz.pinned (.plain (OpenSpec.ofChange fnShelfSpec)) fnShelfCard

/-- THE TIED CARD OF 'laws.FnPagesShared'. -/
def fnPagesSharedCard : Claim7 := { stood := { row := fnPagesSharedRow, standIns := [], harness := (true, "b2287236bee097b051ce9616ae8ae0340ef641078460b544a384993f62e4c8ab"), looks := true }, kinds := [], alts := [], laidByText := true, laidKinds := [.handle, .sentinel, .sentinel, .sentinel, .sentinel, .sentinel, .sentinel, .sentinel, .sentinel, .sentinel, .sentinel], laidTests := true, laidLooks := .later }
def FnPagesSharedCardSaid : Prop := Claim7.holds Tryz.pinned (.plain (OpenSpec.ofChange fnPagesSharedSpec)) fnPagesSharedCard

/-- THE TIED CARD OF 'laws.FnFull'. -/
def fnFullCard : Claim7 := { stood := { row := fnFullRow, standIns := [], harness := (true, "b2287236bee097b051ce9616ae8ae0340ef641078460b544a384993f62e4c8ab"), looks := true }, kinds := [], alts := [], laidByText := true, laidKinds := [.handle, .sentinel, .sentinel, .sentinel, .sentinel, .sentinel, .sentinel, .sentinel, .sentinel, .sentinel, .sentinel], laidTests := true, laidLooks := .later }
def FnFullCardSaid : Prop := Claim7.holds Tryz.pinned (.plain (OpenSpec.ofChange fnFullSpec)) fnFullCard

/-- THE TIED CARD OF 'laws.FnPlain'. -/
def fnPlainCard : Claim7 := { stood := { row := fnPlainRow, standIns := [], harness := (true, "b2287236bee097b051ce9616ae8ae0340ef641078460b544a384993f62e4c8ab"), looks := true }, kinds := [], alts := [], laidByText := true, laidKinds := [.handle, .sentinel, .sentinel, .sentinel, .sentinel, .sentinel, .sentinel, .sentinel, .sentinel, .sentinel], laidTests := true, laidLooks := .later }
def FnPlainCardSaid : Prop := Claim7.holds Tryz.pinned (.plain (OpenSpec.ofChange fnPlainSpec)) fnPlainCard

/-- THE TIED CARD OF 'laws.FnAsPlain'. -/
def fnAsPlainCard : Claim7 := { stood := { row := fnAsPlainRow, standIns := [], harness := (true, "b2287236bee097b051ce9616ae8ae0340ef641078460b544a384993f62e4c8ab"), looks := true }, kinds := [], alts := [], laidByText := true, laidKinds := [.handle, .sentinel, .sentinel, .sentinel, .sentinel, .sentinel, .sentinel, .sentinel, .sentinel, .sentinel], laidTests := true, laidLooks := .later }
def FnAsPlainCardSaid : Prop := Claim7.holds Tryz.pinned (.plain (OpenSpec.ofChange fnAsPlainSpec)) fnAsPlainCard

/-- THE TIED CARD OF 'laws.FnFenced'. -/
def fnFencedCard : Claim7 := { stood := { row := fnFencedRow, standIns := [], harness := (true, "b2287236bee097b051ce9616ae8ae0340ef641078460b544a384993f62e4c8ab"), looks := true }, kinds := [], alts := [], laidByText := true, laidKinds := [.handle, .sentinel, .sentinel, .sentinel, .sentinel, .sentinel, .sentinel, .sentinel, .sentinel, .sentinel], laidTests := true, laidLooks := .later }
def FnFencedCardSaid : Prop := Claim7.holds Tryz.pinned (.plain (OpenSpec.ofChange fnFencedSpec)) fnFencedCard

/-- THE TIED CARD OF 'laws.FnExactDid'. -/
def fnExactDidCard : Claim7 := { stood := { row := fnExactDidRow, standIns := [], harness := (true, "b2287236bee097b051ce9616ae8ae0340ef641078460b544a384993f62e4c8ab"), looks := true }, kinds := [], alts := [], laidByText := true, laidKinds := [.handle, .sentinel, .sentinel, .sentinel, .sentinel, .sentinel, .sentinel, .sentinel, .sentinel, .sentinel, .sentinel], laidTests := true, laidLooks := .later }
def FnExactDidCardSaid : Prop := Claim7.holds Tryz.pinned (.plain (OpenSpec.ofChange fnExactDidSpec)) fnExactDidCard

/-- THE TIED CARD OF 'laws.FnExactReads'. -/
def fnExactReadsCard : Claim7 := { stood := { row := fnExactReadsRow, standIns := [], harness := (true, "b2287236bee097b051ce9616ae8ae0340ef641078460b544a384993f62e4c8ab"), looks := true }, kinds := [], alts := [], laidByText := true, laidKinds := [.handle, .sentinel, .sentinel, .sentinel, .sentinel, .sentinel, .sentinel, .sentinel, .sentinel, .sentinel, .sentinel], laidTests := true, laidLooks := .later }
def FnExactReadsCardSaid : Prop := Claim7.holds Tryz.pinned (.plain (OpenSpec.ofChange fnExactReadsSpec)) fnExactReadsCard

/-- THE TIED CARD OF 'laws.FnExactDidPlain'. -/
def fnExactDidPlainCard : Claim7 := { stood := { row := fnExactDidPlainRow, standIns := [], harness := (true, "b2287236bee097b051ce9616ae8ae0340ef641078460b544a384993f62e4c8ab"), looks := true }, kinds := [], alts := [], laidByText := true, laidKinds := [.handle, .sentinel, .sentinel, .sentinel, .sentinel, .sentinel, .sentinel, .sentinel, .sentinel, .sentinel], laidTests := true, laidLooks := .later }
def FnExactDidPlainCardSaid : Prop := Claim7.holds Tryz.pinned (.plain (OpenSpec.ofChange fnExactDidPlainSpec)) fnExactDidPlainCard

/-- THE SECOND FORM's CARD OF 'laws.FnShelf'. -/
def fnShelfUptoCard : Claim7 := { stood := { row := fnShelfUptoRow, standIns := [], harness := (true, "b2287236bee097b051ce9616ae8ae0340ef641078460b544a384993f62e4c8ab"), looks := true }, kinds := [], alts := [], laidByText := true, laidKinds := [.handle, .sentinel, .sentinel, .sentinel, .sentinel, .sentinel, .sentinel, .sentinel, .sentinel, .sentinel, .sentinel], laidTests := true, laidLooks := .later }
def FnShelfUptoCardSaid : Prop := Claim7.holds Tryz.pinned (.plain (OpenSpec.upto fnShelfSpec)) fnShelfUptoCard

/-- THE SECOND FORM's CARD OF 'laws.FnPagesShared'. -/
def fnPagesSharedUptoCard : Claim7 := { stood := { row := fnPagesSharedUptoRow, standIns := [], harness := (true, "b2287236bee097b051ce9616ae8ae0340ef641078460b544a384993f62e4c8ab"), looks := true }, kinds := [], alts := [], laidByText := true, laidKinds := [.handle, .sentinel, .sentinel, .sentinel, .sentinel, .sentinel, .sentinel, .sentinel, .sentinel, .sentinel, .sentinel], laidTests := true, laidLooks := .later }
def FnPagesSharedUptoCardSaid : Prop := Claim7.holds Tryz.pinned (.plain (OpenSpec.upto fnPagesSharedSpec)) fnPagesSharedUptoCard

/-- THE SECOND FORM's CARD OF 'laws.FnFull'. -/
def fnFullUptoCard : Claim7 := { stood := { row := fnFullUptoRow, standIns := [], harness := (true, "b2287236bee097b051ce9616ae8ae0340ef641078460b544a384993f62e4c8ab"), looks := true }, kinds := [], alts := [], laidByText := true, laidKinds := [.handle, .sentinel, .sentinel, .sentinel, .sentinel, .sentinel, .sentinel, .sentinel, .sentinel, .sentinel, .sentinel], laidTests := true, laidLooks := .later }
def FnFullUptoCardSaid : Prop := Claim7.holds Tryz.pinned (.plain (OpenSpec.upto fnFullSpec)) fnFullUptoCard

/-- THE SECOND FORM's CARD OF 'laws.FnPlain'. -/
def fnPlainUptoCard : Claim7 := { stood := { row := fnPlainUptoRow, standIns := [], harness := (true, "b2287236bee097b051ce9616ae8ae0340ef641078460b544a384993f62e4c8ab"), looks := true }, kinds := [], alts := [], laidByText := true, laidKinds := [.handle, .sentinel, .sentinel, .sentinel, .sentinel, .sentinel, .sentinel, .sentinel, .sentinel, .sentinel], laidTests := true, laidLooks := .later }
def FnPlainUptoCardSaid : Prop := Claim7.holds Tryz.pinned (.plain (OpenSpec.upto fnPlainSpec)) fnPlainUptoCard

/-- THE SECOND FORM's CARD OF 'laws.FnAsPlain'. -/
def fnAsPlainUptoCard : Claim7 := { stood := { row := fnAsPlainUptoRow, standIns := [], harness := (true, "b2287236bee097b051ce9616ae8ae0340ef641078460b544a384993f62e4c8ab"), looks := true }, kinds := [], alts := [], laidByText := true, laidKinds := [.handle, .sentinel, .sentinel, .sentinel, .sentinel, .sentinel, .sentinel, .sentinel, .sentinel, .sentinel], laidTests := true, laidLooks := .later }
def FnAsPlainUptoCardSaid : Prop := Claim7.holds Tryz.pinned (.plain (OpenSpec.upto fnAsPlainSpec)) fnAsPlainUptoCard

/-- THE SECOND FORM's CARD OF 'laws.FnFenced'. -/
def fnFencedUptoCard : Claim7 := { stood := { row := fnFencedUptoRow, standIns := [], harness := (true, "b2287236bee097b051ce9616ae8ae0340ef641078460b544a384993f62e4c8ab"), looks := true }, kinds := [], alts := [], laidByText := true, laidKinds := [.handle, .sentinel, .sentinel, .sentinel, .sentinel, .sentinel, .sentinel, .sentinel, .sentinel, .sentinel], laidTests := true, laidLooks := .later }
def FnFencedUptoCardSaid : Prop := Claim7.holds Tryz.pinned (.plain (OpenSpec.upto fnFencedSpec)) fnFencedUptoCard

/-- THE SECOND FORM's CARD OF 'laws.FnExactDid'. -/
def fnExactDidUptoCard : Claim7 := { stood := { row := fnExactDidUptoRow, standIns := [], harness := (true, "b2287236bee097b051ce9616ae8ae0340ef641078460b544a384993f62e4c8ab"), looks := true }, kinds := [], alts := [], laidByText := true, laidKinds := [.handle, .sentinel, .sentinel, .sentinel, .sentinel, .sentinel, .sentinel, .sentinel, .sentinel, .sentinel, .sentinel], laidTests := true, laidLooks := .later }
def FnExactDidUptoCardSaid : Prop := Claim7.holds Tryz.pinned (.plain (OpenSpec.upto fnExactDidSpec)) fnExactDidUptoCard

/-- THE SECOND FORM's CARD OF 'laws.FnExactReads'. -/
def fnExactReadsUptoCard : Claim7 := { stood := { row := fnExactReadsUptoRow, standIns := [], harness := (true, "b2287236bee097b051ce9616ae8ae0340ef641078460b544a384993f62e4c8ab"), looks := true }, kinds := [], alts := [], laidByText := true, laidKinds := [.handle, .sentinel, .sentinel, .sentinel, .sentinel, .sentinel, .sentinel, .sentinel, .sentinel, .sentinel, .sentinel], laidTests := true, laidLooks := .later }
def FnExactReadsUptoCardSaid : Prop := Claim7.holds Tryz.pinned (.plain (OpenSpec.upto fnExactReadsSpec)) fnExactReadsUptoCard

/-- THE SECOND FORM's CARD OF 'laws.FnExactDidPlain'. -/
def fnExactDidPlainUptoCard : Claim7 := { stood := { row := fnExactDidPlainUptoRow, standIns := [], harness := (true, "b2287236bee097b051ce9616ae8ae0340ef641078460b544a384993f62e4c8ab"), looks := true }, kinds := [], alts := [], laidByText := true, laidKinds := [.handle, .sentinel, .sentinel, .sentinel, .sentinel, .sentinel, .sentinel, .sentinel, .sentinel, .sentinel], laidTests := true, laidLooks := .later }
def FnExactDidPlainUptoCardSaid : Prop := Claim7.holds Tryz.pinned (.plain (OpenSpec.upto fnExactDidPlainSpec)) fnExactDidPlainUptoCard
end Rows
end Go.Proofs.YtaekdfknkgmfbaaGreatDoor
