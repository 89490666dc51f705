/-
  DERIVED. GIVEN WITH THE SEED: THE CARDS: each row of YtbjpdmfedphacacGreatDoorRows.lean that lists a variable, with what it lists TIED to the program's text (the seventh form; the later family's looks); each row that meets fmt, with fmt's text TOLD by the authors' own Lean function (tested against real Go, not proved from fmt's source: count such statements apart). THE CARD IS WHAT COUNTS. Prove the row's statement (the work); the ties are given (YtbjpdmfedphacacGreatDoorTie.lean); close each card by the builder's one call (the guide's Derived/Test/ToyasCard.lean, 'card_holds'). Laid BY PROGRAM, IN A SANDBOX (cutbox-door.mjs). By AI agents, Wed Nov 11 2026. No macro, syntax, notation, axiom, sorry.
-/
import Derived.Test.YtbjpdmfedphacacGreatDoorRows
import GoSem.ClaimSeven
namespace Go.Proofs.YtbjpdmfedphacacGreatDoor
namespace Rows

/-- THE TIED CARD OF 'turnkeylaw.ChainDelta'. -/
def chainDeltaCard : Claim7 := { stood := { row := chainDeltaRow, standIns := [], harness := (true, "e947af5dfb9463274a73a3cd7ee2a91acf89dd9bf36d3ce881a0e1855331d981"), looks := true }, kinds := [], alts := [], laidByText := true, laidKinds := [.data, .data, .data, .data, .sentinel, .sentinel, .pinned], laidTests := true, laidLooks := .later }
def ChainDeltaCardSaid : Prop := Claim7.holds Tryz.pinned (.plain (OpenSpec.ofChange chainDeltaSpec)) chainDeltaCard

/-- THE SECOND FORM's CARD OF 'turnkeylaw.ChainDelta'. -/
def chainDeltaUptoCard : Claim7 := { stood := { row := chainDeltaUptoRow, standIns := [], harness := (true, "e947af5dfb9463274a73a3cd7ee2a91acf89dd9bf36d3ce881a0e1855331d981"), looks := true }, kinds := [], alts := [], laidByText := true, laidKinds := [.data, .data, .data, .data, .sentinel, .sentinel, .pinned], laidTests := true, laidLooks := .later }
def ChainDeltaUptoCardSaid : Prop := Claim7.holds Tryz.pinned (.plain (OpenSpec.upto chainDeltaSpec)) chainDeltaUptoCard
end Rows
end Go.Proofs.YtbjpdmfedphacacGreatDoor
