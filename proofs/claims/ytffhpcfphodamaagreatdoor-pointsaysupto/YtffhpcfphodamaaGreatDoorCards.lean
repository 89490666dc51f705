/-
  DERIVED. GIVEN WITH THE SEED: THE CARDS: each row of YtffhpcfphodamaaGreatDoorRows.lean that lists a variable, with what it lists TIED to the program's text (the seventh form; the later family's looks); each row that meets fmt, with fmt's text TOLD by the authors' own Lean function (tested against real Go, not proved from fmt's source: count such statements apart). THE CARD IS WHAT COUNTS. Prove the row's statement (the work); the ties are given (YtffhpcfphodamaaGreatDoorTie.lean); close each card by the builder's one call (the guide's Derived/Test/ToyasCard.lean, 'card_holds'). Laid BY PROGRAM, IN A SANDBOX (cutbox-door.mjs). By AI agents, Wed Nov 11 2026. No macro, syntax, notation, axiom, sorry.
-/
import Derived.Test.YtffhpcfphodamaaGreatDoorRows
import GoSem.ClaimSeven
namespace Go.Proofs.YtffhpcfphodamaaGreatDoor
namespace Rows

/-- THE TIED CARD OF 'turnkeylaw.PointSays'. -/
def pointSaysCard : Claim7 := { stood := { row := pointSaysRow, standIns := [], harness := (true, "28baa2f8b84c1b645322151f8aa1d194f70aa28d4f0cc41025e3e74f243c9473"), looks := true }, kinds := [], alts := [], laidByText := true, laidKinds := [.data, .data, .data, .data, .sentinel, .sentinel, .pinned], laidTests := true, laidLooks := .later }
def PointSaysCardSaid : Prop := Claim7.holds Tryz.pinned (.plain (OpenSpec.ofChange pointSaysSpec)) pointSaysCard

/-- THE TIED CARD OF 'turnkeylaw.PointHome'. -/
def pointHomeCard : Claim7 := { stood := { row := pointHomeRow, standIns := [], harness := (true, "28baa2f8b84c1b645322151f8aa1d194f70aa28d4f0cc41025e3e74f243c9473"), looks := true }, kinds := [], alts := [], laidByText := true, laidKinds := [.data, .data, .data, .data, .sentinel, .sentinel, .pinned], laidTests := true, laidLooks := .later }
def PointHomeCardSaid : Prop := Claim7.holds Tryz.pinned (.plain (OpenSpec.ofChange pointHomeSpec)) pointHomeCard

/-- THE SECOND FORM's CARD OF 'turnkeylaw.PointSays'. -/
def pointSaysUptoCard : Claim7 := { stood := { row := pointSaysUptoRow, standIns := [], harness := (true, "28baa2f8b84c1b645322151f8aa1d194f70aa28d4f0cc41025e3e74f243c9473"), looks := true }, kinds := [], alts := [], laidByText := true, laidKinds := [.data, .data, .data, .data, .sentinel, .sentinel, .pinned], laidTests := true, laidLooks := .later }
def PointSaysUptoCardSaid : Prop := Claim7.holds Tryz.pinned (.plain (OpenSpec.upto pointSaysSpec)) pointSaysUptoCard

/-- THE SECOND FORM's CARD OF 'turnkeylaw.PointHome'. -/
def pointHomeUptoCard : Claim7 := { stood := { row := pointHomeUptoRow, standIns := [], harness := (true, "28baa2f8b84c1b645322151f8aa1d194f70aa28d4f0cc41025e3e74f243c9473"), looks := true }, kinds := [], alts := [], laidByText := true, laidKinds := [.data, .data, .data, .data, .sentinel, .sentinel, .pinned], laidTests := true, laidLooks := .later }
def PointHomeUptoCardSaid : Prop := Claim7.holds Tryz.pinned (.plain (OpenSpec.upto pointHomeSpec)) pointHomeUptoCard
end Rows
end Go.Proofs.YtffhpcfphodamaaGreatDoor
