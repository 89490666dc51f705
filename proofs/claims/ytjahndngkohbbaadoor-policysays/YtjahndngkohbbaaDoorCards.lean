/-
  DERIVED. GIVEN WITH THE SEED: THE CARDS: each row of YtjahndngkohbbaaDoorRows.lean that lists a variable, with what it lists TIED to the program's text (the seventh form; the later family's looks); each row that meets fmt, with fmt's text TOLD by the authors' own Lean function (tested against real Go, not proved from fmt's source: count such statements apart). THE CARD IS WHAT COUNTS. Prove the row's statement (the work); the ties are given (YtjahndngkohbbaaDoorTie.lean); close each card by the builder's one call (the guide's Derived/Test/ToyasCard.lean, 'card_holds'). Laid BY PROGRAM, IN A SANDBOX (cutbox-door.mjs). By AI agents, Wed Nov 11 2026. No macro, syntax, notation, axiom, sorry.
-/
import Derived.Test.YtjahndngkohbbaaDoorRows
import GoSem.ClaimSeven
namespace Go.Proofs.YtjahndngkohbbaaDoor
namespace Rows

/-- THE TIED CARD OF 'turnkeylaw.PolicySays'. -/
def policySaysCard : Claim7 := { stood := { row := policySaysRow, standIns := [], harness := (true, "ece3c7a053088a96db4d455bbac9c2f15462ed0e5391c8a761a334fb95017e9b"), looks := true }, kinds := [], alts := [], laidByText := true, laidKinds := [.data, .data, .data, .data, .sentinel, .sentinel, .pinned], laidTests := true, laidLooks := .later }
def PolicySaysCardSaid : Prop := Claim7.holds Tryd.pinned (.plain (OpenSpec.ofChange policySaysSpec)) policySaysCard

/-- THE TIED CARD OF 'turnkeylaw.PolicyFirst'. -/
def policyFirstCard : Claim7 := { stood := { row := policyFirstRow, standIns := [], harness := (true, "ece3c7a053088a96db4d455bbac9c2f15462ed0e5391c8a761a334fb95017e9b"), looks := true }, kinds := [], alts := [], laidByText := true, laidKinds := [.data, .data, .data, .data, .sentinel, .sentinel, .pinned], laidTests := true, laidLooks := .later }
def PolicyFirstCardSaid : Prop := Claim7.holds Tryd.pinned (.plain (OpenSpec.ofChange policyFirstSpec)) policyFirstCard

/-- THE SECOND FORM's CARD OF 'turnkeylaw.PolicySays'. -/
def policySaysUptoCard : Claim7 := { stood := { row := policySaysUptoRow, standIns := [], harness := (true, "ece3c7a053088a96db4d455bbac9c2f15462ed0e5391c8a761a334fb95017e9b"), looks := true }, kinds := [], alts := [], laidByText := true, laidKinds := [.data, .data, .data, .data, .sentinel, .sentinel, .pinned], laidTests := true, laidLooks := .later }
def PolicySaysUptoCardSaid : Prop := Claim7.holds Tryd.pinned (.plain (OpenSpec.upto policySaysSpec)) policySaysUptoCard

/-- THE SECOND FORM's CARD OF 'turnkeylaw.PolicyFirst'. -/
def policyFirstUptoCard : Claim7 := { stood := { row := policyFirstUptoRow, standIns := [], harness := (true, "ece3c7a053088a96db4d455bbac9c2f15462ed0e5391c8a761a334fb95017e9b"), looks := true }, kinds := [], alts := [], laidByText := true, laidKinds := [.data, .data, .data, .data, .sentinel, .sentinel, .pinned], laidTests := true, laidLooks := .later }
def PolicyFirstUptoCardSaid : Prop := Claim7.holds Tryd.pinned (.plain (OpenSpec.upto policyFirstSpec)) policyFirstUptoCard
end Rows
end Go.Proofs.YtjahndngkohbbaaDoor
