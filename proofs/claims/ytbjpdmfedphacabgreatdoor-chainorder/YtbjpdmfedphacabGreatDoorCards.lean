/-
  DERIVED. GIVEN WITH THE SEED: THE CARDS: each row of YtbjpdmfedphacabGreatDoorRows.lean that lists a variable, with what it lists TIED to the program's text (the seventh form; the later family's looks); each row that meets fmt, with fmt's text TOLD by the authors' own Lean function (tested against real Go, not proved from fmt's source: count such statements apart). THE CARD IS WHAT COUNTS. Prove the row's statement (the work); the ties are given (YtbjpdmfedphacabGreatDoorTie.lean); close each card by the builder's one call (the guide's Derived/Test/ToyasCard.lean, 'card_holds'). Laid BY PROGRAM, IN A SANDBOX (cutbox-door.mjs). By AI agents, Wed Nov 11 2026. No macro, syntax, notation, axiom, sorry.
-/
import Derived.Test.YtbjpdmfedphacabGreatDoorRows
import GoSem.ClaimSeven
namespace Go.Proofs.YtbjpdmfedphacabGreatDoor
namespace Rows

/-- THE TIED CARD OF 'turnkeylaw.PointOrder'. -/
def pointOrderCard : Claim7 := { stood := { row := pointOrderRow, standIns := [], harness := (true, "7820c050ac7645d53d7a00258e755a86ed4d86a3d0be267b3f83b28ef10998cb"), looks := true }, kinds := [], alts := [], laidByText := true, laidKinds := [.data, .data, .data, .data, .sentinel, .sentinel, .pinned], laidTests := true, laidLooks := .later }
def PointOrderCardSaid : Prop := Claim7.holds Tryz.pinned (.plain (OpenSpec.ofChange pointOrderSpec)) pointOrderCard

/-- THE TIED CARD OF 'turnkeylaw.OrderSays'. -/
def orderSaysCard : Claim7 := { stood := { row := orderSaysRow, standIns := [], harness := (true, "7820c050ac7645d53d7a00258e755a86ed4d86a3d0be267b3f83b28ef10998cb"), looks := true }, kinds := [], alts := [], laidByText := true, laidKinds := [.data, .data, .data, .data, .sentinel, .sentinel, .pinned], laidTests := true, laidLooks := .later }
def OrderSaysCardSaid : Prop := Claim7.holds Tryz.pinned (.plain (OpenSpec.ofChange orderSaysSpec)) orderSaysCard

/-- THE TIED CARD OF 'turnkeylaw.OrderAll'. -/
def orderAllCard : Claim7 := { stood := { row := orderAllRow, standIns := [], harness := (true, "7820c050ac7645d53d7a00258e755a86ed4d86a3d0be267b3f83b28ef10998cb"), looks := true }, kinds := [], alts := [], laidByText := true, laidKinds := [.data, .data, .data, .data, .sentinel, .sentinel, .pinned], laidTests := true, laidLooks := .later }
def OrderAllCardSaid : Prop := Claim7.holds Tryz.pinned (.plain (OpenSpec.ofChange orderAllSpec)) orderAllCard

/-- THE TIED CARD OF 'turnkeylaw.OrderChain'. -/
def orderChainCard : Claim7 := { stood := { row := orderChainRow, standIns := [], harness := (true, "7820c050ac7645d53d7a00258e755a86ed4d86a3d0be267b3f83b28ef10998cb"), looks := true }, kinds := [], alts := [], laidByText := true, laidKinds := [.data, .data, .data, .data, .sentinel, .sentinel, .pinned], laidTests := true, laidLooks := .later }
def OrderChainCardSaid : Prop := Claim7.holds Tryz.pinned (.plain (OpenSpec.ofChange orderChainSpec)) orderChainCard

/-- THE TIED CARD OF 'turnkeylaw.MeetSays'. -/
def meetSaysCard : Claim7 := { stood := { row := meetSaysRow, standIns := [], harness := (true, "7820c050ac7645d53d7a00258e755a86ed4d86a3d0be267b3f83b28ef10998cb"), looks := true }, kinds := [], alts := [], laidByText := true, laidKinds := [.data, .data, .data, .data, .sentinel, .sentinel, .listed, .data, .pinned], laidTests := true, laidLooks := .later }
def MeetSaysCardSaid : Prop := Claim7.holds Tryz.pinned (.plain (OpenSpec.ofChange meetSaysSpec)) meetSaysCard

/-- THE TIED CARD OF 'turnkeylaw.MeetMeans'. -/
def meetMeansCard : Claim7 := { stood := { row := meetMeansRow, standIns := [], harness := (true, "7820c050ac7645d53d7a00258e755a86ed4d86a3d0be267b3f83b28ef10998cb"), looks := true }, kinds := [], alts := [], laidByText := true, laidKinds := [.data, .data, .data, .data, .sentinel, .sentinel, .listed, .data, .pinned], laidTests := true, laidLooks := .later }
def MeetMeansCardSaid : Prop := Claim7.holds Tryz.pinned (.plain (OpenSpec.ofChange meetMeansSpec)) meetMeansCard

/-- THE TIED CARD OF 'turnkeylaw.MeetShort'. -/
def meetShortCard : Claim7 := { stood := { row := meetShortRow, standIns := [], harness := (true, "7820c050ac7645d53d7a00258e755a86ed4d86a3d0be267b3f83b28ef10998cb"), looks := true }, kinds := [], alts := [], laidByText := true, laidKinds := [.data, .data, .data, .data, .sentinel, .sentinel, .listed, .data, .pinned], laidTests := true, laidLooks := .later }
def MeetShortCardSaid : Prop := Claim7.holds Tryz.pinned (.plain (OpenSpec.ofChange meetShortSpec)) meetShortCard

/-- THE TIED CARD OF 'turnkeylaw.MeetOrder'. -/
def meetOrderCard : Claim7 := { stood := { row := meetOrderRow, standIns := [], harness := (true, "7820c050ac7645d53d7a00258e755a86ed4d86a3d0be267b3f83b28ef10998cb"), looks := true }, kinds := [], alts := [], laidByText := true, laidKinds := [.data, .data, .data, .data, .sentinel, .sentinel, .listed, .data, .pinned], laidTests := true, laidLooks := .later }
def MeetOrderCardSaid : Prop := Claim7.holds Tryz.pinned (.plain (OpenSpec.ofChange meetOrderSpec)) meetOrderCard

/-- THE TIED CARD OF 'turnkeylaw.MeetTwice'. -/
def meetTwiceCard : Claim7 := { stood := { row := meetTwiceRow, standIns := [], harness := (true, "7820c050ac7645d53d7a00258e755a86ed4d86a3d0be267b3f83b28ef10998cb"), looks := true }, kinds := [], alts := [], laidByText := true, laidKinds := [.data, .data, .data, .data, .sentinel, .sentinel, .listed, .data, .pinned], laidTests := true, laidLooks := .later }
def MeetTwiceCardSaid : Prop := Claim7.holds Tryz.pinned (.plain (OpenSpec.ofChange meetTwiceSpec)) meetTwiceCard

/-- THE TIED CARD OF 'turnkeylaw.ChainSays'. -/
def chainSaysCard : Claim7 := { stood := { row := chainSaysRow, standIns := [], harness := (true, "7820c050ac7645d53d7a00258e755a86ed4d86a3d0be267b3f83b28ef10998cb"), looks := true }, kinds := [], alts := [], laidByText := true, laidKinds := [.data, .data, .data, .data, .sentinel, .sentinel, .pinned], laidTests := true, laidLooks := .later }
def ChainSaysCardSaid : Prop := Claim7.holds Tryz.pinned (.plain (OpenSpec.ofChange chainSaysSpec)) chainSaysCard

/-- THE TIED CARD OF 'turnkeylaw.ChainTight'. -/
def chainTightCard : Claim7 := { stood := { row := chainTightRow, standIns := [], harness := (true, "7820c050ac7645d53d7a00258e755a86ed4d86a3d0be267b3f83b28ef10998cb"), looks := true }, kinds := [], alts := [], laidByText := true, laidKinds := [.data, .data, .data, .data, .sentinel, .sentinel, .pinned], laidTests := true, laidLooks := .later }
def ChainTightCardSaid : Prop := Claim7.holds Tryz.pinned (.plain (OpenSpec.ofChange chainTightSpec)) chainTightCard

/-- THE TIED CARD OF 'turnkeylaw.ChainOrder'. -/
def chainOrderCard : Claim7 := { stood := { row := chainOrderRow, standIns := [], harness := (true, "7820c050ac7645d53d7a00258e755a86ed4d86a3d0be267b3f83b28ef10998cb"), looks := true }, kinds := [], alts := [], laidByText := true, laidKinds := [.data, .data, .data, .data, .sentinel, .sentinel, .pinned], laidTests := true, laidLooks := .later }
def ChainOrderCardSaid : Prop := Claim7.holds Tryz.pinned (.plain (OpenSpec.ofChange chainOrderSpec)) chainOrderCard

/-- THE SECOND FORM's CARD OF 'turnkeylaw.PointOrder'. -/
def pointOrderUptoCard : Claim7 := { stood := { row := pointOrderUptoRow, standIns := [], harness := (true, "7820c050ac7645d53d7a00258e755a86ed4d86a3d0be267b3f83b28ef10998cb"), looks := true }, kinds := [], alts := [], laidByText := true, laidKinds := [.data, .data, .data, .data, .sentinel, .sentinel, .pinned], laidTests := true, laidLooks := .later }
def PointOrderUptoCardSaid : Prop := Claim7.holds Tryz.pinned (.plain (OpenSpec.upto pointOrderSpec)) pointOrderUptoCard

/-- THE SECOND FORM's CARD OF 'turnkeylaw.OrderSays'. -/
def orderSaysUptoCard : Claim7 := { stood := { row := orderSaysUptoRow, standIns := [], harness := (true, "7820c050ac7645d53d7a00258e755a86ed4d86a3d0be267b3f83b28ef10998cb"), looks := true }, kinds := [], alts := [], laidByText := true, laidKinds := [.data, .data, .data, .data, .sentinel, .sentinel, .pinned], laidTests := true, laidLooks := .later }
def OrderSaysUptoCardSaid : Prop := Claim7.holds Tryz.pinned (.plain (OpenSpec.upto orderSaysSpec)) orderSaysUptoCard

/-- THE SECOND FORM's CARD OF 'turnkeylaw.OrderAll'. -/
def orderAllUptoCard : Claim7 := { stood := { row := orderAllUptoRow, standIns := [], harness := (true, "7820c050ac7645d53d7a00258e755a86ed4d86a3d0be267b3f83b28ef10998cb"), looks := true }, kinds := [], alts := [], laidByText := true, laidKinds := [.data, .data, .data, .data, .sentinel, .sentinel, .pinned], laidTests := true, laidLooks := .later }
def OrderAllUptoCardSaid : Prop := Claim7.holds Tryz.pinned (.plain (OpenSpec.upto orderAllSpec)) orderAllUptoCard

/-- THE SECOND FORM's CARD OF 'turnkeylaw.OrderChain'. -/
def orderChainUptoCard : Claim7 := { stood := { row := orderChainUptoRow, standIns := [], harness := (true, "7820c050ac7645d53d7a00258e755a86ed4d86a3d0be267b3f83b28ef10998cb"), looks := true }, kinds := [], alts := [], laidByText := true, laidKinds := [.data, .data, .data, .data, .sentinel, .sentinel, .pinned], laidTests := true, laidLooks := .later }
def OrderChainUptoCardSaid : Prop := Claim7.holds Tryz.pinned (.plain (OpenSpec.upto orderChainSpec)) orderChainUptoCard

/-- THE SECOND FORM's CARD OF 'turnkeylaw.MeetSays'. -/
def meetSaysUptoCard : Claim7 := { stood := { row := meetSaysUptoRow, standIns := [], harness := (true, "7820c050ac7645d53d7a00258e755a86ed4d86a3d0be267b3f83b28ef10998cb"), looks := true }, kinds := [], alts := [], laidByText := true, laidKinds := [.data, .data, .data, .data, .sentinel, .sentinel, .listed, .data, .pinned], laidTests := true, laidLooks := .later }
def MeetSaysUptoCardSaid : Prop := Claim7.holds Tryz.pinned (.plain (OpenSpec.upto meetSaysSpec)) meetSaysUptoCard

/-- THE SECOND FORM's CARD OF 'turnkeylaw.MeetMeans'. -/
def meetMeansUptoCard : Claim7 := { stood := { row := meetMeansUptoRow, standIns := [], harness := (true, "7820c050ac7645d53d7a00258e755a86ed4d86a3d0be267b3f83b28ef10998cb"), looks := true }, kinds := [], alts := [], laidByText := true, laidKinds := [.data, .data, .data, .data, .sentinel, .sentinel, .listed, .data, .pinned], laidTests := true, laidLooks := .later }
def MeetMeansUptoCardSaid : Prop := Claim7.holds Tryz.pinned (.plain (OpenSpec.upto meetMeansSpec)) meetMeansUptoCard

/-- THE SECOND FORM's CARD OF 'turnkeylaw.MeetShort'. -/
def meetShortUptoCard : Claim7 := { stood := { row := meetShortUptoRow, standIns := [], harness := (true, "7820c050ac7645d53d7a00258e755a86ed4d86a3d0be267b3f83b28ef10998cb"), looks := true }, kinds := [], alts := [], laidByText := true, laidKinds := [.data, .data, .data, .data, .sentinel, .sentinel, .listed, .data, .pinned], laidTests := true, laidLooks := .later }
def MeetShortUptoCardSaid : Prop := Claim7.holds Tryz.pinned (.plain (OpenSpec.upto meetShortSpec)) meetShortUptoCard

/-- THE SECOND FORM's CARD OF 'turnkeylaw.MeetOrder'. -/
def meetOrderUptoCard : Claim7 := { stood := { row := meetOrderUptoRow, standIns := [], harness := (true, "7820c050ac7645d53d7a00258e755a86ed4d86a3d0be267b3f83b28ef10998cb"), looks := true }, kinds := [], alts := [], laidByText := true, laidKinds := [.data, .data, .data, .data, .sentinel, .sentinel, .listed, .data, .pinned], laidTests := true, laidLooks := .later }
def MeetOrderUptoCardSaid : Prop := Claim7.holds Tryz.pinned (.plain (OpenSpec.upto meetOrderSpec)) meetOrderUptoCard

/-- THE SECOND FORM's CARD OF 'turnkeylaw.MeetTwice'. -/
def meetTwiceUptoCard : Claim7 := { stood := { row := meetTwiceUptoRow, standIns := [], harness := (true, "7820c050ac7645d53d7a00258e755a86ed4d86a3d0be267b3f83b28ef10998cb"), looks := true }, kinds := [], alts := [], laidByText := true, laidKinds := [.data, .data, .data, .data, .sentinel, .sentinel, .listed, .data, .pinned], laidTests := true, laidLooks := .later }
def MeetTwiceUptoCardSaid : Prop := Claim7.holds Tryz.pinned (.plain (OpenSpec.upto meetTwiceSpec)) meetTwiceUptoCard

/-- THE SECOND FORM's CARD OF 'turnkeylaw.ChainSays'. -/
def chainSaysUptoCard : Claim7 := { stood := { row := chainSaysUptoRow, standIns := [], harness := (true, "7820c050ac7645d53d7a00258e755a86ed4d86a3d0be267b3f83b28ef10998cb"), looks := true }, kinds := [], alts := [], laidByText := true, laidKinds := [.data, .data, .data, .data, .sentinel, .sentinel, .pinned], laidTests := true, laidLooks := .later }
def ChainSaysUptoCardSaid : Prop := Claim7.holds Tryz.pinned (.plain (OpenSpec.upto chainSaysSpec)) chainSaysUptoCard

/-- THE SECOND FORM's CARD OF 'turnkeylaw.ChainTight'. -/
def chainTightUptoCard : Claim7 := { stood := { row := chainTightUptoRow, standIns := [], harness := (true, "7820c050ac7645d53d7a00258e755a86ed4d86a3d0be267b3f83b28ef10998cb"), looks := true }, kinds := [], alts := [], laidByText := true, laidKinds := [.data, .data, .data, .data, .sentinel, .sentinel, .pinned], laidTests := true, laidLooks := .later }
def ChainTightUptoCardSaid : Prop := Claim7.holds Tryz.pinned (.plain (OpenSpec.upto chainTightSpec)) chainTightUptoCard

/-- THE SECOND FORM's CARD OF 'turnkeylaw.ChainOrder'. -/
def chainOrderUptoCard : Claim7 := { stood := { row := chainOrderUptoRow, standIns := [], harness := (true, "7820c050ac7645d53d7a00258e755a86ed4d86a3d0be267b3f83b28ef10998cb"), looks := true }, kinds := [], alts := [], laidByText := true, laidKinds := [.data, .data, .data, .data, .sentinel, .sentinel, .pinned], laidTests := true, laidLooks := .later }
def ChainOrderUptoCardSaid : Prop := Claim7.holds Tryz.pinned (.plain (OpenSpec.upto chainOrderSpec)) chainOrderUptoCard
end Rows
end Go.Proofs.YtbjpdmfedphacabGreatDoor
