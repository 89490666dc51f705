/-
  DERIVED. GIVEN WITH THE SEED: THE CARDS: each row of YtbdlojnigflanacGreatDoorRows.lean that lists a variable, with what it lists TIED to the program's text (the seventh form; the later family's looks); each row that meets fmt, with fmt's text TOLD by the authors' own Lean function (tested against real Go, not proved from fmt's source: count such statements apart). THE CARD IS WHAT COUNTS. Prove the row's statement (the work); the ties are given (YtbdlojnigflanacGreatDoorTie.lean); close each card by the builder's one call (the guide's Derived/Test/ToyasCard.lean, 'card_holds'). Laid BY PROGRAM, IN A SANDBOX (cutbox-door.mjs). By AI agents, Wed Nov 11 2026. No macro, syntax, notation, axiom, sorry.
-/
import Derived.Test.YtbdlojnigflanacGreatDoorRows
import GoSem.ClaimSeven
namespace Go.Proofs.YtbdlojnigflanacGreatDoor
namespace Rows

/-- THE TIED CARD OF 'turnkeylaw.ChainDelta'. -/
def chainDeltaCard : Claim7 := { stood := { row := chainDeltaRow, standIns := [], harness := (true, "fa380d329051ba60099d04ab56897c50deae903e374c6de274ba362acf1f0f0f"), looks := true }, kinds := [], alts := [], laidByText := true, laidKinds := [.data, .data, .data, .data, .sentinel, .sentinel, .pinned], laidTests := true, laidLooks := .later }
def ChainDeltaCardSaid : Prop := Claim7.holds Tryz.pinned (.plain (OpenSpec.ofChange chainDeltaSpec)) chainDeltaCard

/-- THE TIED CARD OF 'turnkeylaw.NoteSays'. -/
def noteSaysCard : Claim7 := { stood := { row := noteSaysRow, standIns := [], harness := (true, "fa380d329051ba60099d04ab56897c50deae903e374c6de274ba362acf1f0f0f"), looks := true }, kinds := [], alts := [], laidByText := true, laidKinds := [.data, .data, .data, .data, .sentinel, .sentinel, .listed, .data, .pinned], laidTests := true, laidLooks := .later }
def NoteSaysCardSaid : Prop := Claim7.holds Tryz.pinned (.plain (OpenSpec.ofChange noteSaysSpec)) noteSaysCard

/-- THE TIED CARD OF 'turnkeylaw.NoteBack'. -/
def noteBackCard : Claim7 := { stood := { row := noteBackRow, standIns := [], harness := (true, "fa380d329051ba60099d04ab56897c50deae903e374c6de274ba362acf1f0f0f"), looks := true }, kinds := [], alts := [], laidByText := true, laidKinds := [.data, .data, .data, .data, .sentinel, .sentinel, .pinned], laidTests := true, laidLooks := .later }
def NoteBackCardSaid : Prop := Claim7.holds Tryz.pinned (.plain (OpenSpec.ofChange noteBackSpec)) noteBackCard

/-- THE TIED CARD OF 'turnkeylaw.DiskSays'. -/
def diskSaysCard : Claim7 := { stood := { row := diskSaysRow, standIns := [], harness := (true, "fa380d329051ba60099d04ab56897c50deae903e374c6de274ba362acf1f0f0f"), looks := true }, kinds := [], alts := [], laidByText := true, laidKinds := [.data, .data, .data, .data, .sentinel, .sentinel, .listed, .data, .pinned], laidTests := true, laidLooks := .later }
def DiskSaysCardSaid : Prop := Claim7.holds Tryz.pinned (.plain (OpenSpec.ofChange diskSaysSpec)) diskSaysCard

/-- THE TIED CARD OF 'turnkeylaw.DiskKeeps'. -/
def diskKeepsCard : Claim7 := { stood := { row := diskKeepsRow, standIns := [], harness := (true, "fa380d329051ba60099d04ab56897c50deae903e374c6de274ba362acf1f0f0f"), looks := true }, kinds := [], alts := [], laidByText := true, laidKinds := [.data, .data, .data, .data, .sentinel, .sentinel, .pinned], laidTests := true, laidLooks := .later }
def DiskKeepsCardSaid : Prop := Claim7.holds Tryz.pinned (.plain (OpenSpec.ofChange diskKeepsSpec)) diskKeepsCard

/-- THE TIED CARD OF 'turnkeylaw.KeeperSays'. -/
def keeperSaysCard : Claim7 := { stood := { row := keeperSaysRow, standIns := [], harness := (true, "fa380d329051ba60099d04ab56897c50deae903e374c6de274ba362acf1f0f0f"), looks := true }, kinds := [], alts := [], laidByText := true, laidKinds := [.data, .data, .data, .data, .sentinel, .sentinel, .pinned], laidTests := true, laidLooks := .later }
def KeeperSaysCardSaid : Prop := Claim7.holds Tryz.pinned (.plain (OpenSpec.ofChange keeperSaysSpec)) keeperSaysCard

/-- THE TIED CARD OF 'turnkeylaw.KeeperReplays'. -/
def keeperReplaysCard : Claim7 := { stood := { row := keeperReplaysRow, standIns := [], harness := (true, "fa380d329051ba60099d04ab56897c50deae903e374c6de274ba362acf1f0f0f"), looks := true }, kinds := [], alts := [], laidByText := true, laidKinds := [.data, .data, .data, .data, .sentinel, .sentinel, .pinned], laidTests := true, laidLooks := .later }
def KeeperReplaysCardSaid : Prop := Claim7.holds Tryz.pinned (.plain (OpenSpec.ofChange keeperReplaysSpec)) keeperReplaysCard

/-- THE TIED CARD OF 'turnkeylaw.KeeperMeans'. -/
def keeperMeansCard : Claim7 := { stood := { row := keeperMeansRow, standIns := [], harness := (true, "fa380d329051ba60099d04ab56897c50deae903e374c6de274ba362acf1f0f0f"), looks := true }, kinds := [], alts := [], laidByText := true, laidKinds := [.data, .data, .data, .data, .sentinel, .sentinel, .pinned], laidTests := true, laidLooks := .later }
def KeeperMeansCardSaid : Prop := Claim7.holds Tryz.pinned (.plain (OpenSpec.ofChange keeperMeansSpec)) keeperMeansCard

/-- THE TIED CARD OF 'turnkeylaw.KeeperTight'. -/
def keeperTightCard : Claim7 := { stood := { row := keeperTightRow, standIns := [], harness := (true, "fa380d329051ba60099d04ab56897c50deae903e374c6de274ba362acf1f0f0f"), looks := true }, kinds := [], alts := [], laidByText := true, laidKinds := [.data, .data, .data, .data, .sentinel, .sentinel, .pinned], laidTests := true, laidLooks := .later }
def KeeperTightCardSaid : Prop := Claim7.holds Tryz.pinned (.plain (OpenSpec.ofChange keeperTightSpec)) keeperTightCard

/-- THE TIED CARD OF 'turnkeylaw.KeeperFork'. -/
def keeperForkCard : Claim7 := { stood := { row := keeperForkRow, standIns := [], harness := (true, "fa380d329051ba60099d04ab56897c50deae903e374c6de274ba362acf1f0f0f"), looks := true }, kinds := [], alts := [], laidByText := true, laidKinds := [.data, .data, .data, .data, .sentinel, .sentinel, .pinned], laidTests := true, laidLooks := .later }
def KeeperForkCardSaid : Prop := Claim7.holds Tryz.pinned (.plain (OpenSpec.ofChange keeperForkSpec)) keeperForkCard

/-- THE SECOND FORM's CARD OF 'turnkeylaw.ChainDelta'. -/
def chainDeltaUptoCard : Claim7 := { stood := { row := chainDeltaUptoRow, standIns := [], harness := (true, "fa380d329051ba60099d04ab56897c50deae903e374c6de274ba362acf1f0f0f"), looks := true }, kinds := [], alts := [], laidByText := true, laidKinds := [.data, .data, .data, .data, .sentinel, .sentinel, .pinned], laidTests := true, laidLooks := .later }
def ChainDeltaUptoCardSaid : Prop := Claim7.holds Tryz.pinned (.plain (OpenSpec.upto chainDeltaSpec)) chainDeltaUptoCard

/-- THE SECOND FORM's CARD OF 'turnkeylaw.NoteSays'. -/
def noteSaysUptoCard : Claim7 := { stood := { row := noteSaysUptoRow, standIns := [], harness := (true, "fa380d329051ba60099d04ab56897c50deae903e374c6de274ba362acf1f0f0f"), looks := true }, kinds := [], alts := [], laidByText := true, laidKinds := [.data, .data, .data, .data, .sentinel, .sentinel, .listed, .data, .pinned], laidTests := true, laidLooks := .later }
def NoteSaysUptoCardSaid : Prop := Claim7.holds Tryz.pinned (.plain (OpenSpec.upto noteSaysSpec)) noteSaysUptoCard

/-- THE SECOND FORM's CARD OF 'turnkeylaw.NoteBack'. -/
def noteBackUptoCard : Claim7 := { stood := { row := noteBackUptoRow, standIns := [], harness := (true, "fa380d329051ba60099d04ab56897c50deae903e374c6de274ba362acf1f0f0f"), looks := true }, kinds := [], alts := [], laidByText := true, laidKinds := [.data, .data, .data, .data, .sentinel, .sentinel, .pinned], laidTests := true, laidLooks := .later }
def NoteBackUptoCardSaid : Prop := Claim7.holds Tryz.pinned (.plain (OpenSpec.upto noteBackSpec)) noteBackUptoCard

/-- THE SECOND FORM's CARD OF 'turnkeylaw.DiskSays'. -/
def diskSaysUptoCard : Claim7 := { stood := { row := diskSaysUptoRow, standIns := [], harness := (true, "fa380d329051ba60099d04ab56897c50deae903e374c6de274ba362acf1f0f0f"), looks := true }, kinds := [], alts := [], laidByText := true, laidKinds := [.data, .data, .data, .data, .sentinel, .sentinel, .listed, .data, .pinned], laidTests := true, laidLooks := .later }
def DiskSaysUptoCardSaid : Prop := Claim7.holds Tryz.pinned (.plain (OpenSpec.upto diskSaysSpec)) diskSaysUptoCard

/-- THE SECOND FORM's CARD OF 'turnkeylaw.DiskKeeps'. -/
def diskKeepsUptoCard : Claim7 := { stood := { row := diskKeepsUptoRow, standIns := [], harness := (true, "fa380d329051ba60099d04ab56897c50deae903e374c6de274ba362acf1f0f0f"), looks := true }, kinds := [], alts := [], laidByText := true, laidKinds := [.data, .data, .data, .data, .sentinel, .sentinel, .pinned], laidTests := true, laidLooks := .later }
def DiskKeepsUptoCardSaid : Prop := Claim7.holds Tryz.pinned (.plain (OpenSpec.upto diskKeepsSpec)) diskKeepsUptoCard

/-- THE SECOND FORM's CARD OF 'turnkeylaw.KeeperSays'. -/
def keeperSaysUptoCard : Claim7 := { stood := { row := keeperSaysUptoRow, standIns := [], harness := (true, "fa380d329051ba60099d04ab56897c50deae903e374c6de274ba362acf1f0f0f"), looks := true }, kinds := [], alts := [], laidByText := true, laidKinds := [.data, .data, .data, .data, .sentinel, .sentinel, .pinned], laidTests := true, laidLooks := .later }
def KeeperSaysUptoCardSaid : Prop := Claim7.holds Tryz.pinned (.plain (OpenSpec.upto keeperSaysSpec)) keeperSaysUptoCard

/-- THE SECOND FORM's CARD OF 'turnkeylaw.KeeperReplays'. -/
def keeperReplaysUptoCard : Claim7 := { stood := { row := keeperReplaysUptoRow, standIns := [], harness := (true, "fa380d329051ba60099d04ab56897c50deae903e374c6de274ba362acf1f0f0f"), looks := true }, kinds := [], alts := [], laidByText := true, laidKinds := [.data, .data, .data, .data, .sentinel, .sentinel, .pinned], laidTests := true, laidLooks := .later }
def KeeperReplaysUptoCardSaid : Prop := Claim7.holds Tryz.pinned (.plain (OpenSpec.upto keeperReplaysSpec)) keeperReplaysUptoCard

/-- THE SECOND FORM's CARD OF 'turnkeylaw.KeeperMeans'. -/
def keeperMeansUptoCard : Claim7 := { stood := { row := keeperMeansUptoRow, standIns := [], harness := (true, "fa380d329051ba60099d04ab56897c50deae903e374c6de274ba362acf1f0f0f"), looks := true }, kinds := [], alts := [], laidByText := true, laidKinds := [.data, .data, .data, .data, .sentinel, .sentinel, .pinned], laidTests := true, laidLooks := .later }
def KeeperMeansUptoCardSaid : Prop := Claim7.holds Tryz.pinned (.plain (OpenSpec.upto keeperMeansSpec)) keeperMeansUptoCard

/-- THE SECOND FORM's CARD OF 'turnkeylaw.KeeperTight'. -/
def keeperTightUptoCard : Claim7 := { stood := { row := keeperTightUptoRow, standIns := [], harness := (true, "fa380d329051ba60099d04ab56897c50deae903e374c6de274ba362acf1f0f0f"), looks := true }, kinds := [], alts := [], laidByText := true, laidKinds := [.data, .data, .data, .data, .sentinel, .sentinel, .pinned], laidTests := true, laidLooks := .later }
def KeeperTightUptoCardSaid : Prop := Claim7.holds Tryz.pinned (.plain (OpenSpec.upto keeperTightSpec)) keeperTightUptoCard

/-- THE SECOND FORM's CARD OF 'turnkeylaw.KeeperFork'. -/
def keeperForkUptoCard : Claim7 := { stood := { row := keeperForkUptoRow, standIns := [], harness := (true, "fa380d329051ba60099d04ab56897c50deae903e374c6de274ba362acf1f0f0f"), looks := true }, kinds := [], alts := [], laidByText := true, laidKinds := [.data, .data, .data, .data, .sentinel, .sentinel, .pinned], laidTests := true, laidLooks := .later }
def KeeperForkUptoCardSaid : Prop := Claim7.holds Tryz.pinned (.plain (OpenSpec.upto keeperForkSpec)) keeperForkUptoCard
end Rows
end Go.Proofs.YtbdlojnigflanacGreatDoor
