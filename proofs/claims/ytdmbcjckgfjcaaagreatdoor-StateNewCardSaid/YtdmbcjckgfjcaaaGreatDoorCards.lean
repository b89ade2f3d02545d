/-
  DERIVED. GIVEN WITH THE SEED: THE CARDS: each row of YtdmbcjckgfjcaaaGreatDoorRows.lean that lists a variable, with what it lists TIED to the program's text (the seventh form; the later family's looks); each row that meets fmt, with fmt's text TOLD by the authors' own Lean function (tested against real Go, not proved from fmt's source: count such statements apart). THE CARD IS WHAT COUNTS. Prove the row's statement (the work); the ties are given (YtdmbcjckgfjcaaaGreatDoorTie.lean); close each card by the builder's one call (the guide's Derived/Test/ToyasCard.lean, 'card_holds'). Laid BY PROGRAM, IN A SANDBOX (cutbox-door.mjs). By AI agents, Wed Nov 11 2026. No macro, syntax, notation, axiom, sorry.
-/
import Derived.Test.YtdmbcjckgfjcaaaGreatDoorRows
import GoSem.ClaimSeven
namespace Go.Proofs.YtdmbcjckgfjcaaaGreatDoor
namespace Rows

/-- THE TIED CARD OF 'besomlaw13.StateTells'. -/
def stateTellsCard : Claim7 := { stood := { row := stateTellsRow, standIns := [], harness := (true, "3ad71de4a1b50a8ea9951f11ca301aac1f29e71c26d42c6ec2db62d1e35dfe88"), looks := false }, kinds := [], alts := [], laidByText := true, laidKinds := [.data], laidTests := true, laidLooks := .later }
def StateTellsCardSaid : Prop := Claim7.holds Tryz.pinned (.plain (OpenSpec.ofChange stateTellsSpec)) stateTellsCard

/-- THE TIED CARD OF 'besomlaw13.StateNew'. -/
def stateNewCard : Claim7 := { stood := { row := stateNewRow, standIns := [], harness := (true, "3ad71de4a1b50a8ea9951f11ca301aac1f29e71c26d42c6ec2db62d1e35dfe88"), looks := false }, kinds := [], alts := [], laidByText := true, laidKinds := [.data], laidTests := true, laidLooks := .later }
def StateNewCardSaid : Prop := Claim7.holds Tryz.pinned (.plain (OpenSpec.ofChange stateNewSpec)) stateNewCard

/-- THE TIED CARD OF 'besomlaw13.StateCopy'. -/
def stateCopyCard : Claim7 := { stood := { row := stateCopyRow, standIns := [], harness := (true, "3ad71de4a1b50a8ea9951f11ca301aac1f29e71c26d42c6ec2db62d1e35dfe88"), looks := false }, kinds := [], alts := [], laidByText := true, laidKinds := [.data], laidTests := true, laidLooks := .later }
def StateCopyCardSaid : Prop := Claim7.holds Tryz.pinned (.plain (OpenSpec.ofChange stateCopySpec)) stateCopyCard

/-- THE TIED CARD OF 'besomlaw13.StateSame'. -/
def stateSameCard : Claim7 := { stood := { row := stateSameRow, standIns := [], harness := (true, "3ad71de4a1b50a8ea9951f11ca301aac1f29e71c26d42c6ec2db62d1e35dfe88"), looks := false }, kinds := [], alts := [], laidByText := true, laidKinds := [.data], laidTests := true, laidLooks := .later }
def StateSameCardSaid : Prop := Claim7.holds Tryz.pinned (.plain (OpenSpec.ofChange stateSameSpec)) stateSameCard

/-- THE TIED CARD OF 'besomlaw13.StateCells'. -/
def stateCellsCard : Claim7 := { stood := { row := stateCellsRow, standIns := [], harness := (true, "3ad71de4a1b50a8ea9951f11ca301aac1f29e71c26d42c6ec2db62d1e35dfe88"), looks := false }, kinds := [], alts := [], laidByText := true, laidKinds := [.data], laidTests := true, laidLooks := .later }
def StateCellsCardSaid : Prop := Claim7.holds Tryz.pinned (.plain (OpenSpec.ofChange stateCellsSpec)) stateCellsCard

/-- THE SECOND FORM's CARD OF 'besomlaw13.StateTells'. -/
def stateTellsUptoCard : Claim7 := { stood := { row := stateTellsUptoRow, standIns := [], harness := (true, "3ad71de4a1b50a8ea9951f11ca301aac1f29e71c26d42c6ec2db62d1e35dfe88"), looks := false }, kinds := [], alts := [], laidByText := true, laidKinds := [.data], laidTests := true, laidLooks := .later }
def StateTellsUptoCardSaid : Prop := Claim7.holds Tryz.pinned (.plain (OpenSpec.upto stateTellsSpec)) stateTellsUptoCard

/-- THE SECOND FORM's CARD OF 'besomlaw13.StateNew'. -/
def stateNewUptoCard : Claim7 := { stood := { row := stateNewUptoRow, standIns := [], harness := (true, "3ad71de4a1b50a8ea9951f11ca301aac1f29e71c26d42c6ec2db62d1e35dfe88"), looks := false }, kinds := [], alts := [], laidByText := true, laidKinds := [.data], laidTests := true, laidLooks := .later }
def StateNewUptoCardSaid : Prop := Claim7.holds Tryz.pinned (.plain (OpenSpec.upto stateNewSpec)) stateNewUptoCard

/-- THE SECOND FORM's CARD OF 'besomlaw13.StateCopy'. -/
def stateCopyUptoCard : Claim7 := { stood := { row := stateCopyUptoRow, standIns := [], harness := (true, "3ad71de4a1b50a8ea9951f11ca301aac1f29e71c26d42c6ec2db62d1e35dfe88"), looks := false }, kinds := [], alts := [], laidByText := true, laidKinds := [.data], laidTests := true, laidLooks := .later }
def StateCopyUptoCardSaid : Prop := Claim7.holds Tryz.pinned (.plain (OpenSpec.upto stateCopySpec)) stateCopyUptoCard

/-- THE SECOND FORM's CARD OF 'besomlaw13.StateSame'. -/
def stateSameUptoCard : Claim7 := { stood := { row := stateSameUptoRow, standIns := [], harness := (true, "3ad71de4a1b50a8ea9951f11ca301aac1f29e71c26d42c6ec2db62d1e35dfe88"), looks := false }, kinds := [], alts := [], laidByText := true, laidKinds := [.data], laidTests := true, laidLooks := .later }
def StateSameUptoCardSaid : Prop := Claim7.holds Tryz.pinned (.plain (OpenSpec.upto stateSameSpec)) stateSameUptoCard

/-- THE SECOND FORM's CARD OF 'besomlaw13.StateCells'. -/
def stateCellsUptoCard : Claim7 := { stood := { row := stateCellsUptoRow, standIns := [], harness := (true, "3ad71de4a1b50a8ea9951f11ca301aac1f29e71c26d42c6ec2db62d1e35dfe88"), looks := false }, kinds := [], alts := [], laidByText := true, laidKinds := [.data], laidTests := true, laidLooks := .later }
def StateCellsUptoCardSaid : Prop := Claim7.holds Tryz.pinned (.plain (OpenSpec.upto stateCellsSpec)) stateCellsUptoCard
end Rows
end Go.Proofs.YtdmbcjckgfjcaaaGreatDoor
