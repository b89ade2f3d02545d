/-
  DERIVED. GIVEN WITH THE SEED: THE CARDS: each row of YtjnokhaojpijhaaGreatDoorRows.lean that lists a variable, with what it lists TIED to the program's text (the seventh form; the later family's looks); each row that meets fmt, with fmt's text TOLD by the authors' own Lean function (tested against real Go, not proved from fmt's source: count such statements apart). THE CARD IS WHAT COUNTS. Prove the row's statement (the work); the ties are given (YtjnokhaojpijhaaGreatDoorTie.lean); close each card by the builder's one call (the guide's Derived/Test/ToyasCard.lean, 'card_holds'). Laid BY PROGRAM, IN A SANDBOX (cutbox-door.mjs). By AI agents, Wed Nov 11 2026. No macro, syntax, notation, axiom, sorry.
-/
import Derived.Test.YtjnokhaojpijhaaGreatDoorRows
import GoSem.ClaimSeven
namespace Go.Proofs.YtjnokhaojpijhaaGreatDoor
namespace Rows

/-- THE TIED CARD OF 'besomlaw12.PlanTells'. -/
def planTellsCard : Claim7 := { stood := { row := planTellsRow, standIns := [], harness := (true, "198e6ad6d5c7a6bd5ca8e1dfd2c0c5ca62d996d42a4dfdf33acd01b3943b0721"), looks := true }, kinds := [], alts := [], laidByText := true, laidKinds := [.data, .data, .data, .data, .sentinel, .sentinel, .pinned], laidTests := true, laidLooks := .later }
def PlanTellsCardSaid : Prop := Claim7.holds Tryz.pinned (.plain (OpenSpec.ofChange planTellsSpec)) planTellsCard

/-- THE TIED CARD OF 'besomlaw12.PlanBack'. -/
def planBackCard : Claim7 := { stood := { row := planBackRow, standIns := [], harness := (true, "198e6ad6d5c7a6bd5ca8e1dfd2c0c5ca62d996d42a4dfdf33acd01b3943b0721"), looks := true }, kinds := [], alts := [], laidByText := true, laidKinds := [.data, .data, .data, .data, .sentinel, .sentinel, .pinned], laidTests := true, laidLooks := .later }
def PlanBackCardSaid : Prop := Claim7.holds Tryz.pinned (.plain (OpenSpec.ofChange planBackSpec)) planBackCard

/-- THE TIED CARD OF 'besomlaw12.PlanGreys'. -/
def planGreysCard : Claim7 := { stood := { row := planGreysRow, standIns := [], harness := (true, "198e6ad6d5c7a6bd5ca8e1dfd2c0c5ca62d996d42a4dfdf33acd01b3943b0721"), looks := true }, kinds := [], alts := [], laidByText := true, laidKinds := [.data, .data, .data, .data, .sentinel, .sentinel, .pinned], laidTests := true, laidLooks := .later }
def PlanGreysCardSaid : Prop := Claim7.holds Tryz.pinned (.plain (OpenSpec.ofChange planGreysSpec)) planGreysCard

/-- THE TIED CARD OF 'besomlaw12.PlanSame'. -/
def planSameCard : Claim7 := { stood := { row := planSameRow, standIns := [], harness := (true, "198e6ad6d5c7a6bd5ca8e1dfd2c0c5ca62d996d42a4dfdf33acd01b3943b0721"), looks := true }, kinds := [], alts := [], laidByText := true, laidKinds := [.data, .data, .data, .data, .sentinel, .sentinel, .pinned], laidTests := true, laidLooks := .later }
def PlanSameCardSaid : Prop := Claim7.holds Tryz.pinned (.plain (OpenSpec.ofChange planSameSpec)) planSameCard

/-- THE TIED CARD OF 'besomlaw12.PlanTurns'. -/
def planTurnsCard : Claim7 := { stood := { row := planTurnsRow, standIns := [], harness := (true, "198e6ad6d5c7a6bd5ca8e1dfd2c0c5ca62d996d42a4dfdf33acd01b3943b0721"), looks := true }, kinds := [], alts := [], laidByText := true, laidKinds := [.data, .data, .data, .data, .sentinel, .sentinel, .pinned], laidTests := true, laidLooks := .later }
def PlanTurnsCardSaid : Prop := Claim7.holds Tryz.pinned (.plain (OpenSpec.ofChange planTurnsSpec)) planTurnsCard

/-- THE TIED CARD OF 'besomlaw12.PlanLines'. -/
def planLinesCard : Claim7 := { stood := { row := planLinesRow, standIns := [], harness := (true, "198e6ad6d5c7a6bd5ca8e1dfd2c0c5ca62d996d42a4dfdf33acd01b3943b0721"), looks := true }, kinds := [], alts := [], laidByText := true, laidKinds := [.data, .data, .data, .data, .sentinel, .sentinel, .pinned], laidTests := true, laidLooks := .later }
def PlanLinesCardSaid : Prop := Claim7.holds Tryz.pinned (.plain (OpenSpec.ofChange planLinesSpec)) planLinesCard

/-- THE SECOND FORM's CARD OF 'besomlaw12.PlanTells'. -/
def planTellsUptoCard : Claim7 := { stood := { row := planTellsUptoRow, standIns := [], harness := (true, "198e6ad6d5c7a6bd5ca8e1dfd2c0c5ca62d996d42a4dfdf33acd01b3943b0721"), looks := true }, kinds := [], alts := [], laidByText := true, laidKinds := [.data, .data, .data, .data, .sentinel, .sentinel, .pinned], laidTests := true, laidLooks := .later }
def PlanTellsUptoCardSaid : Prop := Claim7.holds Tryz.pinned (.plain (OpenSpec.upto planTellsSpec)) planTellsUptoCard

/-- THE SECOND FORM's CARD OF 'besomlaw12.PlanBack'. -/
def planBackUptoCard : Claim7 := { stood := { row := planBackUptoRow, standIns := [], harness := (true, "198e6ad6d5c7a6bd5ca8e1dfd2c0c5ca62d996d42a4dfdf33acd01b3943b0721"), looks := true }, kinds := [], alts := [], laidByText := true, laidKinds := [.data, .data, .data, .data, .sentinel, .sentinel, .pinned], laidTests := true, laidLooks := .later }
def PlanBackUptoCardSaid : Prop := Claim7.holds Tryz.pinned (.plain (OpenSpec.upto planBackSpec)) planBackUptoCard

/-- THE SECOND FORM's CARD OF 'besomlaw12.PlanGreys'. -/
def planGreysUptoCard : Claim7 := { stood := { row := planGreysUptoRow, standIns := [], harness := (true, "198e6ad6d5c7a6bd5ca8e1dfd2c0c5ca62d996d42a4dfdf33acd01b3943b0721"), looks := true }, kinds := [], alts := [], laidByText := true, laidKinds := [.data, .data, .data, .data, .sentinel, .sentinel, .pinned], laidTests := true, laidLooks := .later }
def PlanGreysUptoCardSaid : Prop := Claim7.holds Tryz.pinned (.plain (OpenSpec.upto planGreysSpec)) planGreysUptoCard

/-- THE SECOND FORM's CARD OF 'besomlaw12.PlanSame'. -/
def planSameUptoCard : Claim7 := { stood := { row := planSameUptoRow, standIns := [], harness := (true, "198e6ad6d5c7a6bd5ca8e1dfd2c0c5ca62d996d42a4dfdf33acd01b3943b0721"), looks := true }, kinds := [], alts := [], laidByText := true, laidKinds := [.data, .data, .data, .data, .sentinel, .sentinel, .pinned], laidTests := true, laidLooks := .later }
def PlanSameUptoCardSaid : Prop := Claim7.holds Tryz.pinned (.plain (OpenSpec.upto planSameSpec)) planSameUptoCard

/-- THE SECOND FORM's CARD OF 'besomlaw12.PlanTurns'. -/
def planTurnsUptoCard : Claim7 := { stood := { row := planTurnsUptoRow, standIns := [], harness := (true, "198e6ad6d5c7a6bd5ca8e1dfd2c0c5ca62d996d42a4dfdf33acd01b3943b0721"), looks := true }, kinds := [], alts := [], laidByText := true, laidKinds := [.data, .data, .data, .data, .sentinel, .sentinel, .pinned], laidTests := true, laidLooks := .later }
def PlanTurnsUptoCardSaid : Prop := Claim7.holds Tryz.pinned (.plain (OpenSpec.upto planTurnsSpec)) planTurnsUptoCard

/-- THE SECOND FORM's CARD OF 'besomlaw12.PlanLines'. -/
def planLinesUptoCard : Claim7 := { stood := { row := planLinesUptoRow, standIns := [], harness := (true, "198e6ad6d5c7a6bd5ca8e1dfd2c0c5ca62d996d42a4dfdf33acd01b3943b0721"), looks := true }, kinds := [], alts := [], laidByText := true, laidKinds := [.data, .data, .data, .data, .sentinel, .sentinel, .pinned], laidTests := true, laidLooks := .later }
def PlanLinesUptoCardSaid : Prop := Claim7.holds Tryz.pinned (.plain (OpenSpec.upto planLinesSpec)) planLinesUptoCard
end Rows
end Go.Proofs.YtjnokhaojpijhaaGreatDoor
