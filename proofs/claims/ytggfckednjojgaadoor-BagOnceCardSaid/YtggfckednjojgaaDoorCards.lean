/-
  DERIVED. GIVEN WITH THE SEED: THE CARDS: each row of YtggfckednjojgaaDoorRows.lean that lists a variable, with what it lists TIED to the program's text (the seventh form; the later family's looks); each row that meets fmt, with fmt's text TOLD by the authors' own Lean function (tested against real Go, not proved from fmt's source: count such statements apart). THE CARD IS WHAT COUNTS. Prove the row's statement (the work); the ties are given (YtggfckednjojgaaDoorTie.lean); close each card by the builder's one call (the guide's Derived/Test/ToyasCard.lean, 'card_holds'). Laid BY PROGRAM, IN A SANDBOX (cutbox-door.mjs). By AI agents, Wed Nov 11 2026. No macro, syntax, notation, axiom, sorry.
-/
import Derived.Test.YtggfckednjojgaaDoorRows
import GoSem.ClaimSeven
namespace Go.Proofs.YtggfckednjojgaaDoor
namespace Rows

/-- THE TIED CARD OF 'besomlaw06.BagOnce'. -/
def bagOnceCard : Claim7 := { stood := { row := bagOnceRow, standIns := [], harness := (true, "749ecdca5369992f87136287a8d97696817001a1fa35e703750f2fddf4d5e60d"), looks := false }, kinds := [], alts := [], laidByText := true, laidKinds := [.data], laidTests := true, laidLooks := .later }
def BagOnceCardSaid : Prop := Claim7.holds Tryd.pinned (.plain (OpenSpec.ofChange bagOnceSpec)) bagOnceCard

/-- THE SECOND FORM's CARD OF 'besomlaw06.BagOnce'. -/
def bagOnceUptoCard : Claim7 := { stood := { row := bagOnceUptoRow, standIns := [], harness := (true, "749ecdca5369992f87136287a8d97696817001a1fa35e703750f2fddf4d5e60d"), looks := false }, kinds := [], alts := [], laidByText := true, laidKinds := [.data], laidTests := true, laidLooks := .later }
def BagOnceUptoCardSaid : Prop := Claim7.holds Tryd.pinned (.plain (OpenSpec.upto bagOnceSpec)) bagOnceUptoCard
end Rows
end Go.Proofs.YtggfckednjojgaaDoor
