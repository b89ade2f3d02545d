/-
  DERIVED. GIVEN WITH THE SEED: THE CARDS: each row of YtnbbjkikplfpoaaDoorRows.lean that lists a variable, with what it lists TIED to the program's text (the seventh form; the later family's looks); each row that meets fmt, with fmt's text TOLD by the authors' own Lean function (tested against real Go, not proved from fmt's source: count such statements apart). THE CARD IS WHAT COUNTS. Prove the row's statement (the work); the ties are given (YtnbbjkikplfpoaaDoorTie.lean); close each card by the builder's one call (the guide's Derived/Test/ToyasCard.lean, 'card_holds'). Laid BY PROGRAM, IN A SANDBOX (cutbox-door.mjs). By AI agents, Wed Nov 11 2026. No macro, syntax, notation, axiom, sorry.
-/
import Derived.Test.YtnbbjkikplfpoaaDoorRows
import GoSem.ClaimSeven
namespace Go.Proofs.YtnbbjkikplfpoaaDoor
namespace Rows

/-- THE TIED CARD OF 'besomlaw03.HeapTells'. -/
def heapTellsCard : Claim7 := { stood := { row := heapTellsRow, standIns := [], harness := (true, "e3cbb3f97ec1ea76cc92ec2ca329273e4f3df63a1a4cbc34e9764ec511c46837"), looks := true }, kinds := [], alts := [], laidByText := true, laidKinds := [.data, .data, .data, .data, .sentinel, .sentinel, .pinned], laidTests := true, laidLooks := .later }
def HeapTellsCardSaid : Prop := Claim7.holds Tryd.pinned (.plain (OpenSpec.ofChange heapTellsSpec)) heapTellsCard

/-- THE TIED CARD OF 'besomlaw03.HeapPuts'. -/
def heapPutsCard : Claim7 := { stood := { row := heapPutsRow, standIns := [], harness := (true, "e3cbb3f97ec1ea76cc92ec2ca329273e4f3df63a1a4cbc34e9764ec511c46837"), looks := true }, kinds := [], alts := [], laidByText := true, laidKinds := [.data, .data, .data, .data, .sentinel, .sentinel, .pinned], laidTests := true, laidLooks := .later }
def HeapPutsCardSaid : Prop := Claim7.holds Tryd.pinned (.plain (OpenSpec.ofChange heapPutsSpec)) heapPutsCard

/-- THE TIED CARD OF 'besomlaw03.HeapAllocs'. -/
def heapAllocsCard : Claim7 := { stood := { row := heapAllocsRow, standIns := [], harness := (true, "e3cbb3f97ec1ea76cc92ec2ca329273e4f3df63a1a4cbc34e9764ec511c46837"), looks := true }, kinds := [], alts := [], laidByText := true, laidKinds := [.data, .data, .data, .data, .sentinel, .sentinel, .pinned], laidTests := true, laidLooks := .later }
def HeapAllocsCardSaid : Prop := Claim7.holds Tryd.pinned (.plain (OpenSpec.ofChange heapAllocsSpec)) heapAllocsCard

/-- THE TIED CARD OF 'besomlaw03.HeapBack'. -/
def heapBackCard : Claim7 := { stood := { row := heapBackRow, standIns := [], harness := (true, "e3cbb3f97ec1ea76cc92ec2ca329273e4f3df63a1a4cbc34e9764ec511c46837"), looks := true }, kinds := [], alts := [], laidByText := true, laidKinds := [.data, .data, .data, .data, .sentinel, .sentinel, .pinned], laidTests := true, laidLooks := .later }
def HeapBackCardSaid : Prop := Claim7.holds Tryd.pinned (.plain (OpenSpec.ofChange heapBackSpec)) heapBackCard

/-- THE TIED CARD OF 'besomlaw03.HeapSame'. -/
def heapSameCard : Claim7 := { stood := { row := heapSameRow, standIns := [], harness := (true, "e3cbb3f97ec1ea76cc92ec2ca329273e4f3df63a1a4cbc34e9764ec511c46837"), looks := true }, kinds := [], alts := [], laidByText := true, laidKinds := [.data, .data, .data, .data, .sentinel, .sentinel, .pinned], laidTests := true, laidLooks := .later }
def HeapSameCardSaid : Prop := Claim7.holds Tryd.pinned (.plain (OpenSpec.ofChange heapSameSpec)) heapSameCard

/-- THE TIED CARD OF 'besomlaw03.HeapTwice'. -/
def heapTwiceCard : Claim7 := { stood := { row := heapTwiceRow, standIns := [], harness := (true, "e3cbb3f97ec1ea76cc92ec2ca329273e4f3df63a1a4cbc34e9764ec511c46837"), looks := true }, kinds := [], alts := [], laidByText := true, laidKinds := [.data, .data, .data, .data, .sentinel, .sentinel, .pinned], laidTests := true, laidLooks := .later }
def HeapTwiceCardSaid : Prop := Claim7.holds Tryd.pinned (.plain (OpenSpec.ofChange heapTwiceSpec)) heapTwiceCard

/-- THE SECOND FORM's CARD OF 'besomlaw03.HeapTells'. -/
def heapTellsUptoCard : Claim7 := { stood := { row := heapTellsUptoRow, standIns := [], harness := (true, "e3cbb3f97ec1ea76cc92ec2ca329273e4f3df63a1a4cbc34e9764ec511c46837"), looks := true }, kinds := [], alts := [], laidByText := true, laidKinds := [.data, .data, .data, .data, .sentinel, .sentinel, .pinned], laidTests := true, laidLooks := .later }
def HeapTellsUptoCardSaid : Prop := Claim7.holds Tryd.pinned (.plain (OpenSpec.upto heapTellsSpec)) heapTellsUptoCard

/-- THE SECOND FORM's CARD OF 'besomlaw03.HeapPuts'. -/
def heapPutsUptoCard : Claim7 := { stood := { row := heapPutsUptoRow, standIns := [], harness := (true, "e3cbb3f97ec1ea76cc92ec2ca329273e4f3df63a1a4cbc34e9764ec511c46837"), looks := true }, kinds := [], alts := [], laidByText := true, laidKinds := [.data, .data, .data, .data, .sentinel, .sentinel, .pinned], laidTests := true, laidLooks := .later }
def HeapPutsUptoCardSaid : Prop := Claim7.holds Tryd.pinned (.plain (OpenSpec.upto heapPutsSpec)) heapPutsUptoCard

/-- THE SECOND FORM's CARD OF 'besomlaw03.HeapAllocs'. -/
def heapAllocsUptoCard : Claim7 := { stood := { row := heapAllocsUptoRow, standIns := [], harness := (true, "e3cbb3f97ec1ea76cc92ec2ca329273e4f3df63a1a4cbc34e9764ec511c46837"), looks := true }, kinds := [], alts := [], laidByText := true, laidKinds := [.data, .data, .data, .data, .sentinel, .sentinel, .pinned], laidTests := true, laidLooks := .later }
def HeapAllocsUptoCardSaid : Prop := Claim7.holds Tryd.pinned (.plain (OpenSpec.upto heapAllocsSpec)) heapAllocsUptoCard

/-- THE SECOND FORM's CARD OF 'besomlaw03.HeapBack'. -/
def heapBackUptoCard : Claim7 := { stood := { row := heapBackUptoRow, standIns := [], harness := (true, "e3cbb3f97ec1ea76cc92ec2ca329273e4f3df63a1a4cbc34e9764ec511c46837"), looks := true }, kinds := [], alts := [], laidByText := true, laidKinds := [.data, .data, .data, .data, .sentinel, .sentinel, .pinned], laidTests := true, laidLooks := .later }
def HeapBackUptoCardSaid : Prop := Claim7.holds Tryd.pinned (.plain (OpenSpec.upto heapBackSpec)) heapBackUptoCard

/-- THE SECOND FORM's CARD OF 'besomlaw03.HeapSame'. -/
def heapSameUptoCard : Claim7 := { stood := { row := heapSameUptoRow, standIns := [], harness := (true, "e3cbb3f97ec1ea76cc92ec2ca329273e4f3df63a1a4cbc34e9764ec511c46837"), looks := true }, kinds := [], alts := [], laidByText := true, laidKinds := [.data, .data, .data, .data, .sentinel, .sentinel, .pinned], laidTests := true, laidLooks := .later }
def HeapSameUptoCardSaid : Prop := Claim7.holds Tryd.pinned (.plain (OpenSpec.upto heapSameSpec)) heapSameUptoCard

/-- THE SECOND FORM's CARD OF 'besomlaw03.HeapTwice'. -/
def heapTwiceUptoCard : Claim7 := { stood := { row := heapTwiceUptoRow, standIns := [], harness := (true, "e3cbb3f97ec1ea76cc92ec2ca329273e4f3df63a1a4cbc34e9764ec511c46837"), looks := true }, kinds := [], alts := [], laidByText := true, laidKinds := [.data, .data, .data, .data, .sentinel, .sentinel, .pinned], laidTests := true, laidLooks := .later }
def HeapTwiceUptoCardSaid : Prop := Claim7.holds Tryd.pinned (.plain (OpenSpec.upto heapTwiceSpec)) heapTwiceUptoCard
end Rows
end Go.Proofs.YtnbbjkikplfpoaaDoor
