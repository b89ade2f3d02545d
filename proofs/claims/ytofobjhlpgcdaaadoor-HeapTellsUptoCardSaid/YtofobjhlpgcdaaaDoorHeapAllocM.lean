/- Layer heap: cells that 'make' lays. -/
import Derived.Test.YtofobjhlpgcdaaaDoorHeapPut
import Derived.Deep.OwnRows
namespace Go.Proofs.YtofobjhlpgcdaaaDoor
open Go.RowKit

theorem madeZero (N : Nat) : (madeCells #[Value.int .i64 0] N) = ((List.replicate N (0 : Int)).flatMap ic).toArray := by
  rw [← ic_map, List.map_replicate, ← toList_madeCells_one]
end Go.Proofs.YtofobjhlpgcdaaaDoor
