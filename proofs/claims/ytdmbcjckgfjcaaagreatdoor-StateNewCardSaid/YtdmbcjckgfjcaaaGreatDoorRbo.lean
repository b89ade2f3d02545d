/- math/bits.TrailingZeros64, by the shelf. -/
import Derived.Shelf.Spec.TrailingZeros
import Derived.Test.YtdmbcjckgfjcaaaGreatDoorRas
import Derived.Test.YtdmbcjckgfjcaaaGreatDoorRab
namespace Go.Proofs.YtdmbcjckgfjcaaaGreatDoor
open Go.Shelf Go.Proofs Go.RowKit
/-- math/bits.TrailingZeros64, the number written out. -/
theorem tz64 (x : Nat) (hx : x < 18446744073709551616) (w : World) (hT : x ≠ 0 → TabAt 0 Lib.deBruijn64tab w) :
    Calls Tryz.prog 153 #[.int .u64 x] w fun e w' => e = .returned (.int .i64 (Lib.ctz 64 x)) ∧ w' = w :=
  Any7.bits_TrailingZeros64 Tryz.lays29 x hx w hT
end Go.Proofs.YtdmbcjckgfjcaaaGreatDoor
