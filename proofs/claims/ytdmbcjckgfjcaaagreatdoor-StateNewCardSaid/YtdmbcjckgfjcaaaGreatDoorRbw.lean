/- Layer state: New of any plan. -/
import Derived.Test.YtdmbcjckgfjcaaaGreatDoorRbv
namespace Go.Proofs.YtdmbcjckgfjcaaaGreatDoor
open Go.RowKit Go.Joins Go.Shelf
theorem New_st (q : Pq) (ob rg pg pk : Hd) (hs : q.ro < 18446744073709551616) (w : World) (hP : PlanR w (hdV ob) (hdV rg) (hdV pg) (hdV pk) q) (hE : EnvT w) :
    Calls Tryz.prog 13 #[.agg (plLSa q (hdV ob) (hdV rg) (hdV pg) (hdV pk)).toArray] w fun e w' => ∃ v : Sv, e = .returned (.agg (stL (sNew q) v).toArray) ∧ StR w' v (sNew q) ∧ Below w.heap.size w w' := by
  cases h : pRight q
  · exact new_f q ob rg pg pk hs h w hP
  · exact new_t q ob rg pg pk hs h w hP hE
end Go.Proofs.YtdmbcjckgfjcaaaGreatDoor
