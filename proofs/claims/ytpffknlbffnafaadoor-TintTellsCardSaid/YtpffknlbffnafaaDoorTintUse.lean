/- Layer tint: the calls with named values; the law's small ones. -/
import Derived.Test.YtpffknlbffnafaaDoorTintBetween
import Derived.Test.YtpffknlbffnafaaDoorTintText
namespace Go.Proofs.YtpffknlbffnafaaDoor
open Go.RowKit
theorem Shade_c (m b : Nat) (o x y x' : Int) (k : Bool) (hm : m < 18446744073709551616) (hb : b < 18446744073709551616) (h0 : -9223372036854775808 ≤ o) (h1 : o ≤ 9223372036854775807) (e0 : x = (m : Int))  (e1 : y = (b : Int))  (e2 : x' = ((shM m b o : Nat) : Int))  (e3 : k = tFree m b o) (w : World) :
    Calls Tryd.prog 11 #[.agg #[.int .u64 x, .int .u64 y], .int .i64 o] w fun e w' => e = .returned (.tuple #[.agg #[.int .u64 x', .int .u64 y], .bool k]) ∧ Below w.heap.size w w' := by
  subst e0 e1 e2 e3
  exact Shade_any m b o hm hb h0 h1 w
theorem Scan_c (m b : Nat) (o x y y' : Int) (k : Bool) (hm : m < 18446744073709551616) (hb : b < 18446744073709551616) (h0 : -9223372036854775808 ≤ o) (h1 : o ≤ 9223372036854775807) (e0 : x = (m : Int))  (e1 : y = (b : Int))  (e2 : y' = ((scB m b o : Nat) : Int))  (e3 : k = tGrey m b o) (w : World) :
    Calls Tryd.prog 13 #[.agg #[.int .u64 x, .int .u64 y], .int .i64 o] w fun e w' => e = .returned (.tuple #[.agg #[.int .u64 x, .int .u64 y'], .bool k]) ∧ Below w.heap.size w w' := by
  subst e0 e1 e2 e3
  exact Scan_any m b o hm hb h0 h1 w
theorem Fresh_c (m b : Nat) (o x y x' y' : Int) (k : Bool) (hm : m < 18446744073709551616) (hb : b < 18446744073709551616) (h0 : -9223372036854775808 ≤ o) (h1 : o ≤ 9223372036854775807) (e0 : x = (m : Int))  (e1 : y = (b : Int))  (e2 : x' = ((shM m b o : Nat) : Int))  (e3 : y' = ((frB m b o : Nat) : Int))  (e4 : k = tFree m b o) (w : World) :
    Calls Tryd.prog 15 #[.agg #[.int .u64 x, .int .u64 y], .int .i64 o] w fun e w' => e = .returned (.tuple #[.agg #[.int .u64 x', .int .u64 y'], .bool k]) ∧ Below w.heap.size w w' := by
  subst e0 e1 e2 e3 e4
  exact Fresh_any m b o hm hb h0 h1 w
theorem Of_c (m b : Nat) (o x y r : Int) (hm : m < 18446744073709551616) (hb : b < 18446744073709551616) (h0 : -9223372036854775808 ≤ o) (h1 : o ≤ 9223372036854775807) (e0 : x = (m : Int))  (e1 : y = (b : Int))  (e2 : r = tOf m b o) (w : World) :
    Calls Tryd.prog 21 #[.agg #[.int .u64 x, .int .u64 y], .int .i64 o] w fun e w' => e = .returned (.int .i64 r) ∧ Below w.heap.size w w' := by
  subst e0 e1 e2
  exact Of_any m b o hm hb h0 h1 w
theorem Right_c (m b : Nat) (o x y : Int) (k : Bool) (hm : m < 18446744073709551616) (hb : b < 18446744073709551616) (h0 : -9223372036854775808 ≤ o) (h1 : o ≤ 9223372036854775807) (e0 : x = (m : Int))  (e1 : y = (b : Int))  (e2 : k = tRight m b o) (w : World) :
    Calls Tryd.prog 19 #[.agg #[.int .u64 x, .int .u64 y], .int .i64 o] w fun e w' => e = .returned (.bool k) ∧ Below w.heap.size w w' := by
  subst e0 e1 e2
  exact Right_any m b o hm hb h0 h1 w
theorem Greys_c (m b : Nat) (x y r : Int) (hm : m < 18446744073709551616) (hb : b < 18446744073709551616) (e0 : x = (m : Int))  (e1 : y = (b : Int))  (e2 : r = ((tGreys m b : Nat) : Int)) (w : World) :
    Calls Tryd.prog 23 #[.agg #[.int .u64 x, .int .u64 y]] w fun e w' => e = .returned (.int .u64 r) ∧ Below w.heap.size w w' := by
  subst e0 e1 e2
  exact Greys_any m b hm hb w
theorem Between_c (m b p q : Nat) (x y x' y' r s : Int) (hm : m < 18446744073709551616) (hb : b < 18446744073709551616) (e0 : x = (m : Int))  (e1 : y = (b : Int))  (e2 : x' = (p : Int))  (e3 : y' = (q : Int))  (e4 : r = (tBetween m b p q).1)  (e5 : s = (tBetween m b p q).2) (w : World) :
    Calls Tryd.prog 17 #[.agg #[.int .u64 x, .int .u64 y], .agg #[.int .u64 x', .int .u64 y']] w fun e w' => e = .returned (.tuple #[.int .i64 r, .int .i64 s]) ∧ Below w.heap.size w w' := by
  subst e0 e1 e2 e3 e4 e5
  exact Between_any m b p q hm hb w
theorem Text_c (m b : Nat) (o x y : Int) (l : List UInt8) (hm : m < 18446744073709551616) (hb : b < 18446744073709551616) (h0 : -9223372036854775808 ≤ o) (h1 : o ≤ 9223372036854775807) (e0 : x = (m : Int))  (e1 : y = (b : Int))  (e2 : l = tText m b o) (w : World) (hE : EnvL w) :
    Calls Tryd.prog 25 #[.agg #[.int .u64 x, .int .u64 y], .int .i64 o] w fun e w' => e = .returned (.string ⟨l.toArray⟩) ∧ Below w.heap.size w w' := by
  subst e0 e1 e2
  exact Text_any m b o hm hb h0 h1 w hE
theorem some_any (m b : Nat) (hm : m < 18446744073709551616) (hb : b < 18446744073709551616) (w : World) :
    Calls Tryd.prog 27 #[.int .u64 m, .int .u64 b] w fun e w' => e = .returned (tv m (m &&& b)) ∧ Below w.heap.size w w' := by
  have hB := hide (bits_and_u64_nat m b hm hb)
  go_enter Tryd.func27, Tryd.ntmps27
  go_wp2
  refine bodyPost_ret (v := tv m (m &&& b)) (by simp [results, Tryd.results27, go_sem, hB.out]) rfl ⟨rfl, ?_⟩
  exact bal _ _
end Go.Proofs.YtpffknlbffnafaaDoor
