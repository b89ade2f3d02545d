/- Layer deque: what a machine that turns sees, and tells. -/
import Derived.Test.YtimjlgglhonhkaaDequeSee
namespace Go.Proofs.Ytimjlgglhonhkaa
open Go.RowKit

set_option maxRecDepth 100000 in
set_option maxHeartbeats 2000000 in
theorem pushSeesTop_yes (B : Nat) (k p s c b t x u : Int) (v : Value) (m : List Int) (y z cc : Int) (hs : s64 s = s) (hcap : I6 c) (hm : max c 1 = cc) (hy : loadF m s = y) (hz : w64 (b - y) = z) (hc : cc ≤ z) (w : World) (h : Tn w B ⟨k, p, s, c, b, t, x, u⟩ v m) (hbig : m.length * 8 ≤ 140737488351232) :
    Calls Try.prog 66 #[pt B] w (TPost w B ⟨k, p, s, c, b, y, x, 3⟩ m (.tuple #[])) := by
  have HT := hide h
  have HS := hide hs
  have HY := hide hy
  have HC := hide hm
  have e1 : IntKind.u64.wrap (b - y) = z := by rw [wrap_w]; exact hz
  clear hs hy hm hz
  have d0 : decide (cc ≤ z) = true := decide_eq_true hc
  clear h
  go_enter Try.func66, Try.ntmps66
  go_wp2_with fail
  (with_reducible refine (seeTop_any B k p s c b t x u v m s y HS.out HY.out _ HT.out hbig).mono ?_)
  rintro e w2 ⟨v', rfl, hT2, hg⟩
  have c3 := hT2.c3
  have c4 := hT2.c4
  have c5 := hT2.c5
  have HT2 := hide hT2
  have HG := hide hg
  clear hT2 hg
  go_wp2
  go_quiet ((go_at_call 51; exact Calls.quiet_of_same (size_same c cc hcap HC.out _)))
  all_goals
    have HP := hide (fun n => TPost.of (r := .tuple #[]) ((HT2.out.drewN n).p7 3) ((HG.out.drewN n).set 7 _))
    have f7 := fun n => (HT2.out.drewN n).unf 7
    have g7 := fun n => (HT2.out.drewN n).c7
    go_wp2
    go_end0
    exact HP.out _
set_option maxRecDepth 100000 in
set_option maxHeartbeats 2000000 in
theorem pushSeesTop_no (B : Nat) (k p s c b t x u : Int) (v : Value) (m : List Int) (y z cc : Int) (hs : s64 s = s) (hcap : I6 c) (hm : max c 1 = cc) (hy : loadF m s = y) (hz : w64 (b - y) = z) (hc : ¬ cc ≤ z) (w : World) (h : Tn w B ⟨k, p, s, c, b, t, x, u⟩ v m) (hbig : m.length * 8 ≤ 140737488351232) :
    Calls Try.prog 66 #[pt B] w (TPost w B ⟨k, p, s, c, b, y, x, u⟩ m (.tuple #[])) := by
  have HT := hide h
  have HS := hide hs
  have HY := hide hy
  have HC := hide hm
  have e1 : IntKind.u64.wrap (b - y) = z := by rw [wrap_w]; exact hz
  clear hs hy hm hz
  have d0 : decide (cc ≤ z) = false := decide_eq_false hc
  clear h
  go_enter Try.func66, Try.ntmps66
  go_wp2_with fail
  (with_reducible refine (seeTop_any B k p s c b t x u v m s y HS.out HY.out _ HT.out hbig).mono ?_)
  rintro e w2 ⟨v', rfl, hT2, hg⟩
  have c3 := hT2.c3
  have c4 := hT2.c4
  have c5 := hT2.c5
  have HT2 := hide hT2
  have HG := hide hg
  clear hT2 hg
  go_wp2
  go_quiet ((go_at_call 51; exact Calls.quiet_of_same (size_same c cc hcap HC.out _)))
  all_goals
    have HP := hide (fun n => TPost.of (r := .tuple #[]) (HT2.out.drewN n) (HG.out.drewN n))
    go_wp2
    go_end0
    exact HP.out _
end Go.Proofs.Ytimjlgglhonhkaa
