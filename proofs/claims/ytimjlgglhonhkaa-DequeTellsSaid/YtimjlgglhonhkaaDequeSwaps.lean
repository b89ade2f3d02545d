/- Layer deque: what a machine that turns does with TOP. -/
import Derived.Test.YtimjlgglhonhkaaDequeTop
namespace Go.Proofs.Ytimjlgglhonhkaa
open Go.RowKit

set_option maxRecDepth 100000 in
set_option maxHeartbeats 2000000 in
theorem popTakesTop_yes (B : Nat) (k p s c b t x u : Int) (v : Value) (m : List Int) (hs : I6 s) (r : List Int) (hr : swapF m s t (w64 (t + 1)) = r) (hy : swapsF m s t (w64 (t + 1)) = true) (w : World) (h : Tn w B ⟨k, p, s, c, b, t, x, u⟩ v m) (hbig : m.length * 8 ≤ 140737488351232) :
    Calls Try.prog 72 #[pt B] w (TPost w B ⟨k, 6, s, c, b, t, x, u⟩ r (.tuple #[])) := by
  have HT := hide h
  have HS := hide hs
  have HR := hide hr
  have HY := hide hy
  clear h hs hr hy
  go_enter Try.func72, Try.ntmps72
  go_wp2_with fail
  (with_reducible refine (takeTop_any B k p s c b t x u v m HS.out r HR.out true HY.out _ HT.out hbig).mono ?_)
  rintro e w2 ⟨v', rfl, hT2, hg⟩
  have f1 := hT2.unf 1
  have k1 := hT2.c1
  have t0 := hT2.p1 6
  have g0 := hg.set 1 (.int .i64 6)
  have HP := hide (TPost.of (r := .tuple #[]) t0 g0)
  clear hT2 hg t0 g0
  go_wp2
  go_end0
  exact HP.out
set_option maxRecDepth 100000 in
set_option maxHeartbeats 2000000 in
theorem popTakesTop_no (B : Nat) (k p s c b t x u : Int) (v : Value) (m : List Int) (hs : I6 s) (r : List Int) (hr : swapF m s t (w64 (t + 1)) = r) (hy : swapsF m s t (w64 (t + 1)) = false) (w : World) (h : Tn w B ⟨k, p, s, c, b, t, x, u⟩ v m) (hbig : m.length * 8 ≤ 140737488351232) :
    Calls Try.prog 72 #[pt B] w (TPost w B ⟨k, 5, s, c, b, t, x, u⟩ r (.tuple #[])) := by
  have HT := hide h
  have HS := hide hs
  have HR := hide hr
  have HY := hide hy
  clear h hs hr hy
  go_enter Try.func72, Try.ntmps72
  go_wp2_with fail
  (with_reducible refine (takeTop_any B k p s c b t x u v m HS.out r HR.out false HY.out _ HT.out hbig).mono ?_)
  rintro e w2 ⟨v', rfl, hT2, hg⟩
  have f1 := hT2.unf 1
  have k1 := hT2.c1
  have t0 := hT2.p1 5
  have g0 := hg.set 1 (.int .i64 5)
  have HP := hide (TPost.of (r := .tuple #[]) t0 g0)
  clear hT2 hg t0 g0
  go_wp2
  go_end0
  exact HP.out
set_option maxRecDepth 100000 in
set_option maxHeartbeats 2000000 in
theorem stealTakesTop_yes (B : Nat) (k p s c b t x u : Int) (v : Value) (m : List Int) (hs : I6 s) (r : List Int) (hr : swapF m s t (w64 (t + 1)) = r) (hy : swapsF m s t (w64 (t + 1)) = true) (w : World) (h : Tn w B ⟨k, p, s, c, b, t, x, u⟩ v m) (hbig : m.length * 8 ≤ 140737488351232) :
    Calls Try.prog 78 #[pt B] w (TPost w B ⟨k, p, s, c, b, t, x, 1⟩ r (.tuple #[])) := by
  have HT := hide h
  have HS := hide hs
  have HR := hide hr
  have HY := hide hy
  clear h hs hr hy
  go_enter Try.func78, Try.ntmps78
  go_wp2_with fail
  (with_reducible refine (takeTop_any B k p s c b t x u v m HS.out r HR.out true HY.out _ HT.out hbig).mono ?_)
  rintro e w2 ⟨v', rfl, hT2, hg⟩
  have f7 := hT2.unf 7
  have k7 := hT2.c7
  have t0 := hT2.p7 1
  have g0 := hg.set 7 (.int .i64 1)
  have HP := hide (TPost.of (r := .tuple #[]) t0 g0)
  clear hT2 hg t0 g0
  go_wp2
  go_end0
  exact HP.out
set_option maxRecDepth 100000 in
set_option maxHeartbeats 2000000 in
theorem stealTakesTop_no (B : Nat) (k p s c b t x u : Int) (v : Value) (m : List Int) (hs : I6 s) (r : List Int) (hr : swapF m s t (w64 (t + 1)) = r) (hy : swapsF m s t (w64 (t + 1)) = false) (w : World) (h : Tn w B ⟨k, p, s, c, b, t, x, u⟩ v m) (hbig : m.length * 8 ≤ 140737488351232) :
    Calls Try.prog 78 #[pt B] w (TPost w B ⟨k, p, s, c, b, t, 0, 4⟩ r (.tuple #[])) := by
  have HT := hide h
  have HS := hide hs
  have HR := hide hr
  have HY := hide hy
  clear h hs hr hy
  go_enter Try.func78, Try.ntmps78
  go_wp2_with fail
  (with_reducible refine (takeTop_any B k p s c b t x u v m HS.out r HR.out false HY.out _ HT.out hbig).mono ?_)
  rintro e w2 ⟨v', rfl, hT2, hg⟩
  have f7 := hT2.unf 7
  have k7 := hT2.c7
  have t0 := hT2.p7 4
  have g0 := hg.set 7 (.int .i64 4)
  have f6 := t0.unf 6
  have k6 := t0.c6
  have t1 := t0.p6 0
  have g1 := g0.set 6 (.int .i64 0)
  have HP := hide (TPost.of (r := .tuple #[]) t1 g1)
  clear hT2 hg t0 g0 t1 g1
  go_wp2
  go_end0
  exact HP.out
end Go.Proofs.Ytimjlgglhonhkaa
