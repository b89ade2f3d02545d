/- Layer deque: what a machine that turns puts at a place. -/
import Derived.Test.YtimjlgglhonhkaaDequeSee
namespace Go.Proofs.Ytimjlgglhonhkaa
open Go.RowKit

set_option maxRecDepth 100000 in
set_option maxHeartbeats 2000000 in
theorem pushFills_any (B : Nat) (k p s c b t x u : Int) (v : Value) (m : List Int) (q x1 : Int) (r : List Int) (hc : I6 c) (hb : U b) (hq : s64 (s + 2 + b % max c 1) = q) (hx : w64 x = x1) (hr : storeF m q x1 = r) (w : World) (h : Tn w B ⟨k, p, s, c, b, t, x, u⟩ v m) (hbig : m.length * 8 ≤ 140737488351232) :
    Calls Try.prog 67 #[pt B] w (TPost w B ⟨k, p, s, c, b, t, x, u⟩ r (.tuple #[])) := by
  have HT := hide h.drew
  have HR := hide hr
  have HC := hide hc
  have HB := hide hb
  have HQ := hide hq
  have c2 := h.c2
  have c3 := h.c3
  have c4 := h.c4
  have c6 := h.c6
  have e1 : IntKind.u64.wrap x = x1 := by rw [wrap_w]; exact hx
  clear hr h hc hb hq hx
  go_enter Try.func67, Try.ntmps67
  go_wp2
  go_still_tail 23, (by kernel_rfl)
  still_call (place_same s c b q HC.out HB.out HQ.out _)
  repeat still_step
  refine wpStill_nil ?_
  change wpList _ _ _ _ _ w.drew
  go_wp2_with fail
  (with_reducible refine (store_any B _ v m q x1 r HR.out _ HT.out hbig).mono ?_)
  rintro e w2 ⟨v', rfl, hT2, hg0⟩
  have HP := hide (TPost.of (r := .tuple #[]) hT2 hg0.undrew)
  clear hT2 hg0
  go_wp2
  go_end0
  exact HP.out
end Go.Proofs.Ytimjlgglhonhkaa
