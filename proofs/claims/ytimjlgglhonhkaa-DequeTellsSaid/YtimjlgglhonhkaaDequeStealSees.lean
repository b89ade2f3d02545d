/- Layer deque: what a thief sees at a place. -/
import Derived.Test.YtimjlgglhonhkaaDequeSee
namespace Go.Proofs.Ytimjlgglhonhkaa
open Go.RowKit

set_option maxRecDepth 100000 in
set_option maxHeartbeats 2000000 in
theorem stealSees_any (B : Nat) (k p s c b t x u : Int) (v : Value) (m : List Int) (q y x1 : Int) (hc : I6 c) (hb : U t) (hq : s64 (s + 2 + t % max c 1) = q) (hy : loadF m q = y) (hx : s64 y = x1) (w : World) (h : Tn w B ⟨k, p, s, c, b, t, x, u⟩ v m) (hbig : m.length * 8 ≤ 140737488351232) :
    Calls Try.prog 77 #[pt B] w (TPost w B ⟨k, p, s, c, b, t, x1, u⟩ m (.tuple #[])) := by
  have HT := hide h.drew
  have HY := hide hy
  have HC := hide hc
  have HB := hide hb
  have HQ := hide hq
  have c2 := h.c2
  have c3 := h.c3
  have c5 := h.c5
  have e1 : IntKind.i64.wrap y = x1 := by rw [wrap_s]; exact hx
  have e2 : wrap64 y = x1 := by rw [wrap64_s]; exact hx
  clear hy h hc hb hq hx
  go_enter Try.func77, Try.ntmps77
  go_wp2
  go_region_with (first
    | (go_at_call 52; (with_reducible refine (place_any s c t q HC.out HB.out HQ.out _).mono ?_); rintro e w3 ⟨rfl, rfl⟩)
    | (go_at_call 92; (with_reducible refine (load_any B _ v m q y HY.out _ HT.out hbig).mono ?_); rintro e w2 ⟨v', rfl, hT2, hg0⟩; have f6 := hT2.unf 6; have k6 := hT2.c6; have hg := hg0.undrew; have HP := hide (TPost.of (r := .tuple #[]) (hT2.p6 x1) (hg.set 6 _)); clear hT2 hg hg0))
  all_goals
    go_wp2
    go_end0
    exact HP.out
end Go.Proofs.Ytimjlgglhonhkaa
