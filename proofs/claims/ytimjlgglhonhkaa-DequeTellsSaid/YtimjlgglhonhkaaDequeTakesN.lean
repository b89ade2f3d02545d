/- Layer deque: what an owner that pops takes. -/
import Derived.Test.YtimjlgglhonhkaaDequeSees2
namespace Go.Proofs.Ytimjlgglhonhkaa
open Go.RowKit

set_option maxRecDepth 100000 in
set_option maxHeartbeats 2000000 in
theorem popTakes_no (B : Nat) (k p s c b t x u : Int) (v : Value) (m : List Int) (q y x1 b1 : Int) (hc : I6 c) (hb : U b1) (hb1 : w64 (b - 1) = b1) (hq : s64 (s + 2 + b1 % max c 1) = q) (hy : loadF m q = y) (hx : s64 y = x1) (ht : t ≠ b1) (w : World) (h : Tn w B ⟨k, p, s, c, b, t, x, u⟩ v m) (hbig : m.length * 8 ≤ 140737488351232) :
    Calls Try.prog 71 #[pt B] w (TPost w B ⟨k, p, s, c, b, t, x1, 1⟩ m (.tuple #[])) := by
  have HT := hide h.drew
  have HY := hide hy
  have HC := hide hc
  have HB := hide hb
  have HQ := hide hq
  have c2 := h.c2
  have c3 := h.c3
  have c4 := h.c4
  have e0 : IntKind.u64.wrap (b - 1) = b1 := by rw [wrap_w]; exact hb1
  have e1 : IntKind.i64.wrap y = x1 := by rw [wrap_s]; exact hx
  have e2 : wrap64 y = x1 := by rw [wrap64_s]; exact hx
  have d0 : (t == b1) = false := by rw [beq_eq_false_iff_ne]; exact ht
  clear hy h hc hb hq hx hb1 ht
  go_enter Try.func71, Try.ntmps71
  go_wp2
  go_region_with (first
    | (go_at_call 52; (with_reducible refine (place_any s c b1 q HC.out HB.out HQ.out _).mono ?_); rintro e w3 ⟨rfl, rfl⟩)
    | (go_at_call 92; (with_reducible refine (load_any B _ v m q y HY.out _ HT.out hbig).mono ?_); rintro e w2 ⟨v', rfl, hT2, hg0⟩; have f6 := hT2.unf 6; have k6 := hT2.c6; have hg := hg0.undrew; have hT3 := hT2.p6 x1; have hg3 := hg.set 6 (.int .i64 x1); have HT3 := hide hT3; have HG3 := hide hg3; have a4 := hT3.c4; have a5 := hT3.c5; clear hT2 hg hg0 hT3 hg3))
  all_goals
    go_wp2
    go_quiet (fail)
    have HP := hide (fun n => TPost.of (r := .tuple #[]) ((HT3.out.drewN n).p7 1) ((HG3.out.drewN n).set 7 _))
    have f7 := fun n => (HT3.out.drewN n).unf 7
    have g7 := fun n => (HT3.out.drewN n).c7
    go_wp2
    go_end0
    exact HP.out _
end Go.Proofs.Ytimjlgglhonhkaa
