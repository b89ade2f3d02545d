/- Layer deque: what a machine that turns stores at BOTTOM. -/
import Derived.Test.YtimjlgglhonhkaaDequeSee
namespace Go.Proofs.Ytimjlgglhonhkaa
open Go.RowKit

set_option maxRecDepth 100000 in
set_option maxHeartbeats 2000000 in
theorem pushRaises_any (B : Nat) (k p s c b t x u : Int) (v : Value) (m : List Int) (q z : Int) (r : List Int) (hq : s64 (s + 1) = q) (hz : w64 (b + 1) = z) (hr : storeF m q z = r) (w : World) (h : Tn w B ⟨k, p, s, c, b, t, x, u⟩ v m) (hbig : m.length * 8 ≤ 140737488351232) :
    Calls Try.prog 68 #[pt B] w (TPost w B ⟨k, p, s, c, b, t, x, 1⟩ r (.tuple #[])) := by
  have HT := hide h.drew
  have HR := hide hr
  have c2 := h.c2
  have c4 := h.c4
  have e1 : IntKind.i64.wrap (s + 1) = q := by rw [wrap_s]; exact hq
  have e2 : wrap64 (s + 1) = q := by rw [wrap64_s]; exact hq
  have e3 : IntKind.u64.wrap (b + 1) = z := by rw [wrap_w]; exact hz
  clear hq hz
  clear hr h
  go_enter Try.func68, Try.ntmps68
  go_wp2
  go_still_tail 13, (by kernel_rfl)
  change wpList _ _ _ _ _ w.drew
  go_wp2_with fail
  (with_reducible refine (store_any B _ v m q z r HR.out _ HT.out hbig).mono ?_)
  rintro e w2 ⟨v', rfl, hT2, hg0⟩
  all_goals
    have hg := hg0.undrew
    have f7 := hT2.unf 7
    have k7 := hT2.c7
    have t0 := hT2.p7 1
    have g0 := hg.set 7 (.int .i64 1)
    have HP := hide (TPost.of (r := .tuple #[]) t0 g0)
    clear hT2 hg hg0 t0 g0
    go_wp2
    go_end0
    exact HP.out
set_option maxRecDepth 100000 in
set_option maxHeartbeats 2000000 in
theorem popLowers_any (B : Nat) (k p s c b t x u : Int) (v : Value) (m : List Int) (q z : Int) (r : List Int) (hq : s64 (s + 1) = q) (hz : w64 (b - 1) = z) (hr : storeF m q z = r) (w : World) (h : Tn w B ⟨k, p, s, c, b, t, x, u⟩ v m) (hbig : m.length * 8 ≤ 140737488351232) :
    Calls Try.prog 69 #[pt B] w (TPost w B ⟨k, p, s, c, b, t, x, u⟩ r (.tuple #[])) := by
  have HT := hide h.drew
  have HR := hide hr
  have c2 := h.c2
  have c4 := h.c4
  have e1 : IntKind.i64.wrap (s + 1) = q := by rw [wrap_s]; exact hq
  have e2 : wrap64 (s + 1) = q := by rw [wrap64_s]; exact hq
  have e3 : IntKind.u64.wrap (b - 1) = z := by rw [wrap_w]; exact hz
  clear hq hz
  clear hr h
  go_enter Try.func69, Try.ntmps69
  go_wp2
  go_still_tail 13, (by kernel_rfl)
  change wpList _ _ _ _ _ w.drew
  go_wp2_with fail
  (with_reducible refine (store_any B _ v m q z r HR.out _ HT.out hbig).mono ?_)
  rintro e w2 ⟨v', rfl, hT2, hg0⟩
  all_goals
    have hg := hg0.undrew
    have HP := hide (TPost.of (r := .tuple #[]) hT2 hg)
    clear hT2 hg hg0
    go_wp2
    go_end0
    exact HP.out
set_option maxRecDepth 100000 in
set_option maxHeartbeats 2000000 in
theorem popIsDone_any (B : Nat) (k p s c b t x u : Int) (v : Value) (m : List Int) (q : Int) (r : List Int) (hq : s64 (s + 1) = q) (hr : storeF m q b = r) (w : World) (h : Tn w B ⟨k, p, s, c, b, t, x, u⟩ v m) (hbig : m.length * 8 ≤ 140737488351232) :
    Calls Try.prog 74 #[pt B] w (TPost w B ⟨k, p, s, c, b, t, x, 1⟩ r (.tuple #[])) := by
  have HT := hide h.drew
  have HR := hide hr
  have c2 := h.c2
  have c4 := h.c4
  have e1 : IntKind.i64.wrap (s + 1) = q := by rw [wrap_s]; exact hq
  have e2 : wrap64 (s + 1) = q := by rw [wrap64_s]; exact hq
  clear hq
  clear hr h
  go_enter Try.func74, Try.ntmps74
  go_wp2
  go_still_tail 12, (by kernel_rfl)
  change wpList _ _ _ _ _ w.drew
  go_wp2_with fail
  (with_reducible refine (store_any B _ v m q b r HR.out _ HT.out hbig).mono ?_)
  rintro e w2 ⟨v', rfl, hT2, hg0⟩
  all_goals
    have hg := hg0.undrew
    have f7 := hT2.unf 7
    have k7 := hT2.c7
    have t0 := hT2.p7 1
    have g0 := hg.set 7 (.int .i64 1)
    have HP := hide (TPost.of (r := .tuple #[]) t0 g0)
    clear hT2 hg hg0 t0 g0
    go_wp2
    go_end0
    exact HP.out
set_option maxRecDepth 100000 in
set_option maxHeartbeats 2000000 in
theorem popIsEmpty_any (B : Nat) (k p s c b t x u : Int) (v : Value) (m : List Int) (q : Int) (r : List Int) (hq : s64 (s + 1) = q) (hr : storeF m q b = r) (w : World) (h : Tn w B ⟨k, p, s, c, b, t, x, u⟩ v m) (hbig : m.length * 8 ≤ 140737488351232) :
    Calls Try.prog 73 #[pt B] w (TPost w B ⟨k, p, s, c, b, t, 0, 2⟩ r (.tuple #[])) := by
  have HT := hide h.drew
  have HR := hide hr
  have c2 := h.c2
  have c4 := h.c4
  have e1 : IntKind.i64.wrap (s + 1) = q := by rw [wrap_s]; exact hq
  have e2 : wrap64 (s + 1) = q := by rw [wrap64_s]; exact hq
  clear hq
  clear hr h
  go_enter Try.func73, Try.ntmps73
  go_wp2
  go_still_tail 12, (by kernel_rfl)
  change wpList _ _ _ _ _ w.drew
  go_wp2_with fail
  (with_reducible refine (store_any B _ v m q b r HR.out _ HT.out hbig).mono ?_)
  rintro e w2 ⟨v', rfl, hT2, hg0⟩
  all_goals
    have hg := hg0.undrew
    have f7 := hT2.unf 7
    have k7 := hT2.c7
    have t0 := hT2.p7 2
    have g0 := hg.set 7 (.int .i64 2)
    have f6 := t0.unf 6
    have k6 := t0.c6
    have t1 := t0.p6 0
    have g1 := g0.set 6 (.int .i64 0)
    have HP := hide (TPost.of (r := .tuple #[]) t1 g1)
    clear hT2 hg hg0 t0 g0 t1 g1
    go_wp2
    go_end0
    exact HP.out
end Go.Proofs.Ytimjlgglhonhkaa
