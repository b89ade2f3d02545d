/- Layer deque: what a machine that turns sees, and tells: pop, steal. -/
import Derived.Test.YtimjlgglhonhkaaDequeSee
namespace Go.Proofs.Ytimjlgglhonhkaa
open Go.RowKit

theorem s64_w64 (n : Int) : s64 (w64 n) = s64 n := by unfold s64 w64; omega
set_option maxRecDepth 100000 in
set_option maxHeartbeats 2000000 in
theorem popSeesTop_yes (B : Nat) (k p s c b t x u : Int) (v : Value) (m : List Int) (y z b1 : Int) (hs : s64 s = s) (hy : loadF m s = y) (hb1 : w64 (b - 1) = b1) (hz : s64 (y - b1) = z) (hc : 0 < z) (w : World) (h : Tn w B ⟨k, p, s, c, b, t, x, u⟩ v m) (hbig : m.length * 8 ≤ 140737488351232) :
    Calls Try.prog 70 #[pt B] w (TPost w B ⟨k, 5, s, c, b, y, x, u⟩ m (.tuple #[])) := by
  have HT := hide h
  have HS := hide hs
  have HY := hide hy
  have e1 : IntKind.u64.wrap (b - 1) = b1 := by rw [wrap_w]; exact hb1
  obtain ⟨z0, hz0⟩ : ∃ z0, w64 (y - b1) = z0 := ⟨_, rfl⟩
  have e2 : IntKind.u64.wrap (y - b1) = z0 := by rw [wrap_w]; exact hz0
  have e3 : IntKind.i64.wrap z0 = z := by rw [wrap_s, ← hz0, s64_w64]; exact hz
  have e4 : wrap64 z0 = z := by rw [wrap64_s, ← hz0, s64_w64]; exact hz
  clear hs hy hz hb1 hz0
  have d0 : decide (0 < z) = true := decide_eq_true hc
  clear h
  go_enter Try.func70, Try.ntmps70
  go_wp2_with fail
  (with_reducible refine (seeTop_any B k p s c b t x u v m s y HS.out HY.out _ HT.out hbig).mono ?_)
  rintro e w2 ⟨v', rfl, hT2, hg⟩
  have c4 := hT2.c4
  have c5 := hT2.c5
  have HT2 := hide hT2
  have HG := hide hg
  clear hT2 hg
  go_wp2
  go_quiet (fail)
  all_goals
    have HP := hide (fun n => TPost.of (r := .tuple #[]) ((HT2.out.drewN n).p1 5) ((HG.out.drewN n).set 1 _))
    have f1 := fun n => (HT2.out.drewN n).unf 1
    have g1 := fun n => (HT2.out.drewN n).c1
    go_wp2
    go_end0
    exact HP.out _
set_option maxRecDepth 100000 in
set_option maxHeartbeats 2000000 in
theorem popSeesTop_no (B : Nat) (k p s c b t x u : Int) (v : Value) (m : List Int) (y z b1 : Int) (hs : s64 s = s) (hy : loadF m s = y) (hb1 : w64 (b - 1) = b1) (hz : s64 (y - b1) = z) (hc : ¬ 0 < z) (w : World) (h : Tn w B ⟨k, p, s, c, b, t, x, u⟩ v m) (hbig : m.length * 8 ≤ 140737488351232) :
    Calls Try.prog 70 #[pt B] w (TPost w B ⟨k, p, s, c, b, y, x, u⟩ m (.tuple #[])) := by
  have HT := hide h
  have HS := hide hs
  have HY := hide hy
  have e1 : IntKind.u64.wrap (b - 1) = b1 := by rw [wrap_w]; exact hb1
  obtain ⟨z0, hz0⟩ : ∃ z0, w64 (y - b1) = z0 := ⟨_, rfl⟩
  have e2 : IntKind.u64.wrap (y - b1) = z0 := by rw [wrap_w]; exact hz0
  have e3 : IntKind.i64.wrap z0 = z := by rw [wrap_s, ← hz0, s64_w64]; exact hz
  have e4 : wrap64 z0 = z := by rw [wrap64_s, ← hz0, s64_w64]; exact hz
  clear hs hy hz hb1 hz0
  have d0 : decide (0 < z) = false := decide_eq_false hc
  clear h
  go_enter Try.func70, Try.ntmps70
  go_wp2_with fail
  (with_reducible refine (seeTop_any B k p s c b t x u v m s y HS.out HY.out _ HT.out hbig).mono ?_)
  rintro e w2 ⟨v', rfl, hT2, hg⟩
  have c4 := hT2.c4
  have c5 := hT2.c5
  have HT2 := hide hT2
  have HG := hide hg
  clear hT2 hg
  go_wp2
  go_quiet (fail)
  all_goals
    have HP := hide (fun n => TPost.of (r := .tuple #[]) (HT2.out.drewN n) (HG.out.drewN n))
    go_wp2
    go_end0
    exact HP.out _
set_option maxRecDepth 100000 in
set_option maxHeartbeats 2000000 in
theorem stealSeesBottom_yes (B : Nat) (k p s c b t x u : Int) (v : Value) (m : List Int) (q y z : Int) (hs : s64 (s + 1) = q) (hy : loadF m q = y) (hz : s64 (y - t) = z) (hc : z ≤ 0) (w : World) (h : Tn w B ⟨k, p, s, c, b, t, x, u⟩ v m) (hbig : m.length * 8 ≤ 140737488351232) :
    Calls Try.prog 76 #[pt B] w (TPost w B ⟨k, p, s, c, y, t, x, 2⟩ m (.tuple #[])) := by
  have HT := hide h
  have HS := hide hs
  have HY := hide hy
  obtain ⟨z0, hz0⟩ : ∃ z0, w64 (y - t) = z0 := ⟨_, rfl⟩
  have e2 : IntKind.u64.wrap (y - t) = z0 := by rw [wrap_w]; exact hz0
  have e3 : IntKind.i64.wrap z0 = z := by rw [wrap_s, ← hz0, s64_w64]; exact hz
  have e4 : wrap64 z0 = z := by rw [wrap64_s, ← hz0, s64_w64]; exact hz
  clear hs hy hz hz0
  have d0 : decide (z ≤ 0) = true := decide_eq_true hc
  clear h
  go_enter Try.func76, Try.ntmps76
  go_wp2_with fail
  (with_reducible refine (seeBottom_any B k p s c b t x u v m q y HS.out HY.out _ HT.out hbig).mono ?_)
  rintro e w2 ⟨v', rfl, hT2, hg⟩
  have c4 := hT2.c4
  have c5 := hT2.c5
  have HT2 := hide hT2
  have HG := hide hg
  clear hT2 hg
  go_wp2
  go_quiet (fail)
  all_goals
    have HP := hide (fun n => TPost.of (r := .tuple #[]) ((HT2.out.drewN n).p7 2) ((HG.out.drewN n).set 7 _))
    have f7 := fun n => (HT2.out.drewN n).unf 7
    have g7 := fun n => (HT2.out.drewN n).c7
    go_wp2
    go_end0
    exact HP.out _
set_option maxRecDepth 100000 in
set_option maxHeartbeats 2000000 in
theorem stealSeesBottom_no (B : Nat) (k p s c b t x u : Int) (v : Value) (m : List Int) (q y z : Int) (hs : s64 (s + 1) = q) (hy : loadF m q = y) (hz : s64 (y - t) = z) (hc : ¬ z ≤ 0) (w : World) (h : Tn w B ⟨k, p, s, c, b, t, x, u⟩ v m) (hbig : m.length * 8 ≤ 140737488351232) :
    Calls Try.prog 76 #[pt B] w (TPost w B ⟨k, p, s, c, y, t, x, u⟩ m (.tuple #[])) := by
  have HT := hide h
  have HS := hide hs
  have HY := hide hy
  obtain ⟨z0, hz0⟩ : ∃ z0, w64 (y - t) = z0 := ⟨_, rfl⟩
  have e2 : IntKind.u64.wrap (y - t) = z0 := by rw [wrap_w]; exact hz0
  have e3 : IntKind.i64.wrap z0 = z := by rw [wrap_s, ← hz0, s64_w64]; exact hz
  have e4 : wrap64 z0 = z := by rw [wrap64_s, ← hz0, s64_w64]; exact hz
  clear hs hy hz hz0
  have d0 : decide (z ≤ 0) = false := decide_eq_false hc
  clear h
  go_enter Try.func76, Try.ntmps76
  go_wp2_with fail
  (with_reducible refine (seeBottom_any B k p s c b t x u v m q y HS.out HY.out _ HT.out hbig).mono ?_)
  rintro e w2 ⟨v', rfl, hT2, hg⟩
  have c4 := hT2.c4
  have c5 := hT2.c5
  have HT2 := hide hT2
  have HG := hide hg
  clear hT2 hg
  go_wp2
  go_quiet (fail)
  all_goals
    have HP := hide (fun n => TPost.of (r := .tuple #[]) (HT2.out.drewN n) (HG.out.drewN n))
    go_wp2
    go_end0
    exact HP.out _
end Go.Proofs.Ytimjlgglhonhkaa
