/- Layer deque: a machine that turns swaps TOP. -/
import Derived.Test.YtimjlgglhonhkaaDequeTurn
namespace Go.Proofs.Ytimjlgglhonhkaa
open Go.RowKit

set_option maxRecDepth 100000 in
set_option maxHeartbeats 2000000 in
theorem takeTop_any (B : Nat) (k p s c b t x u : Int) (v : Value) (m : List Int) (hs : I6 s) (r : List Int) (hr : swapF m s t (w64 (t + 1)) = r) (y : Bool) (hy : swapsF m s t (w64 (t + 1)) = y) (w : World) (h : Tn w B ⟨k, p, s, c, b, t, x, u⟩ v m) (hbig : m.length * 8 ≤ 140737488351232) :
    Calls Try.prog 94 #[pt B] w (TPost w B ⟨k, p, s, c, b, t, x, u⟩ r (.bool y)) := by
  obtain ⟨z, hz⟩ : ∃ z, w64 (t + 1) = z := ⟨_, rfl⟩
  rw [hz] at hr hy
  have HR := hide (show mF m ⟨3, s, t, z⟩ = r from hr)
  have HY := hide (show okF m ⟨3, s, t, z⟩ = y from hy)
  have c2 := h.c2
  have c5 := h.c5
  have HT := hide (show Tn w.drew B ⟨k, p, s, c, b, t, x, u⟩ v m from ⟨h.blk, cells_drew h.mem, h.ne⟩)
  have e1 : IntKind.u64.wrap (t + 1) = z := by rw [wrap_w]; exact hz
  have e2 : IntKind.i64.wrap (s + 0) = s := by rw [wrap_s, Int.add_zero]; exact s64_small hs.1 hs.2
  have e3 : IntKind.i64.wrap s = s := by rw [wrap_s]; exact s64_small hs.1 hs.2
  have e4 : wrap64 s = s := by rw [wrap64_s]; exact s64_small hs.1 hs.2
  clear hr hy h hz
  go_enter Try.func94, Try.ntmps94
  go_wp2
  go_region_with (first
    | (go_at_call 104; (with_reducible refine (do_any B _ v m 3 s t z _ HT.out hbig).mono ?_); rintro e w2 ⟨v', rfl, hT2, hg⟩; rw [HR.out] at hT2; rw [HY.out]))
  all_goals
    have HP := hide (TPost.of (r := .bool y) hT2 hg.undrew)
    clear hT2 hg
    go_wp2
    go_ret
    exact HP.out
end Go.Proofs.Ytimjlgglhonhkaa
