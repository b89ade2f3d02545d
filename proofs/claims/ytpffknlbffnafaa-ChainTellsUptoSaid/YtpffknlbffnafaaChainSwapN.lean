/- Layer chain: a machine that turns swaps the head: in vain. -/
import Derived.Test.YtpffknlbffnafaaChainTurn
import Derived.Test.YtpffknlbffnafaaChainPack
namespace Go.Proofs.Ytpffknlbffnafaa.ch
open Go.RowKit

set_option maxRecDepth 100000 in
set_option maxHeartbeats 2000000 in
theorem swapHead_N (B : Nat) (k p s c b t x u : Int) (v : Value) (m : List Int) (nd z : Int) (r : List Int) (hz : packF (verF b + 1) nd = z) (hr : swapF m s b z = r) (hy : swapsF m s b z = false) (w : World) (h : Tn w B ⟨k, p, s, c, b, t, x, u⟩ v m) (hbig : m.length * 8 ≤ 140737488351232) :
    Calls Try.prog 43 #[pt B, .int .i64 nd] w (TPost w B ⟨k, 0, s, c, b, t, x, u⟩ r (.bool false)) := by
  have HR := hide (show mF m ⟨3, s, b, z⟩ = r from hr)
  have HY := hide (show okF m ⟨3, s, b, z⟩ = false from hy)
  have HZ := hide (pack_w b nd z hz)
  have c2 := h.c2
  have c4 := h.c4
  have HT := hide h.drew
  clear hr hy h hz
  go_enter Try.func43, Try.ntmps43
  go_wp2_with fail
  (with_reducible refine (Pack_same _ nd z HZ.out _).mono ?_)
  rintro e w1 ⟨rfl, rfl⟩
  go_wp2
  go_region_with (first
    | (go_at_call 42; (with_reducible refine (do_any B _ v m 3 s b z _ HT.out hbig).mono ?_); rintro e w2 ⟨v', rfl, hT2, hg⟩; rw [HR.out] at hT2; rw [HY.out]))
  all_goals
    have f := hT2.unf 1
    have g := hT2.c1
    have HP := hide (TPost.of (r := .bool false) (hT2.p1 0) (hg.undrew.set 1 _))
    clear hT2 hg
    go_wp2
    go_ret
    exact HP.out
end Go.Proofs.Ytpffknlbffnafaa.ch
