/- Layer chain: a machine that turns puts and sees links. -/
import Derived.Test.YtpffknlbffnafaaChainTurn
import Derived.Test.YtpffknlbffnafaaChainPack
namespace Go.Proofs.Ytpffknlbffnafaa.ch
open Go.RowKit

set_option maxRecDepth 100000 in
set_option maxHeartbeats 2000000 in
theorem pushLinks_any (B : Nat) (k p s c b t x u : Int) (v : Value) (m : List Int) (q y : Int) (r : List Int) (hq : s64 (c + t) = q) (hy : nodeF b = y) (hr : storeF m q y = r) (w : World) (h : Tn w B ⟨k, p, s, c, b, t, x, u⟩ v m) (hbig : m.length * 8 ≤ 140737488351232) :
    Calls Try.prog 33 #[pt B] w (TPost w B ⟨k, p, s, c, b, t, x, u⟩ r (.tuple #[])) := by
  have HT := hide h.drew
  have HR := hide (show mF m ⟨2, q, y, 0⟩ = r from hr)
  have HY := hide hy
  have c3 := h.c3
  have c4 := h.c4
  have c5 := h.c5
  have e1 : IntKind.i64.wrap (c + t) = q := by rw [wrap_s]; exact hq
  have e2 : wrap64 (c + t) = q := by rw [wrap64_s]; exact hq
  have e3 : IntKind.u64.wrap y = y := by rw [← hy, wrap_w]; unfold w64 nodeF; omega
  clear hr hy h hq
  go_enter Try.func33, Try.ntmps33
  go_wp2
  go_still_tail 20, (by kernel_rfl)
  still_call (Node_same b y HY.out _)
  repeat still_step
  refine wpStill_nil ?_
  change wpList _ _ _ _ _ w.drew
  go_wp2_with fail
  (with_reducible refine (do_any B _ v m 2 q y 0 _ HT.out hbig).mono ?_)
  rintro e w2 ⟨v', rfl, hT2, hg0⟩
  rw [HR.out] at hT2
  have HP := hide (TPost.of (r := .tuple #[]) hT2 hg0.undrew)
  clear hT2 hg0
  go_wp2
  go_end0
  exact HP.out
set_option maxRecDepth 100000 in
set_option maxHeartbeats 2000000 in
theorem popSeesNext_any (B : Nat) (k p s c b t x u : Int) (v : Value) (m : List Int) (q nd y x1 : Int) (hn : nodeF b = nd) (hq : s64 (c + nd) = q) (hy : loadF m q = y) (hx : s64 y = x1) (w : World) (h : Tn w B ⟨k, p, s, c, b, t, x, u⟩ v m) (hbig : m.length * 8 ≤ 140737488351232) :
    Calls Try.prog 36 #[pt B] w (TPost w B ⟨k, p, s, c, b, t, x1, u⟩ m (.tuple #[])) := by
  have HT := hide h.drew
  have HY := hide hy
  have HN := hide hn
  have c3 := h.c3
  have c4 := h.c4
  have e1 : IntKind.i64.wrap y = x1 := by rw [wrap_s]; exact hx
  have e2 : wrap64 y = x1 := by rw [wrap64_s]; exact hx
  have e3 : IntKind.i64.wrap (c + nd) = q := by rw [wrap_s]; exact hq
  have e4 : wrap64 (c + nd) = q := by rw [wrap64_s]; exact hq
  clear hy h hn hq hx
  go_enter Try.func36, Try.ntmps36
  go_wp2
  go_region_with (first
    | (go_at_call 17; (with_reducible refine (Node_same b nd HN.out _).mono ?_); rintro e w3 ⟨rfl, rfl⟩)
    | (go_at_call 41; (with_reducible refine (load_any B _ v m q y HY.out _ HT.out hbig).mono ?_); rintro e w2 ⟨v', rfl, hT2, hg0⟩; have f6 := hT2.unf 6; have k6 := hT2.c6; have hg := hg0.undrew; have HP := hide (TPost.of (r := .tuple #[]) (hT2.p6 x1) (hg.set 6 _)); clear hT2 hg hg0))
  all_goals
    go_wp2
    go_end0
    exact HP.out
end Go.Proofs.Ytpffknlbffnafaa.ch
