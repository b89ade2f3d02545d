/- Layer chain: what a machine that turns does with the head. -/
import Derived.Test.YtpffknlbffnafaaChainSwapY
import Derived.Test.YtpffknlbffnafaaChainSwapN
namespace Go.Proofs.Ytpffknlbffnafaa.ch
open Go.RowKit

set_option maxRecDepth 100000 in
set_option maxHeartbeats 2000000 in
theorem pushSwaps_Y (B : Nat) (k p s c b t x u : Int) (v : Value) (m : List Int) (z : Int) (r : List Int) (hz : packF (verF b + 1) t = z) (hr : swapF m s b z = r) (hy : swapsF m s b z = true) (w : World) (h : Tn w B ⟨k, p, s, c, b, t, x, u⟩ v m) (hbig : m.length * 8 ≤ 140737488351232) :
    Calls Try.prog 34 #[pt B] w (TPost w B ⟨k, p, s, c, b, t, x, 1⟩ r (.tuple #[])) := by
  have HR := hide hr
  have HY := hide hy
  have HZ := hide hz
  have HT := hide h
  have c5 := h.c5
  clear hr hy h hz
  go_enter Try.func34, Try.ntmps34
  go_wp2_with fail
  (with_reducible refine (swapHead_Y B k p s c b t x u v m t z r HZ.out HR.out HY.out _ HT.out hbig).mono ?_)
  rintro e w2 ⟨v', rfl, hT2, hg⟩
  have HP := hide (TPost.of (r := .tuple #[]) hT2 hg)
  clear hT2 hg
  go_wp2
  go_end0
  exact HP.out
set_option maxRecDepth 100000 in
set_option maxHeartbeats 2000000 in
theorem popSwaps_Y (B : Nat) (k p s c b t x u : Int) (v : Value) (m : List Int) (nd z : Int) (r : List Int) (hn : nodeF b = nd) (hz : packF (verF b + 1) x = z) (hr : swapF m s b z = r) (hy : swapsF m s b z = true) (w : World) (h : Tn w B ⟨k, p, s, c, b, t, x, u⟩ v m) (hbig : m.length * 8 ≤ 140737488351232) :
    Calls Try.prog 37 #[pt B] w (TPost w B ⟨k, p, s, c, b, nd, x, 1⟩ r (.tuple #[])) := by
  have HR := hide hr
  have HY := hide hy
  have HZ := hide hz
  have HT := hide h
  have c6 := h.c6
  have HN := hide hn
  clear hn
  clear hr hy h hz
  go_enter Try.func37, Try.ntmps37
  go_wp2_with fail
  (with_reducible refine (swapHead_Y B k p s c b t x u v m x z r HZ.out HR.out HY.out _ HT.out hbig).mono ?_)
  rintro e w2 ⟨v', rfl, hT2, hg⟩
  have c4 := hT2.c4
  have c5 := hT2.c5
  have f5 := hT2.unf 5
  have HP := hide (TPost.of (r := .tuple #[]) (hT2.p5 nd) (hg.set 5 _))
  clear hT2 hg
  go_wp2_with fail
  (with_reducible refine (Node_same b nd HN.out _).mono ?_)
  rintro e w3 ⟨rfl, rfl⟩
  go_wp2
  go_end0
  exact HP.out
set_option maxRecDepth 100000 in
set_option maxHeartbeats 2000000 in
theorem pushSwaps_N (B : Nat) (k p s c b t x u : Int) (v : Value) (m : List Int) (z : Int) (r : List Int) (hz : packF (verF b + 1) t = z) (hr : swapF m s b z = r) (hy : swapsF m s b z = false) (w : World) (h : Tn w B ⟨k, p, s, c, b, t, x, u⟩ v m) (hbig : m.length * 8 ≤ 140737488351232) :
    Calls Try.prog 34 #[pt B] w (TPost w B ⟨k, 0, s, c, b, t, x, u⟩ r (.tuple #[])) := by
  have HR := hide hr
  have HY := hide hy
  have HZ := hide hz
  have HT := hide h
  have c5 := h.c5
  clear hr hy h hz
  go_enter Try.func34, Try.ntmps34
  go_wp2_with fail
  (with_reducible refine (swapHead_N B k p s c b t x u v m t z r HZ.out HR.out HY.out _ HT.out hbig).mono ?_)
  rintro e w2 ⟨v', rfl, hT2, hg⟩
  have HP := hide (TPost.of (r := .tuple #[]) hT2 hg)
  clear hT2 hg
  go_wp2
  go_end0
  exact HP.out
set_option maxRecDepth 100000 in
set_option maxHeartbeats 2000000 in
theorem popSwaps_N (B : Nat) (k p s c b t x u : Int) (v : Value) (m : List Int) (z : Int) (r : List Int) (hz : packF (verF b + 1) x = z) (hr : swapF m s b z = r) (hy : swapsF m s b z = false) (w : World) (h : Tn w B ⟨k, p, s, c, b, t, x, u⟩ v m) (hbig : m.length * 8 ≤ 140737488351232) :
    Calls Try.prog 37 #[pt B] w (TPost w B ⟨k, 0, s, c, b, t, x, u⟩ r (.tuple #[])) := by
  have HR := hide hr
  have HY := hide hy
  have HZ := hide hz
  have HT := hide h
  have c6 := h.c6
  clear hr hy h hz
  go_enter Try.func37, Try.ntmps37
  go_wp2_with fail
  (with_reducible refine (swapHead_N B k p s c b t x u v m x z r HZ.out HR.out HY.out _ HT.out hbig).mono ?_)
  rintro e w2 ⟨v', rfl, hT2, hg⟩
  have HP := hide (TPost.of (r := .tuple #[]) hT2 hg)
  clear hT2 hg
  go_wp2
  go_end0
  exact HP.out
set_option maxRecDepth 100000 in
set_option maxHeartbeats 2000000 in
theorem popSeesHead_Y (B : Nat) (k p s c b t x u : Int) (v : Value) (m : List Int) (y nd : Int) (hy : loadF m s = y) (hn : nodeF y = nd) (h0 : nd = 0) (w : World) (h : Tn w B ⟨k, p, s, c, b, t, x, u⟩ v m) (hbig : m.length * 8 ≤ 140737488351232) :
    Calls Try.prog 35 #[pt B] w (TPost w B ⟨k, p, s, c, y, t, x, 2⟩ m (.tuple #[])) := by
  have HY := hide hy
  have HN := hide hn
  have HT := hide h
  have q0 : (nd == 0) = true := by simp [h0]
  clear hy hn h h0
  go_enter Try.func35, Try.ntmps35
  go_wp2_with fail
  (with_reducible refine (seeHead_any B k p s c b t x u v m y HY.out _ HT.out hbig).mono ?_)
  rintro e w2 ⟨v', rfl, hT2, hg⟩
  have c4 := hT2.c4
  have c7 := hT2.c7
  have f7 := hT2.unf 7
  have HP := hide (TPost.of (r := .tuple #[]) (hT2.p7 2) (hg.set 7 _))
  clear hT2 hg
  go_wp2_with fail
  (with_reducible refine (Node_same y nd HN.out _).mono ?_)
  rintro e w3 ⟨rfl, rfl⟩
  go_wp2
  go_end0
  exact HP.out
set_option maxRecDepth 100000 in
set_option maxHeartbeats 2000000 in
theorem popSeesHead_N (B : Nat) (k p s c b t x u : Int) (v : Value) (m : List Int) (y nd : Int) (hy : loadF m s = y) (hn : nodeF y = nd) (h0 : nd ≠ 0) (w : World) (h : Tn w B ⟨k, p, s, c, b, t, x, u⟩ v m) (hbig : m.length * 8 ≤ 140737488351232) :
    Calls Try.prog 35 #[pt B] w (TPost w B ⟨k, p, s, c, y, t, x, u⟩ m (.tuple #[])) := by
  have HY := hide hy
  have HN := hide hn
  have HT := hide h
  have q0 : (nd == 0) = false := by simp [h0]
  clear hy hn h h0
  go_enter Try.func35, Try.ntmps35
  go_wp2_with fail
  (with_reducible refine (seeHead_any B k p s c b t x u v m y HY.out _ HT.out hbig).mono ?_)
  rintro e w2 ⟨v', rfl, hT2, hg⟩
  have c4 := hT2.c4
  have HP := hide (TPost.of (r := .tuple #[]) hT2 hg)
  clear hT2 hg
  go_wp2_with fail
  (with_reducible refine (Node_same y nd HN.out _).mono ?_)
  rintro e w3 ⟨rfl, rfl⟩
  go_wp2
  go_end0
  exact HP.out
end Go.Proofs.Ytpffknlbffnafaa.ch
