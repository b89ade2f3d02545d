/- Layer chain: the deeds of a machine that turns: do, load, seeHead. -/
import Derived.Test.YtpffknlbffnafaaChainMach
import Derived.Test.YtpffknlbffnafaaDequeTurn
import Derived.StillTailTactics
namespace Go.Proofs.Ytpffknlbffnafaa.ch
open Go.RowKit

set_option maxRecDepth 100000 in
set_option maxHeartbeats 2000000 in
theorem do_any (B : Nat) (d : Cm) (v : Value) (m : List Int) (k t a b : Int) (w : World) (h : Tn w B d v m) (hbig : m.length * 8 ≤ 140737488351232) :
    Calls Try.prog 42 #[pt B, ov k t a b] w (TPost w B d (mF m ⟨k, t, a, b⟩) (.tuple #[.int .u64 (vF m ⟨k, t, a, b⟩), .bool (okF m ⟨k, t, a, b⟩)])) := by
  obtain ⟨w1, e1, hb1, hs1, c0, c1, c2, c3⟩ := box4 w (.int .i64 k) (.int .i64 t) (.int .u64 a) (.int .u64 b) 68
  have HE := hide e1
  have hlt := h.lt
  have HT := hide (h.below hb1)
  have g8 : w1.cell? ⟨B, 8, none⟩ = some v := HT.out.cell 8
  obtain ⟨A, c, rfl, hc1, hc2⟩ := cells_form' h.mem
  clear e1 h
  obtain ⟨x, hx⟩ : ∃ x, vF m ⟨k, t, a, b⟩ = x := ⟨_, rfl⟩
  obtain ⟨y, hy⟩ : ∃ y, okF m ⟨k, t, a, b⟩ = y := ⟨_, rfl⟩
  obtain ⟨R, hR⟩ : ∃ R, mF m ⟨k, t, a, b⟩ = R := ⟨_, rfl⟩
  have HR := hide hR
  have HX := hide hx
  have HY := hide hy
  have HS := hide hs1
  clear hs1
  rw [hx, hy, hR]
  clear hx hy hR
  go_enter Try.func42, Try.ntmps42
  have HC := hide (cells_drew HT.out.mem)
  go_wp2
  rw [HE.out]
  go_region_with (first
    | (go_at_call 48; (with_reducible refine (Do_any _ m k t a b _ HC.out hbig).mono ?_); rintro e w2 ⟨v', rfl, hown, hb2⟩; rw [HX.out, HY.out]; rw [HR.out] at hown))
  all_goals
    have hb2 := undrew hb2
    have hT2 := HT.out.below hb2
    have HP := hide (hT2.put_mem hown.cells (fun _ => own_ne hown (show B < w1.heap.size by have := HS.out; omega)))
    have HG := hide (show Gn w B v' (w2.setCell ⟨B, 8, none⟩ v') from ⟨grown_trans (grown_below (bcall hb1 hb2) (some B)) (grown_set w2 B 8 v'), fun y hy => Nat.le_trans (by have := HS.out; show w.heap.size ≤ w1.heap.size; omega) (hown.lt y hy).1⟩)
    have f8 := hT2.unf 8
    have g8 : w2.cell? ⟨B, 8, none⟩ = some (.slice A m.length c) := hT2.cell 8
    obtain ⟨A', c', hv', hc1', hc2'⟩ := own_form hown
    subst hv'
    clear hT2 hb2 hown
    go_wp2
    go_ret2
    exact ⟨_, rfl, HP.out, HG.out⟩

set_option maxRecDepth 100000 in
set_option maxHeartbeats 2000000 in
theorem load_any (B : Nat) (d : Cm) (v : Value) (m : List Int) (p x : Int) (hx : loadF m p = x) (w : World) (h : Tn w B d v m) (hbig : m.length * 8 ≤ 140737488351232) :
    Calls Try.prog 41 #[pt B, .int .i64 p] w (TPost w B d m (.int .u64 x)) := by
  have HX := hide (show vF m ⟨1, p, 0, 0⟩ = x from hx)
  have HT := hide h
  clear hx h
  go_enter Try.func41, Try.ntmps41
  go_wp2_with fail
  (with_reducible refine (do_any B d v m 1 p 0 0 _ HT.out hbig).mono ?_)
  rintro e w2 ⟨v', rfl, hT2, hg⟩
  rw [HX.out]
  rw [mF_load] at hT2
  have HP := hide (TPost.of (r := .int .u64 x) hT2 hg)
  clear hT2 hg
  go_wp2
  go_ret
  exact HP.out
set_option maxRecDepth 100000 in
set_option maxHeartbeats 2000000 in
theorem seeHead_any (B : Nat) (k p s c b t x u : Int) (v : Value) (m : List Int) (y : Int) (hy : loadF m s = y) (w : World) (h : Tn w B ⟨k, p, s, c, b, t, x, u⟩ v m) (hbig : m.length * 8 ≤ 140737488351232) :
    Calls Try.prog 32 #[pt B] w (TPost w B ⟨k, p, s, c, y, t, x, u⟩ m (.tuple #[])) := by
  have HY := hide hy
  have HT := hide h
  have c2 := h.c2
  clear hy h
  go_enter Try.func32, Try.ntmps32
  go_wp2_with fail
  (with_reducible refine (load_any B _ v m s y HY.out _ HT.out hbig).mono ?_)
  rintro e w2 ⟨v', rfl, hT2, hg⟩
  have HP := hide (TPost.of (r := .tuple #[]) (hT2.p4 y) (hg.set 4 _))
  have c4 := hT2.c4
  have f4 := hT2.unf 4
  clear hT2 hg
  go_wp2
  go_end0
  exact HP.out
end Go.Proofs.Ytpffknlbffnafaa.ch
