/- Layer deque: what a machine that turns sees. -/
import Derived.Test.YtimjlgglhonhkaaDequeSize
namespace Go.Proofs.Ytimjlgglhonhkaa
open Go.RowKit

theorem size_same (n c : Int) (hn : I6 n) (hc : max n 1 = c) (w : World) : Calls Try.prog 51 #[.int .i64 n] w fun e w' => e = .returned (.int .u64 c) ∧ w' = w :=
  (size_any n c hn hc w).mono fun _ _ ⟨h1, h2⟩ => ⟨h1, h2.symm⟩
theorem Tn.drewN {w : World} {B : Nat} {d : Mc} {v : Value} {m : List Int} (h : Tn w B d v m) (n : Nat) : Tn (w.drewN n) B d v m := ⟨h.blk, h.mem, h.ne⟩
theorem grown_drewN {a w : World} {row : Option Nat} (h : a.grownBy w row) (n : Nat) : a.grownBy (w.drewN n) row := ⟨h.os, h.tape, h.output, h.size, h.block⟩
theorem grown_undrew {a w : World} {row : Option Nat} (h : a.drew.grownBy w row) : a.grownBy w row := ⟨h.os, h.tape, h.output, h.size, h.block⟩
theorem Tn.drew {w : World} {B : Nat} {d : Mc} {v : Value} {m : List Int} (h : Tn w B d v m) : Tn w.drew B d v m := ⟨h.blk, cells_drew h.mem, h.ne⟩

set_option maxRecDepth 100000 in
set_option maxHeartbeats 2000000 in
theorem seeBottom_any (B : Nat) (k p s c b t x u : Int) (v : Value) (m : List Int) (q y : Int) (hq : s64 (s + 1) = q) (hy : loadF m q = y) (w : World) (h : Tn w B ⟨k, p, s, c, b, t, x, u⟩ v m) (hbig : m.length * 8 ≤ 140737488351232) :
    Calls Try.prog 65 #[pt B] w (TPost w B ⟨k, p, s, c, y, t, x, u⟩ m (.tuple #[])) := by
  have HY := hide hy
  have HT := hide h
  have c2 := h.c2
  have e1 : IntKind.i64.wrap (s + 1) = q := by rw [wrap_s]; exact hq
  have e2 : wrap64 (s + 1) = q := by rw [wrap64_s]; exact hq
  clear hq hy h
  go_enter Try.func65, Try.ntmps65
  go_wp2_with fail
  (with_reducible refine (load_any B _ v m q y HY.out _ HT.out hbig).mono ?_)
  rintro e w2 ⟨v', rfl, hT2, hg⟩
  have HP := hide (TPost.of (r := .tuple #[]) (hT2.p4 y) (hg.set 4 _))
  have c4 := hT2.c4
  have f4 := hT2.unf 4
  clear hT2 hg
  go_wp2
  go_end0
  exact HP.out
set_option maxRecDepth 100000 in
set_option maxHeartbeats 2000000 in
theorem seeTop_any (B : Nat) (k p s c b t x u : Int) (v : Value) (m : List Int) (q y : Int) (hq : s64 s = q) (hy : loadF m q = y) (w : World) (h : Tn w B ⟨k, p, s, c, b, t, x, u⟩ v m) (hbig : m.length * 8 ≤ 140737488351232) :
    Calls Try.prog 75 #[pt B] w (TPost w B ⟨k, p, s, c, b, y, x, u⟩ m (.tuple #[])) := by
  have HY := hide hy
  have HT := hide h
  have c2 := h.c2
  have e1 : IntKind.i64.wrap (s + 0) = q := by rw [wrap_s, Int.add_zero]; exact hq
  have e2 : IntKind.i64.wrap s = q := by rw [wrap_s]; exact hq
  have e3 : wrap64 s = q := by rw [wrap64_s]; exact hq
  clear hq hy h
  go_enter Try.func75, Try.ntmps75
  go_wp2_with fail
  (with_reducible refine (load_any B _ v m q y HY.out _ HT.out hbig).mono ?_)
  rintro e w2 ⟨v', rfl, hT2, hg⟩
  have HP := hide (TPost.of (r := .tuple #[]) (hT2.p5 y) (hg.set 5 _))
  have c5 := hT2.c5
  have f5 := hT2.unf 5
  clear hT2 hg
  go_wp2
  go_end0
  exact HP.out
end Go.Proofs.Ytimjlgglhonhkaa
