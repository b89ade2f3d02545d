/- Layer deque: the deeds of a machine that turns: do, load, store, takeTop. -/
import Derived.Test.YtimjlgglhonhkaaDequeMach
import Derived.StillTailTactics
namespace Go.Proofs.Ytimjlgglhonhkaa
open Go.RowKit

abbrev pt (B : Nat) : Value := .pointer (some ⟨B, 0, none⟩)
theorem own_ne {w : World} {base n B : Nat} {e : TypeId} {v : Value} {xs : List Value} (h : w.ownsRow base e 1 v n xs) (hB : B < base) : ∀ x, v.ownBlock = some x → x ≠ B := fun x hx e => by
  have := (h.lt x hx).1; omega
theorem cells_form' {w : World} {v : Value} {l : List Int} (h : Cells w v l) : ∃ A c, v = .slice A l.length c ∧ l.length ≤ c ∧ c ≤ 9223372036854775807 := by
  obtain ⟨A, c, rfl, h1, h2, -⟩ := h
  exact ⟨A, c, rfl, h1, by unfold maxLen at h2; omega⟩
theorem mF_load (m : List Int) (a : Int) : mF m ⟨1, a, 0, 0⟩ = m := by
  by_cases h : (1 ≤ (1 : Int) ∧ (1 : Int) ≤ 4) ∧ 0 ≤ a ∧ a < (m.length : Int)
  · rw [(at_on (o := ⟨1, a, 0, 0⟩) h).2.2]
    exact set_self (o := ⟨1, a, 0, 0⟩)
  · exact (at_off (o := ⟨1, a, 0, 0⟩) h).2.2

set_option maxRecDepth 100000 in
set_option maxHeartbeats 2000000 in
theorem do_any (B : Nat) (d : Mc) (v : Value) (m : List Int) (k t a b : Int) (w : World) (h : Tn w B d v m) (hbig : m.length * 8 ≤ 140737488351232) :
    Calls Try.prog 104 #[pt B, ov k t a b] w (TPost w B d (mF m ⟨k, t, a, b⟩) (.tuple #[.int .u64 (vF m ⟨k, t, a, b⟩), .bool (okF m ⟨k, t, a, b⟩)])) := by
  obtain ⟨w1, e1, hb1, hs1, c0, c1, c2, c3⟩ := box4 w (.int .i64 k) (.int .i64 t) (.int .u64 a) (.int .u64 b) 103
  have HE := hide e1
  have hlt := h.lt
  have HT := hide (h.below hb1)
  have g8 : w1.cell? ⟨B, 8, none⟩ = some v := HT.out.cell 8
  obtain ⟨A, c, rfl, hc1, hc2⟩ := cells_form' h.mem
  clear e1 h
  obtain ⟨x, hx⟩ : ∃ x, vF m ⟨k, t, a, b⟩ = x := ⟨_, rfl⟩
  obtain ⟨y, hy⟩ : ∃ y, okF m ⟨k, t, a, b⟩ = y := ⟨_, rfl⟩
  obtain ⟨R, hR⟩ : ∃ R, mF m ⟨k, t, a, b⟩ = R := ⟨_, rfl⟩
  have HR := hide hR
  have HX := hide hx
  have HY := hide hy
  have HS := hide hs1
  clear hs1
  rw [hx, hy, hR]
  clear hx hy hR
  go_enter Try.func104, Try.ntmps104
  have HC := hide (cells_drew HT.out.mem)
  go_wp2
  rw [HE.out]
  go_region_with (first
    | (go_at_call 105; (with_reducible refine (Do_any _ m k t a b _ HC.out hbig).mono ?_); rintro e w2 ⟨v', rfl, hown, hb2⟩; rw [HX.out, HY.out]; rw [HR.out] at hown))
  all_goals
    have hb2 := undrew hb2
    have hT2 := HT.out.below hb2
    have HP := hide (hT2.put_mem hown.cells (fun _ => own_ne hown (show B < w1.heap.size by have := HS.out; omega)))
    have HG := hide (show Gn w B v' (w2.setCell ⟨B, 8, none⟩ v') from ⟨grown_trans (grown_below (bcall hb1 hb2) (some B)) (grown_set w2 B 8 v'), fun y hy => Nat.le_trans (by have := HS.out; show w.heap.size ≤ w1.heap.size; omega) (hown.lt y hy).1⟩)
    have f8 := hT2.unf 8
    have g8 : w2.cell? ⟨B, 8, none⟩ = some (.slice A m.length c) := hT2.cell 8
    obtain ⟨A', c', hv', hc1', hc2'⟩ := own_form hown
    subst hv'
    clear hT2 hb2 hown
    go_wp2
    go_ret2
    exact ⟨_, rfl, HP.out, HG.out⟩

theorem TPost.of {w w' : World} {B : Nat} {d : Mc} {v : Value} {m : List Int} {r : Value} (h : Tn w' B d v m) (hg : Gn w B v w') : TPost w B d m r (.returned r) w' := ⟨v, rfl, h, hg⟩
theorem wrap_s (n : Int) : IntKind.i64.wrap n = s64 n := by
  simp [IntKind.wrap, IntKind.bits, IntKind.signed, s64]; try omega
theorem wrap64_s (n : Int) : wrap64 n = s64 n := by unfold wrap64 s64; try omega
theorem wrap_w (n : Int) : IntKind.u64.wrap n = w64 n := wrap_u n

set_option maxRecDepth 100000 in
set_option maxHeartbeats 2000000 in
theorem load_any (B : Nat) (d : Mc) (v : Value) (m : List Int) (p x : Int) (hx : loadF m p = x) (w : World) (h : Tn w B d v m) (hbig : m.length * 8 ≤ 140737488351232) :
    Calls Try.prog 92 #[pt B, .int .i64 p] w (TPost w B d m (.int .u64 x)) := by
  have HX := hide (show vF m ⟨1, p, 0, 0⟩ = x from hx)
  have HT := hide h
  clear hx h
  go_enter Try.func92, Try.ntmps92
  go_wp2_with fail
  (with_reducible refine (do_any B d v m 1 p 0 0 _ HT.out hbig).mono ?_)
  rintro e w2 ⟨v', rfl, hT2, hg⟩
  rw [HX.out]
  rw [mF_load] at hT2
  have HP := hide (TPost.of (r := .int .u64 x) hT2 hg)
  clear hT2 hg
  go_wp2
  go_ret
  exact HP.out
set_option maxRecDepth 100000 in
set_option maxHeartbeats 2000000 in
theorem store_any (B : Nat) (d : Mc) (v : Value) (m : List Int) (p x : Int) (r : List Int) (hr : storeF m p x = r) (w : World) (h : Tn w B d v m) (hbig : m.length * 8 ≤ 140737488351232) :
    Calls Try.prog 93 #[pt B, .int .i64 p, .int .u64 x] w (TPost w B d r (.tuple #[])) := by
  have HX := hide (show mF m ⟨2, p, x, 0⟩ = r from hr)
  have HT := hide h
  clear hr h
  go_enter Try.func93, Try.ntmps93
  go_wp2_with fail
  (with_reducible refine (do_any B d v m 2 p x 0 _ HT.out hbig).mono ?_)
  rintro e w2 ⟨v', rfl, hT2, hg⟩
  rw [HX.out] at hT2
  have HP := hide (TPost.of (r := .tuple #[]) hT2 hg)
  clear hT2 hg
  go_wp2
  go_end0
  exact HP.out
section
variable {w : World} {B : Nat} {k p s c b t x u : Int} {v : Value} {m : List Int}
theorem Tn.c0 (h : Tn w B ⟨k, p, s, c, b, t, x, u⟩ v m) : w.cell? ⟨B, 0, none⟩ = some (.int .i64 k) := h.cell 0
theorem Tn.c1 (h : Tn w B ⟨k, p, s, c, b, t, x, u⟩ v m) : w.cell? ⟨B, 1, none⟩ = some (.int .i64 p) := h.cell 1
theorem Tn.c2 (h : Tn w B ⟨k, p, s, c, b, t, x, u⟩ v m) : w.cell? ⟨B, 2, none⟩ = some (.int .i64 s) := h.cell 2
theorem Tn.c3 (h : Tn w B ⟨k, p, s, c, b, t, x, u⟩ v m) : w.cell? ⟨B, 3, none⟩ = some (.int .i64 c) := h.cell 3
theorem Tn.c4 (h : Tn w B ⟨k, p, s, c, b, t, x, u⟩ v m) : w.cell? ⟨B, 4, none⟩ = some (.int .u64 b) := h.cell 4
theorem Tn.c5 (h : Tn w B ⟨k, p, s, c, b, t, x, u⟩ v m) : w.cell? ⟨B, 5, none⟩ = some (.int .u64 t) := h.cell 5
theorem Tn.c6 (h : Tn w B ⟨k, p, s, c, b, t, x, u⟩ v m) : w.cell? ⟨B, 6, none⟩ = some (.int .i64 x) := h.cell 6
theorem Tn.c7 (h : Tn w B ⟨k, p, s, c, b, t, x, u⟩ v m) : w.cell? ⟨B, 7, none⟩ = some (.int .i64 u) := h.cell 7
theorem Tn.p1 (h : Tn w B ⟨k, p, s, c, b, t, x, u⟩ v m) (y : Int) : Tn (w.setCell ⟨B, 1, none⟩ (.int .i64 y)) B ⟨k, y, s, c, b, t, x, u⟩ v m := h.put 1 _ rfl
theorem Tn.p4 (h : Tn w B ⟨k, p, s, c, b, t, x, u⟩ v m) (y : Int) : Tn (w.setCell ⟨B, 4, none⟩ (.int .u64 y)) B ⟨k, p, s, c, y, t, x, u⟩ v m := h.put 4 _ rfl
theorem Tn.p5 (h : Tn w B ⟨k, p, s, c, b, t, x, u⟩ v m) (y : Int) : Tn (w.setCell ⟨B, 5, none⟩ (.int .u64 y)) B ⟨k, p, s, c, b, y, x, u⟩ v m := h.put 5 _ rfl
theorem Tn.p6 (h : Tn w B ⟨k, p, s, c, b, t, x, u⟩ v m) (y : Int) : Tn (w.setCell ⟨B, 6, none⟩ (.int .i64 y)) B ⟨k, p, s, c, b, t, y, u⟩ v m := h.put 6 _ rfl
theorem Tn.p7 (h : Tn w B ⟨k, p, s, c, b, t, x, u⟩ v m) (y : Int) : Tn (w.setCell ⟨B, 7, none⟩ (.int .i64 y)) B ⟨k, p, s, c, b, t, x, y⟩ v m := h.put 7 _ rfl
end
end Go.Proofs.Ytimjlgglhonhkaa
