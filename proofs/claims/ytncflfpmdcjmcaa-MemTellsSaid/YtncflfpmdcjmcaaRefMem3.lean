/- Layer mem: the document's own answer, with named values. -/
import Derived.Test.YtncflfpmdcjmcaaRefMem2
namespace Go.Proofs.Ytncflfpmdcjmcaa
open Go.RowKit

theorem cells_form {w : World} {v : Value} {l : List Int} (h : Cells w v l) : ∃ A c, v = .slice A l.length c ∧ l.length ≤ c ∧ c ≤ 2 ^ 63 - 1 := by
  obtain ⟨A, c, rfl, h1, h2, -⟩ := h
  exact ⟨A, c, rfl, h1, by unfold maxLen at h2; omega⟩
theorem rDo_c (v : Value) (m : List Int) (k t a b : Int) (w : World) (h : Cells w v m) (hbig : m.length * 8 ≤ 140737488351232) (r : List Int) (x : Int) (d : Bool) (hr : mF m ⟨k, t, a, b⟩ = r) (hx : vF m ⟨k, t, a, b⟩ = x) (hd : okF m ⟨k, t, a, b⟩ = d) (n : Nat) (hn : r.length = n) :
    Calls Try.prog 11 #[v, ov k t a b] w fun e w' => ∃ A c, e = .returned (.tuple #[.slice A n c, .int .u64 x, .bool d]) ∧ (n ≤ c ∧ c ≤ 2 ^ 63 - 1) ∧ Cells w' (.slice A n c) r ∧ Below w.heap.size w w' := by
  subst hn hr hx hd
  refine (rDo_any v m k t a b w h hbig).mono ?_
  rintro e w' ⟨v', rfl, ho, -, hb⟩
  obtain ⟨A, c, rfl, h1, h2⟩ := cells_form ho
  exact ⟨A, c, rfl, ⟨h1, h2⟩, ho, hb⟩
theorem rAll_c (v lv : Value) (m : List Int) (l : List Dd) (w : World) (h : Cells w v m) (hl : Dds w lv l) (hbig : m.length * 8 ≤ 140737488351232) (hbl : l.length * 8 ≤ 140737488355328) (r hd : List Int) (n : Int) (hr : allM m l = r) (hh : allV m l = hd) (hn : ((allN m l : Nat) : Int) = n) (p q : Nat) (hp : r.length = p) (hq : hd.length = q) :
    Calls Try.prog 14 #[v, lv] w fun e w' => ∃ A c H d, e = .returned (.tuple #[.slice A p c, .slice H q d, .int .i64 n]) ∧ (p ≤ c ∧ c ≤ 2 ^ 63 - 1) ∧ (q ≤ d ∧ d ≤ 2 ^ 63 - 1) ∧ Cells w' (.slice A p c) r ∧ Cells w' (.slice H q d) hd ∧ Below w.heap.size w w' := by
  subst hp hq hr hh hn
  refine (rAll_any v lv m l w h hl hbig hbl).mono ?_
  rintro e w' ⟨v', h', rfl, ho, hd, hb⟩
  obtain ⟨A, c, rfl, h1, h2⟩ := cells_form ho
  obtain ⟨H, d, rfl, h3, h4⟩ := own_form hd
  exact ⟨A, c, H, d, rfl, ⟨h1, h2⟩, ⟨h3, by unfold maxLen at h4; omega⟩, ho, hd.cells, hb⟩
theorem same_true {va vb : Value} (a : List Int) (w : World) (ha : Cells w va a) (hb : Cells w vb a) :
    Calls Try.prog 15 #[va, vb] w fun e w' => e = .returned (.bool true) ∧ Below w.heap.size w w' :=
  (same_any va vb a a w ha hb).mono fun e w' ⟨h1, h2⟩ => ⟨by rw [h1, decide_eq_true rfl], h2⟩
theorem rSame_e {va vb : Value} (a b : List Int) (w : World) (ha : Cells w va a) (hb : Cells w vb b) (E : Bool) (hE : decide (a = b) = E) :
    Calls Try.prog 16 #[va, vb] w fun e w' => e = .returned (.bool E) ∧ Below w.heap.size w w' :=
  (rSame_any va vb a b w ha hb).mono fun e w' ⟨h1, h2⟩ => ⟨by rw [h1, hE], h2⟩
theorem Same_e {va vb : Value} (a b : List Int) (w : World) (ha : Cells w va a) (hb : Cells w vb b) (E : Bool) (hE : decide (a = b) = E) :
    Calls Try.prog 17 #[va, vb] w fun e w' => e = .returned (.bool E) ∧ Below w.heap.size w w' :=
  (Same_any va vb a b w ha hb).mono fun e w' ⟨h1, h2⟩ => ⟨by rw [h1, hE], h2⟩
theorem infoROp : (Try.prog.info? 33).map (fun i => (i.zero, i.size, i.bytes)) = some (some (.agg #[.int .i64 0, .int .i64 0, .int .u64 0, .int .u64 0]), 4, 32) := by kernel_rfl
theorem oc_take (l : List Dd) (k : Nat) (hk : k < l.length) (x t a b : Int) (h : l[k] = ⟨x, t, a, b⟩) : (l.take (k + 1)).flatMap oc = (l.take k).flatMap oc ++ [.int .i64 x, .int .i64 t, .int .u64 a, .int .u64 b] := by
  rw [List.take_succ_eq_append_getElem hk, List.flatMap_append, h]; rfl
end Go.Proofs.Ytncflfpmdcjmcaa
