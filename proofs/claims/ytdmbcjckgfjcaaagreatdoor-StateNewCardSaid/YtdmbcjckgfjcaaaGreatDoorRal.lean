import Derived.StillTailTactics
import Derived.Deep.Cut
import Derived.Shelf.Abstract
import Derived.Deep.OwnRows
import Derived.Test.YtdmbcjckgfjcaaaGreatDoorRac
/- Layer deque: the deeds of a machine that turns: do, load, store, takeTop. -/
namespace Go.Proofs.YtdmbcjckgfjcaaaGreatDoor
open Go.RowKit
theorem cells_form' {w : World} {v : Value} {l : List Int} (h : Cells w v l) : ∃ A c, v = .slice A l.length c ∧ l.length ≤ c ∧ c ≤ 9223372036854775807 := by
  obtain ⟨A, c, rfl, h1, h2, -⟩ := h
  exact ⟨A, c, rfl, h1, by unfold maxLen at h2; omega⟩
theorem mF_load (m : List Int) (a : Int) : mF m ⟨1, a, 0, 0⟩ = m := by
  by_cases h : (1 ≤ (1 : Int) ∧ (1 : Int) ≤ 4) ∧ 0 ≤ a ∧ a < (m.length : Int)
  · rw [(at_on (o := ⟨1, a, 0, 0⟩) h).2.2]
    exact set_self (o := ⟨1, a, 0, 0⟩)
  · exact (at_off (o := ⟨1, a, 0, 0⟩) h).2.2
theorem wrap_sDq (n : Int) : IntKind.i64.wrap n = s64 n := by
  simp [IntKind.wrap, IntKind.bits, IntKind.signed, s64]; try omega
theorem wrap64_s (n : Int) : wrap64 n = s64 n := by unfold wrap64 s64; try omega
theorem wrap_w (n : Int) : IntKind.u64.wrap n = w64 n := wrap_u n
end Go.Proofs.YtdmbcjckgfjcaaaGreatDoor
/- Layer chain: Pack, Node, Start. -/
namespace Go.Proofs.YtdmbcjckgfjcaaaGreatDoor.ch
open Go.RowKit
theorem or_lit (a b : Nat) (ha : a < 4294967296) (hb : b < 4294967296) : bits .or .u64 ((a * 4294967296 : Nat) : Int) (b : Int) = ((a * 4294967296 + b : Nat) : Int) := by
  have hA : a * 4294967296 < 18446744073709551616 := by omega
  have e : a * 4294967296 ||| b = a * 4294967296 + b := by
    have := Nat.two_pow_add_eq_or_of_lt (i := 32) (b := b) hb a
    rw [show 2 ^ 32 = 4294967296 from rfl, Nat.mul_comm] at this
    exact this.symm
  have h1 : (BitVec.ofInt 64 ((a * 4294967296 : Nat) : Int)).toNat = a * 4294967296 := by rw [BitVec.ofInt_natCast, BitVec.toNat_ofNat]; exact Nat.mod_eq_of_lt hA
  have h2 : (BitVec.ofInt 64 ((b : Nat) : Int)).toNat = b := by rw [BitVec.ofInt_natCast, BitVec.toNat_ofNat]; exact Nat.mod_eq_of_lt (by omega)
  show IntKind.u64.wrap ((BitVec.ofInt 64 ((a * 4294967296 : Nat) : Int) ||| BitVec.ofInt 64 ((b : Nat) : Int)).toNat : Int) = _
  rw [BitVec.toNat_or, h1, h2, e]
  simp only [IntKind.wrap, IntKind.bits, IntKind.signed]
  simp
  omega
theorem pack_raw (v n : Int) (a b : Int) (ha : a = IntKind.u64.wrap (v * 4294967296)) (hb : b = n % 4294967296) : bits .or .u64 a b = v % 4294967296 * 4294967296 + n % 4294967296 := by
  obtain ⟨x, hx⟩ : ∃ x : Nat, (x : Int) = v % 4294967296 := ⟨(v % 4294967296).toNat, by omega⟩
  obtain ⟨y, hy⟩ : ∃ y : Nat, (y : Int) = n % 4294967296 := ⟨(n % 4294967296).toNat, by omega⟩
  have e1 : a = ((x * 4294967296 : Nat) : Int) := by
    rw [ha]; simp only [IntKind.wrap, IntKind.bits, IntKind.signed]; simp; omega
  rw [e1, hb, ← hy, or_lit x y (by omega) (by omega), ← hx]
  omega
set_option maxRecDepth 100000 in
theorem Pack_same (v n z : Int) (hz : packF v n = z) (w : World) : Calls Tryz.prog 156 #[.int .u64 v, .int .i64 n] w fun e w' => e = .returned (.int .u64 z) ∧ w' = w := by
  have e := pack_raw v n _ _ rfl rfl
  have HE := hide (e.trans hz)
  clear e hz
  go_enter Tryz.func156, Tryz.ntmps156
  go_wp2
  go_ret
  exact ⟨congrArg (fun z => Ending.returned (Value.int IntKind.u64 z)) HE.out, rfl⟩
set_option maxRecDepth 100000 in
theorem Node_same (h z : Int) (hz : nodeF h = z) (w : World) : Calls Tryz.prog 90 #[.int .u64 h] w fun e w' => e = .returned (.int .i64 z) ∧ w' = w := by
  subst hz
  go_enter Tryz.func90, Tryz.ntmps90
  go_wp2
  go_ret
  exact ⟨rfl, rfl⟩
end Go.Proofs.YtdmbcjckgfjcaaaGreatDoor.ch
/- Layer deque: size, place. -/
namespace Go.Proofs.YtdmbcjckgfjcaaaGreatDoor
open Go.RowKit
theorem max_cap {n : Int} (h : I6 n) : 1 ≤ max n 1 ∧ max n 1 ≤ 9223372036854775807 := by unfold I6 at h; omega
theorem size_any (n c : Int) (hn : I6 n) (hc : max n 1 = c) (w : World) : Calls Tryz.prog 94 #[.int .i64 n] w fun e w' => e = .returned (.int .u64 c) ∧ w = w' := by
  have h1 := max_cap hn
  rw [hc] at h1
  have e0 : IntKind.u64.wrap c = c := by rw [wrap_w]; exact w64_small (by omega) (by omega)
  by_cases hlt : n < 1
  · obtain rfl : c = 1 := by omega
    have h2 : decide (n < 1) = true := decide_eq_true hlt
    clear hc h1
    go_enter Tryz.func94, Tryz.ntmps94
    go_wp2
    go_ret
    first | exact ⟨rfl, rfl⟩ | exact ⟨ret_int (by omega), rfl⟩
  · obtain rfl : n = c := by omega
    have h2 : decide (n < 1) = false := decide_eq_false hlt
    clear hc
    have h3 : max n 1 = n := by omega
    go_enter Tryz.func94, Tryz.ntmps94
    go_wp2
    go_ret
    first | exact ⟨rfl, rfl⟩ | exact ⟨ret_int (by omega), rfl⟩
theorem place_any (base n i q : Int) (hn : I6 n) (hi : U i) (hq : s64 (base + 2 + i % max n 1) = q) (w : World) : Calls Tryz.prog 95 #[.int .i64 base, .int .i64 n, .int .u64 i] w fun e w' => e = .returned (.int .i64 q) ∧ w = w' := by
  have h1 := max_cap hn
  obtain ⟨c, hc⟩ : ∃ c, max n 1 = c := ⟨_, rfl⟩
  rw [hc] at hq h1
  have HC := hide hc
  have HN := hide hn
  have hi1 := hi.1
  have hi2 := hi.2
  have HQ := hide hq
  have hm0 := Int.emod_nonneg i (b := c) (by omega)
  have hm1 := Int.emod_lt_of_pos i (b := c) (by omega)
  obtain ⟨r, hr⟩ : ∃ r, i % c = r := ⟨_, rfl⟩
  rw [hr] at hm0 hm1
  have HR := hide hr
  have e1 : i.tmod c = r := by rw [Int.tmod_eq_emod_of_nonneg hi1]; exact hr
  have e2 : IntKind.i64.wrap r = r := by rw [wrap_sDq]; exact s64_small (by omega) (by omega)
  have q0 : (c == 0) = false := by rw [beq_eq_false_iff_ne]; omega
  clear hc hq hn hi hr
  go_enter Tryz.func95, Tryz.ntmps95
  go_wp2_with fail
  (with_reducible refine (size_any n c HN.out HC.out _).mono ?_)
  rintro e w2 ⟨rfl, rfl⟩
  go_wp2
  go_ret
  refine ⟨ret_int ?_, rfl⟩
  have := HQ.out
  rw [HR.out] at this
  rw [← this]
  simp only [wrap64, s64]
  try omega
end Go.Proofs.YtdmbcjckgfjcaaaGreatDoor
/- Layer deque: the list of what is done, by its kind. -/
namespace Go.Proofs.YtdmbcjckgfjcaaaGreatDoor
open Go.RowKit
def mcs (d : Mc) : Array Value := #[.int .i64 d.kind, .int .i64 d.pc, .int .i64 d.base, .int .i64 d.cap, .int .u64 d.b, .int .u64 d.t, .int .i64 d.x, .int .i64 d.out]
structure Mb (w : World) (B : Nat) (d : Mc) : Prop where
  blk : w.heap[B]? = some (.cells (mcs d) 80)
section
variable {w w' : World} {B : Nat} {d : Mc}
theorem Mb.lt (h : Mb w B d) : B < w.heap.size := (Array.getElem?_eq_some_iff.1 h.blk).1
theorem Mb.cell (h : Mb w B d) (i : Nat) : w.cell? ⟨B, i, none⟩ = (mcs d)[i]? := Joins.cell_of_block h.blk i
theorem Mb.below (h : Mb w B d) (hb : Below w.heap.size w w') : Mb w' B d := ⟨(hb.block B h.lt).trans h.blk⟩
end
section
variable {w : World} {B : Nat} {k p s c b t x u : Int}
theorem Mb.cells (h : Mb w B ⟨k, p, s, c, b, t, x, u⟩) : w.cell? ⟨B, 0, none⟩ = some (.int .i64 k) ∧ w.cell? ⟨B, 1, none⟩ = some (.int .i64 p) ∧ w.cell? ⟨B, 2, none⟩ = some (.int .i64 s) ∧ w.cell? ⟨B, 3, none⟩ = some (.int .i64 c) ∧
    w.cell? ⟨B, 4, none⟩ = some (.int .u64 b) ∧ w.cell? ⟨B, 5, none⟩ = some (.int .u64 t) ∧ w.cell? ⟨B, 6, none⟩ = some (.int .i64 x) ∧ w.cell? ⟨B, 7, none⟩ = some (.int .i64 u) :=
  ⟨h.cell 0, h.cell 1, h.cell 2, h.cell 3, h.cell 4, h.cell 5, h.cell 6, h.cell 7⟩
end
theorem mb_new (w : World) (d : Mc) : Mb (w.alloc (.cells (mcs d) 80)) w.heap.size d := ⟨heap_alloc_new w _⟩
end Go.Proofs.YtdmbcjckgfjcaaaGreatDoor
/- Layer deque: Cells, Start. -/
namespace Go.Proofs.YtdmbcjckgfjcaaaGreatDoor
open Go.RowKit
theorem uc_map (l : List Int) : l.flatMap uc = l.map (Value.int .u64) := by
  induction l with
  | nil => rfl
  | cons x l ih => simp [List.flatMap_cons, ih, uc]
theorem madeU (N : Nat) : (madeCells #[Value.int .u64 0] N).toList = (List.replicate N (0 : Int)).flatMap uc := by
  rw [uc_map, List.map_replicate, toList_madeCells_one]
theorem made0 (N j : Nat) (h : j < N) : ((madeCells (Value.int .u64 0).cells (N * 1)).toList)[j]? = some (.int .u64 0) := by
  have e0 : (madeCells (Value.int .u64 0).cells (N * 1)).toList = List.replicate N (Value.int .u64 0) := by rw [Nat.mul_one]; exact toList_madeCells_one _ _
  rw [e0]; simp [h]
theorem cellsF_len (n : Int) : ((cellsF n).length : Int) = 2 + min (max n 1) 64 := by
  unfold cellsF; simp; omega
def CellsEnd (w : World) (m : List Int) (n : Nat) (e : Ending) (w' : World) : Prop := ∃ A c, e = .returned (.slice A n c) ∧ (n ≤ c ∧ c ≤ 9223372036854775807) ∧ Cells w' (.slice A n c) m ∧ Below w.heap.size w w'
theorem cells_fin {w w1 : World} {g : Nat} {n : Int} {N : Nat} (hN : (cellsF n).length = N) (hown : w1.ownsRow w.heap.size 25 1 (.slice (some ⟨g, 0, none⟩) N N) N (madeCells (Value.int .u64 0).cells (N * 1)).toList) (hg : w.grownBy w1 none) :
    CellsEnd w (cellsF n) N (.returned (.slice (some ⟨g, 0, none⟩) N N)) ((w1.setCell ⟨g, 0, none⟩ (.int .u64 1)).setCell ⟨g, 1, none⟩ (.int .u64 1)) := by
  subst hN
  have hgb := (hown.lt g rfl).1
  have hb0 : Below w.heap.size w w1 := ⟨hg.os, hg.tape, hg.output, hg.size, fun k hk => hg.block k hk (by simp)⟩
  have e0 : (madeCells (Value.int .u64 0).cells ((cellsF n).length * 1)).toList = (List.replicate (cellsF n).length (0 : Int)).flatMap uc := by rw [Nat.mul_one]; exact madeU _
  rw [e0] at hown
  have h1 := (hown.stored 0 (.int .u64 1)).1
  rw [← uc_set] at h1
  have h2 := (h1.stored 1 (.int .u64 1)).1
  rw [← uc_set] at h2
  have e1 : ((List.replicate (cellsF n).length (0 : Int)).set 0 1).set 1 1 = cellsF n := by
    unfold cellsF
    simp [List.replicate_succ]
  rw [e1] at h2
  have hf := own_form h2
  obtain ⟨A, c, e, hc1, hc2⟩ := hf
  injection e with e1 e2 e3
  subst e3
  exact ⟨_, _, rfl, ⟨Nat.le_refl _, by unfold maxLen at hc2; omega⟩, OwnC.cells h2, (hb0.setCell (p := ⟨g, 0, none⟩) hgb _).setCell (p := ⟨g, 1, none⟩) hgb _⟩
set_option maxRecDepth 100000 in
set_option maxHeartbeats 2000000 in
theorem Cells_any (n : Int) (hn : I6 n) (N : Nat) (hN : (cellsF n).length = N) (w : World) : Calls Tryz.prog 113 #[.int .i64 n] w (CellsEnd w (cellsF n) N) := by
  have h1 := hn.1
  have h2 := hn.2
  obtain ⟨i0, hi, hz0, hz1, hz2⟩ := info_parts infoU
  have HN := hide hN
  have HL := hide (cellsF_len n)
  have hN66 : N ≤ 66 ∧ 3 ≤ N := by have := cellsF_len n; omega
  clear hN hn
  go_enter Tryz.func113, Tryz.ntmps113
  go_wp2_with (refine wpList_make_full _ rfl _ _ _ rfl w.heap.size 25 i0 (.int .u64 0) 1 Tryz.underlying58 hi hz0 hz1 .i64 .i64 _ _ N rfl rfl (by have := HN.out; have := HL.out; omega) (by have := HN.out; have := HL.out; omega) (by rw [hz2]; omega) (by unfold maxLen; omega) (Nat.le_refl _) ?_; intro w1 hown hg; have x0 := (hown.cellAt 0 (by omega)).trans (made0 N 0 (by omega)); have x1 := (hown.cellAt 1 (by omega)).trans (made0 N 1 (by omega)); have f0 := hown.frozenAt 0; have f1 := hown.frozenAt 1; have HF := hide (cells_fin HN.out hown hg); clear hown hg)
  all_goals
    go_ret
    exact HF.out
set_option maxRecDepth 100000 in
theorem Start_any (k s c x : Int) (w : World) : Calls Tryz.prog 116 #[.int .i64 k, .int .i64 s, .int .i64 c, .int .i64 x] w fun e w' => e = .returned (mvv k 0 s c 0 0 x 0) ∧ Below w.heap.size w w' := by
  go_enter Tryz.func116, Tryz.ntmps116
  go_wp2
  exact bodyPost_ret (v := mvv k 0 s c 0 0 x 0) (by simp [results, Tryz.results116, go_sem]) rfl ⟨rfl, balMe _ _⟩
end Go.Proofs.YtdmbcjckgfjcaaaGreatDoor
