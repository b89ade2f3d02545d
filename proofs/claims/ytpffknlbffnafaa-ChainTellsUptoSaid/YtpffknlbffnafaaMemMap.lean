/- Layer mem: the map of deeds, known whole; what each deed makes of a cell. -/
import Derived.Test.YtpffknlbffnafaaMemP
import Derived.Maps.OwnSet
import Derived.Laws.OwnMore
namespace Go.Proofs.Ytpffknlbffnafaa
open Go.RowKit Go.Maps Go.ChangeMaps

theorem bal (w : World) (o : Obj) : Below w.heap.size w (w.alloc o) := (Below.refl _ _).alloc (Nat.le_refl _) o
theorem keepc {a b : World} {p : Addr} {v : Value} (hb : Below a.heap.size a b) (h : a.cell? p = some v) : b.cell? p = some v := by
  rw [hb.cell (World.block_lt_of_cell? _ _ h)]; exact h
theorem keepf {a b : World} {p : Addr} {v : Value} (hb : Below a.heap.size a b) (h : a.cell? p = some v) (hf : a.frozen? p = false) : b.frozen? p = false := by
  rw [hb.frozen (World.block_lt_of_cell? _ _ h)]; exact hf

abbrev fv (f : FuncId) : Value := .func (.func f) #[] #[]
abbrev ov (k t a b : Int) : Value := .agg #[.int .i64 k, .int .i64 t, .int .u64 a, .int .u64 b]
/-- the map's entries -/
def deedEs : Array MapEntry := #[⟨.int .i64 1, fv 44, 0⟩, ⟨.int .i64 2, fv 45, 1⟩, ⟨.int .i64 3, fv 46, 2⟩, ⟨.int .i64 4, fv 47, 3⟩]
def Dm (w : World) (B : Nat) : Prop := w.heap[B]? = some (.map deedEs 4)
def kf (k : Int) : Value := if k = 1 then fv 44 else if k = 2 then fv 45 else if k = 3 then fv 46 else if k = 4 then fv 47 else .nilFunc
theorem Dm.lt {w : World} {B : Nat} (h : Dm w B) : B < w.heap.size := (Array.getElem?_eq_some_iff.1 h).1
theorem Dm.below {w w' : World} {B : Nat} (h : Dm w B) (hb : Below w.heap.size w w') : Dm w' B := (hb.block B h.lt).trans h
theorem Dm.grown {w w' : World} {B : Nat} {row : Option Nat} (h : Dm w B) (hg : w.grownBy w' row) (hne : some B ≠ row) : Dm w' B := (hg.block B h.lt hne).trans h

theorem find_none (k : Int) (h : ¬ (1 ≤ k ∧ k ≤ 4)) : Instr.findNow (.int .i64) (.int .i64 k) deedEs.toList 0 = some none := by
  have h1 : (k == 1) = false := beq_eq_false_iff_ne.2 (by omega)
  have h2 : (k == 2) = false := beq_eq_false_iff_ne.2 (by omega)
  have h3 : (k == 3) = false := beq_eq_false_iff_ne.2 (by omega)
  have h4 : (k == 4) = false := beq_eq_false_iff_ne.2 (by omega)
  simp [deedEs, Instr.findNow, Instr.sameNow, h1, h2, h3, h4]
theorem find_some (k : Int) (h : 1 ≤ k ∧ k ≤ 4) : ∃ i, Instr.findNow (.int .i64) (.int .i64 k) deedEs.toList 0 = some (some (i, kf k)) := by
  obtain rfl | rfl | rfl | rfl : k = 1 ∨ k = 2 ∨ k = 3 ∨ k = 4 := by omega
  · exact ⟨0, rfl⟩
  · exact ⟨1, rfl⟩
  · exact ⟨2, rfl⟩
  · exact ⟨3, rfl⟩
theorem look_dm {w : World} {B : Nat} (h : Dm w B) (k : Int) :
    (Instr.lookup 79 (.map (some B)) (.int .i64 k) true).run Try.prog w = .ok (.tuple #[kf k, .bool (decide (1 ≤ k ∧ k ≤ 4))]) w := by
  have hc : (Instr.checkKey deedEs.isEmpty 10000 3 (.int .i64 k)).run Try.prog w = .ok () w := MapKept.run_checkKey (k := .int .i64 k) Try.underlying3 (by simp [MapKept.IsKey]) _ 9999
  have hz : (zeroValue 87).run Try.prog w = .ok .nilFunc w := by kernel_rfl
  unfold Dm at h
  by_cases hk : 1 ≤ k ∧ k ≤ 4
  · rw [decide_eq_true hk]
    obtain ⟨i, hf⟩ := find_some k hk
    simp [Instr.lookup, run_underlying Try.underlying79, MapKept.run_getObj_map h, hc, MapKept.run_findKey Try.underlying3 hf, Result.andThen]
  · rw [decide_eq_false hk]
    have hf : kf k = .nilFunc := by unfold kf; rw [if_neg (by omega), if_neg (by omega), if_neg (by omega), if_neg (by omega)]
    simp [Instr.lookup, run_underlying Try.underlying79, MapKept.run_getObj_map h, hc, MapKept.run_findKey Try.underlying3 (find_none k hk), Result.andThen, hz, hf]

theorem alloc_set (w : World) (o o' : Obj) : setBlock (w.alloc o) w.heap.size o' = w.alloc o' := by
  have h : (w.heap.push o).setIfInBounds w.heap.size o' = w.heap.push o' := by
    apply Array.ext_getElem?
    intro i
    simp only [Array.getElem?_setIfInBounds, Array.getElem?_push, Array.size_push]
    split <;> split <;> simp_all
  show World.mk _ _ _ _ _ = World.mk _ _ _ _ _
  rw [← h]
  rfl
theorem run_ins (w : World) (es : Array MapEntry) (c : Nat) (n : Int) (val : Value) (hf : Instr.findNow (.int .i64) (.int .i64 n) es.toList 0 = some none) :
    (Instr.mapUpdate 79 (.map (some w.heap.size)) (.int .i64 n) val).run Try.prog (w.alloc (.map es c)) = .ok () (w.alloc (.map (es.push ⟨.int .i64 n, val, c⟩) (c + 1))) := by
  have hb : (w.alloc (.map es c)).heap[w.heap.size]? = some (.map es c) := (MapKept.heap_alloc w _).1
  have hc : (Instr.checkKey false 10000 3 (.int .i64 n)).run Try.prog (w.alloc (.map es c)) = .ok () (w.alloc (.map es c)) := MapKept.run_checkKey (k := .int .i64 n) Try.underlying3 (by simp [MapKept.IsKey]) _ 9999
  rw [← alloc_set w (.map es c) (.map (es.push ⟨.int .i64 n, val, c⟩) (c + 1))]
  simp [Instr.mapUpdate, run_underlying Try.underlying79, MapKept.run_getObj_map hb, hc, MapKept.run_findKey Try.underlying3 hf, MapKept.run_setObj_map _ hb, Result.andThen, setBlock]

theorem deeds_any (w : World) : Calls Try.prog 39 #[] w fun e w' => e = .returned (.map (some w.heap.size)) ∧ Dm w' w.heap.size ∧ Below w.heap.size w w' := by
  have hmm := @run_makeMap Try.prog
  have i1 := run_ins w #[] 0 1 (fv 44) rfl
  have i2 := run_ins w _ 1 2 (fv 45) (show Instr.findNow _ _ (#[(⟨.int .i64 1, fv 44, 0⟩ : MapEntry)]).toList 0 = _ from rfl)
  have i3 := run_ins w _ 2 3 (fv 46) (show Instr.findNow _ _ (#[(⟨.int .i64 1, fv 44, 0⟩ : MapEntry), ⟨.int .i64 2, fv 45, 1⟩]).toList 0 = _ from rfl)
  have i4 := run_ins w _ 3 4 (fv 47) (show Instr.findNow _ _ (#[(⟨.int .i64 1, fv 44, 0⟩ : MapEntry), ⟨.int .i64 2, fv 45, 1⟩, ⟨.int .i64 3, fv 46, 2⟩]).toList 0 = _ from rfl)
  simp only [List.push_toArray, List.nil_append, List.cons_append, Nat.zero_add] at i1 i2 i3 i4
  go_enter Try.func39, Try.ntmps39
  go_wp2
  go_ret
  exact ⟨rfl, (MapKept.heap_alloc w _).1, bal _ _⟩

/-- a boxed deed -/
theorem box4 (w : World) (x y p q : Value) (t : TypeId) : ∃ w1, w.alloc (.cells #[x, y, p, q] t) = w1 ∧ Below w.heap.size w w1 ∧ w1.heap.size = w.heap.size + 1 ∧ w1.cell? ⟨w.heap.size, 0, none⟩ = some x ∧ w1.cell? ⟨w.heap.size, 1, none⟩ = some y ∧ w1.cell? ⟨w.heap.size, 2, none⟩ = some p ∧ w1.cell? ⟨w.heap.size, 3, none⟩ = some q := by
  have h0 := row_new w [x, y, p, q] t 0 x rfl
  have h1 := row_new w [x, y, p, q] t 1 y rfl
  have h2 := row_new w [x, y, p, q] t 2 p rfl
  have h3 := row_new w [x, y, p, q] t 3 q rfl
  rw [add_none] at h0 h1 h2 h3
  exact ⟨_, rfl, bal _ _, by simp, h0, h1, h2, h3⟩

theorem d1_any (v k t a b : Int) (w : World) : Calls Try.prog 44 #[.int .u64 v, ov k t a b] w fun e w' => e = .returned (.tuple #[.int .u64 v, .bool true]) ∧ Below w.heap.size w w' := by
  go_enter Try.func44, Try.ntmps44
  go_wp2
  go_ret2
  exact ⟨rfl, bal _ _⟩
theorem d2_any (v k t a b : Int) (w : World) : Calls Try.prog 45 #[.int .u64 v, ov k t a b] w fun e w' => e = .returned (.tuple #[.int .u64 a, .bool true]) ∧ Below w.heap.size w w' := by
  go_enter Try.func45, Try.ntmps45
  go_wp2
  go_ret2
  exact ⟨rfl, bal _ _⟩
theorem d3_yes (k t a b : Int) (w : World) : Calls Try.prog 46 #[.int .u64 a, ov k t a b] w fun e w' => e = .returned (.tuple #[.int .u64 b, .bool true]) ∧ Below w.heap.size w w' := by
  have q : (a != a) = false := by simp
  go_enter Try.func46, Try.ntmps46
  go_wp2
  go_ret2
  exact ⟨rfl, bal _ _⟩
theorem d3_no (v k t a b : Int) (w : World) (h : v ≠ a) : Calls Try.prog 46 #[.int .u64 v, ov k t a b] w fun e w' => e = .returned (.tuple #[.int .u64 v, .bool false]) ∧ Below w.heap.size w w' := by
  have q : (v != a) = true := by rw [bne_iff_ne]; exact h
  clear h
  go_enter Try.func46, Try.ntmps46
  go_wp2
  go_ret2
  exact ⟨rfl, bal _ _⟩
theorem wrap_u (n : Int) : IntKind.u64.wrap n = n % 18446744073709551616 := by
  simp [IntKind.wrap, IntKind.bits, IntKind.signed]
theorem d4_any (v k t a b : Int) (w : World) : Calls Try.prog 47 #[.int .u64 v, ov k t a b] w fun e w' => e = .returned (.tuple #[.int .u64 (addU v a), .bool true]) ∧ Below w.heap.size w w' := by
  obtain ⟨x, hx⟩ : ∃ x, addU v a = x := ⟨_, rfl⟩
  have hx' : IntKind.u64.wrap (v + a) = x := by rw [wrap_u]; exact hx
  rw [hx]
  clear hx
  go_enter Try.func47, Try.ntmps47
  go_wp2
  go_ret2
  exact ⟨rfl, bal _ _⟩
end Go.Proofs.Ytpffknlbffnafaa
