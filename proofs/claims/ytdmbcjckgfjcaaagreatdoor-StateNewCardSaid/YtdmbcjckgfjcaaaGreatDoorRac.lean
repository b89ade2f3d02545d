import Derived.Maps.OwnSet
import Derived.Laws.OwnMore
import Derived.Lib.SliceRun
import Derived.Deep.QuietTactic
import Derived.BigQuiet
import Derived.Deep.RegionHeld3
import Derived.Lib.SmallJoins
import Derived.Test.YtdmbcjckgfjcaaaGreatDoorRab
/- Layer mem: the map of deeds, known whole; what each deed makes of a cell. -/
namespace Go.Proofs.YtdmbcjckgfjcaaaGreatDoor
open Go.RowKit Go.Maps Go.ChangeMaps
theorem balMe (w : World) (o : Obj) : Below w.heap.size w (w.alloc o) := (Below.refl _ _).alloc (Nat.le_refl _) o
theorem keepcMe {a b : World} {p : Addr} {v : Value} (hb : Below a.heap.size a b) (h : a.cell? p = some v) : b.cell? p = some v := by
  rw [hb.cell (World.block_lt_of_cell? _ _ h)]; exact h
theorem keepfMe {a b : World} {p : Addr} {v : Value} (hb : Below a.heap.size a b) (h : a.cell? p = some v) (hf : a.frozen? p = false) : b.frozen? p = false := by
  rw [hb.frozen (World.block_lt_of_cell? _ _ h)]; exact hf
abbrev fv (f : FuncId) : Value := .func (.func f) #[] #[]
abbrev ov (k t a b : Int) : Value := .agg #[.int .i64 k, .int .i64 t, .int .u64 a, .int .u64 b]
/-- the map's entries -/
def deedEs : Array MapEntry := #[⟨.int .i64 1, fv 171, 0⟩, ⟨.int .i64 2, fv 172, 1⟩, ⟨.int .i64 3, fv 173, 2⟩, ⟨.int .i64 4, fv 174, 3⟩]
def Dm (w : World) (B : Nat) : Prop := w.heap[B]? = some (.map deedEs 4)
def kf (k : Int) : Value := if k = 1 then fv 171 else if k = 2 then fv 172 else if k = 3 then fv 173 else if k = 4 then fv 174 else .nilFunc
theorem Dm.lt {w : World} {B : Nat} (h : Dm w B) : B < w.heap.size := (Array.getElem?_eq_some_iff.1 h).1
theorem Dm.below {w w' : World} {B : Nat} (h : Dm w B) (hb : Below w.heap.size w w') : Dm w' B := (hb.block B h.lt).trans h
theorem Dm.grown {w w' : World} {B : Nat} {row : Option Nat} (h : Dm w B) (hg : w.grownBy w' row) (hne : some B ≠ row) : Dm w' B := (hg.block B h.lt hne).trans h
theorem find_none (k : Int) (h : ¬ (1 ≤ k ∧ k ≤ 4)) : Instr.findNow (.int .i64) (.int .i64 k) deedEs.toList 0 = some none := by
  have h1 : (k == 1) = false := beq_eq_false_iff_ne.2 (by omega)
  have h2 : (k == 2) = false := beq_eq_false_iff_ne.2 (by omega)
  have h3 : (k == 3) = false := beq_eq_false_iff_ne.2 (by omega)
  have h4 : (k == 4) = false := beq_eq_false_iff_ne.2 (by omega)
  simp [deedEs, Instr.findNow, Instr.sameNow, h1, h2, h3, h4]
theorem find_some (k : Int) (h : 1 ≤ k ∧ k ≤ 4) : ∃ i, Instr.findNow (.int .i64) (.int .i64 k) deedEs.toList 0 = some (some (i, kf k)) := by
  obtain rfl | rfl | rfl | rfl : k = 1 ∨ k = 2 ∨ k = 3 ∨ k = 4 := by omega
  · exact ⟨0, rfl⟩
  · exact ⟨1, rfl⟩
  · exact ⟨2, rfl⟩
  · exact ⟨3, rfl⟩
theorem look_dm {w : World} {B : Nat} (h : Dm w B) (k : Int) :
    (Instr.lookup 249 (.map (some B)) (.int .i64 k) true).run Tryz.prog w = .ok (.tuple #[kf k, .bool (decide (1 ≤ k ∧ k ≤ 4))]) w := by
  have hc : (Instr.checkKey deedEs.isEmpty 10000 3 (.int .i64 k)).run Tryz.prog w = .ok () w := MapKept.run_checkKey (k := .int .i64 k) Tryz.underlying3 (by simp [MapKept.IsKey]) _ 9999
  have hz : (zeroValue 259).run Tryz.prog w = .ok .nilFunc w := by kernel_rfl
  unfold Dm at h
  by_cases hk : 1 ≤ k ∧ k ≤ 4
  · rw [decide_eq_true hk]
    obtain ⟨i, hf⟩ := find_some k hk
    simp [Instr.lookup, run_underlying Tryz.underlying249, MapKept.run_getObj_map h, hc, MapKept.run_findKey Tryz.underlying3 hf, Result.andThen]
  · rw [decide_eq_false hk]
    have hf : kf k = .nilFunc := by unfold kf; rw [if_neg (by omega), if_neg (by omega), if_neg (by omega), if_neg (by omega)]
    simp [Instr.lookup, run_underlying Tryz.underlying249, MapKept.run_getObj_map h, hc, MapKept.run_findKey Tryz.underlying3 (find_none k hk), Result.andThen, hz, hf]
theorem alloc_set (w : World) (o o' : Obj) : setBlock (w.alloc o) w.heap.size o' = w.alloc o' := by
  have h : (w.heap.push o).setIfInBounds w.heap.size o' = w.heap.push o' := by
    apply Array.ext_getElem?
    intro i
    simp only [Array.getElem?_setIfInBounds, Array.getElem?_push, Array.size_push]
    split <;> split <;> simp_all
  show World.mk _ _ _ _ _ = World.mk _ _ _ _ _
  rw [← h]
  rfl
theorem run_ins (w : World) (es : Array MapEntry) (c : Nat) (n : Int) (val : Value) (hf : Instr.findNow (.int .i64) (.int .i64 n) es.toList 0 = some none) :
    (Instr.mapUpdate 249 (.map (some w.heap.size)) (.int .i64 n) val).run Tryz.prog (w.alloc (.map es c)) = .ok () (w.alloc (.map (es.push ⟨.int .i64 n, val, c⟩) (c + 1))) := by
  have hb : (w.alloc (.map es c)).heap[w.heap.size]? = some (.map es c) := (MapKept.heap_alloc w _).1
  have hc : (Instr.checkKey false 10000 3 (.int .i64 n)).run Tryz.prog (w.alloc (.map es c)) = .ok () (w.alloc (.map es c)) := MapKept.run_checkKey (k := .int .i64 n) Tryz.underlying3 (by simp [MapKept.IsKey]) _ 9999
  rw [← alloc_set w (.map es c) (.map (es.push ⟨.int .i64 n, val, c⟩) (c + 1))]
  simp [Instr.mapUpdate, run_underlying Tryz.underlying249, MapKept.run_getObj_map hb, hc, MapKept.run_findKey Tryz.underlying3 hf, MapKept.run_setObj_map _ hb, Result.andThen, setBlock]
theorem deeds_any (w : World) : Calls Tryz.prog 163 #[] w fun e w' => e = .returned (.map (some w.heap.size)) ∧ Dm w' w.heap.size ∧ Below w.heap.size w w' := by
  have hmm := @run_makeMap Tryz.prog
  have i1 := run_ins w #[] 0 1 (fv 171) rfl
  have i2 := run_ins w _ 1 2 (fv 172) (show Instr.findNow _ _ (#[(⟨.int .i64 1, fv 171, 0⟩ : MapEntry)]).toList 0 = _ from rfl)
  have i3 := run_ins w _ 2 3 (fv 173) (show Instr.findNow _ _ (#[(⟨.int .i64 1, fv 171, 0⟩ : MapEntry), ⟨.int .i64 2, fv 172, 1⟩]).toList 0 = _ from rfl)
  have i4 := run_ins w _ 3 4 (fv 174) (show Instr.findNow _ _ (#[(⟨.int .i64 1, fv 171, 0⟩ : MapEntry), ⟨.int .i64 2, fv 172, 1⟩, ⟨.int .i64 3, fv 173, 2⟩]).toList 0 = _ from rfl)
  simp only [List.push_toArray, List.nil_append, List.cons_append, Nat.zero_add] at i1 i2 i3 i4
  go_enter Tryz.func163, Tryz.ntmps163
  go_wp2
  go_ret
  exact ⟨rfl, (MapKept.heap_alloc w _).1, balMe _ _⟩
/-- a boxed deed -/
theorem box4Me (w : World) (x y p q : Value) (t : TypeId) : ∃ w1, w.alloc (.cells #[x, y, p, q] t) = w1 ∧ Below w.heap.size w w1 ∧ w1.heap.size = w.heap.size + 1 ∧ w1.cell? ⟨w.heap.size, 0, none⟩ = some x ∧ w1.cell? ⟨w.heap.size, 1, none⟩ = some y ∧ w1.cell? ⟨w.heap.size, 2, none⟩ = some p ∧ w1.cell? ⟨w.heap.size, 3, none⟩ = some q := by
  have h0 := row_new w [x, y, p, q] t 0 x rfl
  have h1 := row_new w [x, y, p, q] t 1 y rfl
  have h2 := row_new w [x, y, p, q] t 2 p rfl
  have h3 := row_new w [x, y, p, q] t 3 q rfl
  rw [add_none] at h0 h1 h2 h3
  exact ⟨_, rfl, balMe _ _, by simp, h0, h1, h2, h3⟩
theorem d1_any (v k t a b : Int) (w : World) : Calls Tryz.prog 171 #[.int .u64 v, ov k t a b] w fun e w' => e = .returned (.tuple #[.int .u64 v, .bool true]) ∧ Below w.heap.size w w' := by
  go_enter Tryz.func171, Tryz.ntmps171
  go_wp2
  go_ret2
  exact ⟨rfl, balMe _ _⟩
theorem d2_any (v k t a b : Int) (w : World) : Calls Tryz.prog 172 #[.int .u64 v, ov k t a b] w fun e w' => e = .returned (.tuple #[.int .u64 a, .bool true]) ∧ Below w.heap.size w w' := by
  go_enter Tryz.func172, Tryz.ntmps172
  go_wp2
  go_ret2
  exact ⟨rfl, balMe _ _⟩
theorem d3_yes (k t a b : Int) (w : World) : Calls Tryz.prog 173 #[.int .u64 a, ov k t a b] w fun e w' => e = .returned (.tuple #[.int .u64 b, .bool true]) ∧ Below w.heap.size w w' := by
  have q : (a != a) = false := by simp
  go_enter Tryz.func173, Tryz.ntmps173
  go_wp2
  go_ret2
  exact ⟨rfl, balMe _ _⟩
theorem d3_no (v k t a b : Int) (w : World) (h : v ≠ a) : Calls Tryz.prog 173 #[.int .u64 v, ov k t a b] w fun e w' => e = .returned (.tuple #[.int .u64 v, .bool false]) ∧ Below w.heap.size w w' := by
  have q : (v != a) = true := by rw [bne_iff_ne]; exact h
  clear h
  go_enter Tryz.func173, Tryz.ntmps173
  go_wp2
  go_ret2
  exact ⟨rfl, balMe _ _⟩
theorem wrap_u (n : Int) : IntKind.u64.wrap n = n % 18446744073709551616 := by
  simp [IntKind.wrap, IntKind.bits, IntKind.signed]
theorem d4_any (v k t a b : Int) (w : World) : Calls Tryz.prog 174 #[.int .u64 v, ov k t a b] w fun e w' => e = .returned (.tuple #[.int .u64 (addU v a), .bool true]) ∧ Below w.heap.size w w' := by
  obtain ⟨x, hx⟩ : ∃ x, addU v a = x := ⟨_, rfl⟩
  have hx' : IntKind.u64.wrap (v + a) = x := by rw [wrap_u]; exact hx
  rw [hx]
  clear hx
  go_enter Tryz.func174, Tryz.ntmps174
  go_wp2
  go_ret2
  exact ⟨rfl, balMe _ _⟩
end Go.Proofs.YtdmbcjckgfjcaaaGreatDoor
/- Layer mem: turn: a deed done in a row of the call's own. -/
namespace Go.Proofs.YtdmbcjckgfjcaaaGreatDoor
open Go.RowKit
/-- a cell -/
def uc (x : Int) : List Value := [.int .u64 x]
abbrev Cells (w : World) (v : Value) (l : List Int) : Prop := Sl uc 1 w v l
theorem uc_len (x : Int) : (uc x).length = 1 := rfl
theorem uc_set : ∀ (l : List Int) (s : Nat) (x : Int), (l.set s x).flatMap uc = (l.flatMap uc).set s (.int .u64 x)
  | [], _, _ => rfl
  | _ :: _, 0, _ => rfl
  | y :: l, s + 1, x => by
    show uc y ++ (l.set s x).flatMap uc = (uc y ++ l.flatMap uc).set (s + 1) _
    rw [uc_set l s x]; rfl
theorem uc_get (l : List Int) (j : Nat) (h : j < l.length) : (l.flatMap uc)[j]? = some (.int .u64 l[j]) := by
  have := flatMap_get uc_len l j l[j] (List.getElem?_eq_getElem h) 0 (.int .u64 l[j]) rfl
  simpa using this
/-- a row of the call's own that reads as l -/
abbrev OwnC (base : Nat) (w : World) (v : Value) (l : List Int) : Prop := w.ownsRow base 25 1 v l.length (l.flatMap uc)
theorem OwnC.cells {base : Nat} {w : World} {v : Value} {l : List Int} (h : OwnC base w v l) : Cells w v l := Sl.of_own uc_len h
theorem grown_below {w w1 : World} (h : Below w.heap.size w w1) (row : Option Nat) : w.grownBy w1 row := ⟨h.os, h.tape, h.output, h.size, fun k hk _ => h.block k hk⟩
theorem grown_trans {w w1 w2 : World} {row : Option Nat} (h : w.grownBy w1 row) (k : w1.grownBy w2 row) : w.grownBy w2 row :=
  ⟨k.os.trans h.os, k.tape.trans h.tape, k.output.trans h.output, Nat.le_trans h.size k.size, fun i hi hne => (k.block i (Nat.lt_of_lt_of_le hi h.size) hne).trans (h.block i hi hne)⟩
theorem turn_end {base g n c j : Nat} {w w2 : World} {m : List Int} (hown : w.ownsRow base 25 1 (.slice (some ⟨g, 0, none⟩) n c) n (m.flatMap uc)) (hb : Below w.heap.size w w2) (x : Int) :
    (w2.setCell ⟨g, j, none⟩ (.int .u64 x)).ownsRow base 25 1 (.slice (some ⟨g, 0, none⟩) n c) n ((m.set j x).flatMap uc) ∧ w.grownBy (w2.setCell ⟨g, j, none⟩ (.int .u64 x)) (some g) := by
  obtain ⟨h1, h2⟩ := (own_below hown hb).stored j (.int .u64 x)
  rw [uc_set]
  exact ⟨h1, grown_trans (grown_below hb _) h2⟩
/-- the look-up at the operation -/
theorem wpList_look (w : World) {ops : Array Oper} {rest : List Oper} {o : Oper} {a : Act} {Q : Exit → Act → World → Prop} (hg : o.guard = none) (m x : Operand) (t : TypeId) (hop : o.op = Op.lookup t m x true)
    (M K : Value) (hm : a.eval m = M) (hx : a.eval x = K) (r : Value) (hr : (Instr.lookup t M K true).run Tryz.prog w = .ok r w) (hK : wpList Tryz.prog ops Q rest (a.put o.dst r) w) : wpList Tryz.prog ops Q (o :: rest) a w := by
  refine wpList_plain hg fun K' hK' => ?_
  unfold Oper.wp
  simp [execOp, hop, hm, hx, hr, Result.andThen]
  exact hK' _ _ hK
/-- what turn leaves -/
def TurnEnd (base : Nat) (w : World) (v : Value) (m : List Int) (k t a b : Int) (e : Ending) (w' : World) : Prop :=
  e = .returned (.tuple #[.int .u64 (vF m ⟨k, t, a, b⟩), .bool (okF m ⟨k, t, a, b⟩)]) ∧ w'.ownsRow base 25 1 v m.length ((mF m ⟨k, t, a, b⟩).flatMap uc) ∧ w.grownBy w' v.ownBlock
theorem turn_off_end {base : Nat} {w w' : World} {v : Value} {m : List Int} {k t a b : Int} (hown : OwnC base w v m) (h : ¬ ((1 ≤ k ∧ k ≤ 4) ∧ 0 ≤ t ∧ t < (m.length : Int))) (hb : Below w.heap.size w w') :
    TurnEnd base w v m k t a b (.returned (.tuple #[.int .u64 0, .bool false])) w' := by
  obtain ⟨h1, h2, h3⟩ := at_off (o := ⟨k, t, a, b⟩) h
  refine ⟨by rw [h1, h2], by rw [h3]; exact own_below hown hb, grown_below hb _⟩
set_option maxRecDepth 100000 in
set_option maxHeartbeats 1000000 in
theorem turn_off (v : Value) (m : List Int) (B : Nat) (k t a b : Int) (w : World) (base : Nat) (hown : OwnC base w v m) (hD : Dm w B) (h : ¬ ((1 ≤ k ∧ k ≤ 4) ∧ 0 ≤ t ∧ t < (m.length : Int))) :
    Calls Tryz.prog 164 #[v, .map (some B), ov k t a b] w (TurnEnd base w v m k t a b) := by
  obtain ⟨w1, e1, hb1, hs1, c0, c1, c2, c3⟩ := box4Me w (.int .i64 k) (.int .i64 t) (.int .u64 a) (.int .u64 b) 227
  have HE := hide e1
  have HO := hide hown
  have HN := hide h
  have hl := look_dm (hD.below hb1) k
  obtain ⟨F, hF⟩ : ∃ F, kf k = F := ⟨_, rfl⟩
  rw [hF] at hl
  obtain ⟨A, c, rfl, hc1, hc2⟩ := own_form hown
  unfold maxLen at hc2
  clear e1 hown hD hF
  by_cases hk : 1 ≤ k ∧ k ≤ 4
  · rw [decide_eq_true hk] at hl
    have HL := hide hl
    clear hl
    by_cases ht : t < 0
    · clear h hk
      go_enter Tryz.func164, Tryz.ntmps164
      go_wp2_with (at_lookup; rw [HE.out]; refine wpList_look _ rfl _ _ _ rfl _ _ rfl rfl _ HL.out ?_)
      go_ret2
      exact turn_off_end HO.out HN.out hb1
    · have h2 : (m.length : Int) ≤ t := by omega
      clear h hk
      go_enter Tryz.func164, Tryz.ntmps164
      go_wp2_with (at_lookup; rw [HE.out]; refine wpList_look _ rfl _ _ _ rfl _ _ rfl rfl _ HL.out ?_)
      go_ret2
      exact turn_off_end HO.out HN.out hb1
  · rw [decide_eq_false hk] at hl
    have HL := hide hl
    clear hl
    clear h hk
    go_enter Tryz.func164, Tryz.ntmps164
    go_wp2_with (at_lookup; rw [HE.out]; refine wpList_look _ rfl _ _ _ rfl _ _ rfl rfl _ HL.out ?_)
    go_ret2
    exact turn_off_end HO.out HN.out hb1
theorem turn_on_end {base g c j : Nat} {w w2 : World} {m : List Int} {k a b x : Int} {d : Bool} (hown : OwnC base w (.slice (some ⟨g, 0, none⟩) m.length c) m) (hk : 1 ≤ k ∧ k ≤ 4) (hj : j < m.length) (hb : Below w.heap.size w w2)
    (hx : newF m[j] ⟨k, j, a, b⟩ = x) (hd : (k != 3 || m[j] == a) = d) :
    TurnEnd base w (.slice (some ⟨g, 0, none⟩) m.length c) m k j a b (.returned (.tuple #[.int .u64 m[j], .bool d])) (w2.setCell ⟨g, j, none⟩ (.int .u64 x)) := by
  obtain ⟨h1, h2, h3⟩ := at_on (m := m) (o := ⟨k, j, a, b⟩) ⟨hk, by simp, by simp; omega⟩
  have hw : wasF m ⟨k, j, a, b⟩ = m[j] := was_get (o := ⟨k, j, a, b⟩) (by simpa using hj)
  rw [hw] at h1 h2 h3
  obtain ⟨e1, e2⟩ := turn_end (j := j) hown hb x
  refine ⟨by rw [h1, h2, hd], ?_, e2⟩
  rw [h3, hx]
  exact e1
set_option maxRecDepth 100000 in
set_option maxHeartbeats 1000000 in
theorem turn_on (v : Value) (m : List Int) (B : Nat) (k t a b : Int) (w : World) (base : Nat) (hown : OwnC base w v m) (hD : Dm w B) (hk : 1 ≤ k ∧ k ≤ 4) (ht : 0 ≤ t ∧ t < (m.length : Int)) :
    Calls Tryz.prog 164 #[v, .map (some B), ov k t a b] w (TurnEnd base w v m k t a b) := by
  obtain ⟨j, rfl⟩ : ∃ j : Nat, t = j := ⟨t.toNat, by omega⟩
  have hj : j < m.length := by omega
  obtain ⟨w1, e1, hb1, hs1, c0, c1, c2, c3⟩ := box4Me w (.int .i64 k) (.int .i64 j) (.int .u64 a) (.int .u64 b) 227
  have HE := hide e1
  have hl := look_dm (hD.below hb1) k
  rw [decide_eq_true hk] at hl
  have HL := hide hl
  obtain ⟨A, c, rfl, hc1, hc2⟩ := own_form hown
  unfold maxLen at hc2
  obtain ⟨g, rfl⟩ : ∃ g, A = some ⟨g, 0, none⟩ := by
    rcases hown.2 with ⟨h, h0⟩ | ⟨g, cap, cur, h, _⟩
    · omega
    · injection h with h; exact ⟨g, h⟩
  have HO := hide hown
  have hx1 := (own_below hown hb1).cellAt j (by omega)
  have hf1 := (own_below hown hb1).frozenAt j
  rw [uc_get m j hj] at hx1
  have hgl : g ≠ w.heap.size := by
    have := (hown.lt g rfl).2; omega
  have HX : ∀ x d, newF m[j] ⟨k, j, a, b⟩ = x → (k != 3 || m[j] == a) = d → ∀ w2, Below w.heap.size w w2 → TurnEnd base w (.slice (some ⟨g, 0, none⟩) m.length c) m k j a b (.returned (.tuple #[.int .u64 m[j], .bool d])) (w2.setCell ⟨g, j, none⟩ (.int .u64 x)) :=
    fun x d h1 h2 w2 h3 => turn_on_end hown hk hj h3 h1 h2
  have HK := hide hk
  have HH := hide HX
  obtain ⟨y, hy⟩ : ∃ y, m[j] = y := ⟨_, rfl⟩
  rw [hy] at hx1 HH
  clear e1 hown hD hl ht HX hy
  obtain rfl | rfl | rfl | rfl : k = 1 ∨ k = 2 ∨ k = 3 ∨ k = 4 := by omega
  · clear hk
    have HL : Hid _ := hide (show _ = Result.ok (Value.tuple #[fv 171, .bool true]) w1 from HL.out)
    go_enter Tryz.func164, Tryz.ntmps164
    go_wp2_with (at_lookup; rw [HE.out]; refine wpList_look _ rfl _ _ _ rfl _ _ rfl rfl _ HL.out ?_)
    (with_reducible refine (d1_any y 1 j a b w1).mono ?_)
    rintro e w2 ⟨rfl, hb2⟩
    have hf2 := keepfMe hb2 hx1 hf1
    have hx2 := keepcMe hb2 hx1
    have c1 := keepcMe hb2 c1
    have hb3 := hide (bcall hb1 hb2)
    have HZ := hide (HH.out (y) true (by simp [newF]) (by simp) _ hb3.out)
    clear HH HK
    go_wp2
    go_ret2
    exact HZ.out
  · clear hk
    have HL : Hid _ := hide (show _ = Result.ok (Value.tuple #[fv 172, .bool true]) w1 from HL.out)
    go_enter Tryz.func164, Tryz.ntmps164
    go_wp2_with (at_lookup; rw [HE.out]; refine wpList_look _ rfl _ _ _ rfl _ _ rfl rfl _ HL.out ?_)
    (with_reducible refine (d2_any y 2 j a b w1).mono ?_)
    rintro e w2 ⟨rfl, hb2⟩
    have hf2 := keepfMe hb2 hx1 hf1
    have hx2 := keepcMe hb2 hx1
    have c1 := keepcMe hb2 c1
    have hb3 := hide (bcall hb1 hb2)
    have HZ := hide (HH.out (a) true (by simp [newF]) (by simp) _ hb3.out)
    clear HH HK
    go_wp2
    go_ret2
    exact HZ.out
  · clear hk
    by_cases hv : y = a
    · subst hv
      have HL : Hid _ := hide (show _ = Result.ok (Value.tuple #[fv 173, .bool true]) w1 from HL.out)
      go_enter Tryz.func164, Tryz.ntmps164
      go_wp2_with (at_lookup; rw [HE.out]; refine wpList_look _ rfl _ _ _ rfl _ _ rfl rfl _ HL.out ?_)
      (with_reducible refine (d3_yes 3 j y b w1).mono ?_)
      rintro e w2 ⟨rfl, hb2⟩
      have hf2 := keepfMe hb2 hx1 hf1
      have hx2 := keepcMe hb2 hx1
      have c1 := keepcMe hb2 c1
      have hb3 := hide (bcall hb1 hb2)
      have HZ := hide (HH.out (b) true (by simp [newF]) (by simp) _ hb3.out)
      clear HH HK
      go_wp2
      go_ret2
      exact HZ.out
    · have HV := hide hv
      clear hv
      have HL : Hid _ := hide (show _ = Result.ok (Value.tuple #[fv 173, .bool true]) w1 from HL.out)
      go_enter Tryz.func164, Tryz.ntmps164
      go_wp2_with (at_lookup; rw [HE.out]; refine wpList_look _ rfl _ _ _ rfl _ _ rfl rfl _ HL.out ?_)
      (with_reducible refine (d3_no y 3 j a b w1 HV.out).mono ?_)
      rintro e w2 ⟨rfl, hb2⟩
      have hf2 := keepfMe hb2 hx1 hf1
      have hx2 := keepcMe hb2 hx1
      have c1 := keepcMe hb2 c1
      have hb3 := hide (bcall hb1 hb2)
      have HZ := hide (HH.out (y) false (by simp [newF, HV.out]) (by simp [HV.out]) _ hb3.out)
      clear HH HK
      go_wp2
      go_ret2
      exact HZ.out
  · clear hk
    have HL : Hid _ := hide (show _ = Result.ok (Value.tuple #[fv 174, .bool true]) w1 from HL.out)
    go_enter Tryz.func164, Tryz.ntmps164
    go_wp2_with (at_lookup; rw [HE.out]; refine wpList_look _ rfl _ _ _ rfl _ _ rfl rfl _ HL.out ?_)
    (with_reducible refine (d4_any y 4 j a b w1).mono ?_)
    rintro e w2 ⟨rfl, hb2⟩
    have hf2 := keepfMe hb2 hx1 hf1
    have hx2 := keepcMe hb2 hx1
    have c1 := keepcMe hb2 c1
    have hb3 := hide (bcall hb1 hb2)
    have HZ := hide (HH.out (addU y a) true (by simp [newF]) (by simp) _ hb3.out)
    clear HH HK
    go_wp2
    go_ret2
    exact HZ.out
set_option maxRecDepth 100000 in
set_option maxHeartbeats 1000000 in
theorem turn_any (v : Value) (m : List Int) (B : Nat) (k t a b : Int) (w : World) (base : Nat) (hown : OwnC base w v m) (hD : Dm w B) :
    Calls Tryz.prog 164 #[v, .map (some B), ov k t a b] w (TurnEnd base w v m k t a b) := by
  by_cases h : (1 ≤ k ∧ k ≤ 4) ∧ 0 ≤ t ∧ t < (m.length : Int)
  · exact turn_on v m B k t a b w base hown hD h.1 h.2
  · exact turn_off v m B k t a b w base hown hD h
end Go.Proofs.YtdmbcjckgfjcaaaGreatDoor
/- Layer mem: slices.Clone and slices.Equal on cells; Same, Do. -/
namespace Go.Proofs.YtdmbcjckgfjcaaaGreatDoor
open Go.RowKit
theorem infoU : (Tryz.prog.info? 25).map (fun i => (i.zero, i.size, i.bytes)) = some (some (.int .u64 0), 1, 8) := by kernel_rfl
theorem cells_at {w : World} {A : Option Addr} {n c k : Nat} {l : List Int} (h : Cells w (.slice A n c) l) (hk : k < l.length) :
    ∃ b off, A = some ⟨b, off, none⟩ ∧ b < w.heap.size ∧ w.cell? ⟨b, off + k, none⟩ = some (.int .u64 l[k]) := by
  obtain ⟨A', c', e, h1, h2, h3⟩ := h
  injection e with e1 e2 e3
  subst e1
  obtain ⟨b, off, rfl, hb, hc⟩ := h3 (by omega)
  refine ⟨b, off, rfl, hb, ?_⟩
  have := hc k l[k] (List.getElem?_eq_getElem hk) 0 (.int .u64 l[k]) rfl
  simpa using this
set_option maxHeartbeats 1000000 in
theorem Clone_cells (v : Value) (l : List Int) (w : World) (h : Cells w v l) (hbig : l.length * 8 ≤ 140737488351232) :
    Calls Tryz.prog 82 #[v] w fun e w' => ∃ v', e = .returned v' ∧ w'.ownsRow w.heap.size 25 1 v' l.length (l.flatMap uc) ∧ Below w.heap.size w w' := by
  obtain ⟨i0, hi, hz0, hz1, hz2⟩ := info_parts infoU
  have qn : ∀ (w : World) (a : Option Addr) (n c n' c' : Nat), (binOp .eql 58 (.slice a n c) (.slice none n' c')).run Tryz.prog w = .ok (.bool a.isNone) w := fun w a n c n' c' => Lib.run_eql_slice_nil w _ _ a n c n' c' Tryz.underlying58
  have HL := hide h
  obtain ⟨A, c, rfl, h1, h2, h3⟩ := h
  unfold maxLen at h2
  rcases A with _ | a
  · have h0 : l = [] := by
      rcases Nat.eq_zero_or_pos l.length with h0 | h0
      · exact List.eq_nil_of_length_eq_zero h0
      · obtain ⟨b, off, h, _⟩ := h3 h0; cases h
    subst h0
    clear h3
    go_enter Tryz.func82, Tryz.ntmps82
    go_wp2
    go_ret
    exact ⟨_, rfl, World.ownsRow_nil _ _ _ _, Below.refl _ _⟩
  · clear h3
    go_enter Tryz.func82, Tryz.ntmps82
    go_wp2_with (at_builtin; refine wpList_append_sl _ rfl _ _ 58 rfl w.heap.size 25 i0 (.int .u64 0) 1 8 Tryz.underlying58 hi hz0 hz1 hz2 rfl (by decide) _ _ _ rfl (World.ownsRow_made w #[] 0 (Nat.le_refl _) (Nat.zero_le _) rfl) _ l rfl (HL.out.alloc _) uc_len (fun _ u hu => by simp [uc] at hu; subst hu; rfl) (by unfold maxLen; omega) (by omega) (by simp) ?_)
    intro v' w1 hown hb
    go_wp2
    go_ret
    exact ⟨v', rfl, by simpa using hown, (balMe _ _).trans hb⟩
set_option maxHeartbeats 2000000 in
theorem Equal_cells (va vb : Value) (a b : List Int) (w : World) (ha : Cells w va a) (hb : Cells w vb b) :
    Calls Tryz.prog 128 #[va, vb] w fun e w' => e = .returned (.bool (decide (a = b))) ∧ Below w.heap.size w w' := by
  have ha' := ha
  have hb' := hb
  obtain ⟨A, c, rfl, h1, h2, -⟩ := ha'
  obtain ⟨B, d, rfl, h3, h4, -⟩ := hb'
  unfold maxLen at h2 h4
  have HA := hide ha
  have HB := hide hb
  clear ha hb
  by_cases hn : a.length = b.length
  · have q : (((a.length : Int)) != ((b.length : Int))) = false := by rw [bne_eq_false_iff_eq]; omega
    have HN := hide hn
    clear hn
    go_enter Tryz.func128, Tryz.ntmps128
    go_wp2
    go_loopw [13] (fun i wr => ∃ k : Nat, k ≤ a.length ∧ i = .int .i64 k ∧ Below w.heap.size w wr ∧ Hid (a.take k = b.take k)) (fun i _ => a.length - (Go.RowKit.intOf i).toNat)
    case atStart => exact ⟨0, Nat.zero_le _, rfl, Below.refl _ _, hide (by simp)⟩
    case round =>
      obtain ⟨k, hk, rfl, hbw, HE⟩ := hrel
      by_cases hlt : k < a.length
      · have hlb : k < b.length := by have := HN.out; omega
        obtain ⟨b1, o1, rfl, -, c0⟩ := cells_at (HA.out.below hbw) hlt
        obtain ⟨b2, o2, rfl, -, c2⟩ := cells_at (HB.out.below hbw) hlb
        by_cases he : a[k] = b[k]
        · have e1 : (a[k] != b[k]) = false := by rw [bne_eq_false_iff_eq]; exact he
          have HE' := hide (show a.take (k + 1) = b.take (k + 1) by rw [List.take_succ_eq_append_getElem hlt, List.take_succ_eq_append_getElem hlb, HE.out, he])
          clear he
          generalize a[k] = x at *
          generalize b[k] = y at *
          go_wp2
          go_quiet (fail)
          go_wp2
          go_roundw
          case rel => exact ⟨k + 1, by omega, by go_num, bdrewN hbw _, HE'⟩
          case measure => simp [Go.RowKit.intOf]; omega
        · have e1 : (a[k] != b[k]) = true := by rw [bne_iff_ne]; exact he
          have HF := hide (show decide (a = b) = false by
            simp only [decide_eq_false_iff_not]
            intro h
            apply he
            simp [h])
          clear he
          generalize a[k] = x at *
          generalize b[k] = y at *
          go_wp2
          go_quiet (fail)
          go_wp2
          go_ret
          exact ⟨ret_bool HF.out.symm, bdrewN hbw _⟩
      · have HF := hide (show a = b by
          have h := HE.out
          have := HN.out
          rwa [List.take_of_length_le (by omega), List.take_of_length_le (by omega)] at h)
        go_wp2
        go_ret
        exact ⟨ret_bool (by rw [HF.out]; simp), hbw⟩
  · have q : (((a.length : Int)) != ((b.length : Int))) = true := by rw [bne_iff_ne]; omega
    have HN := hide (show decide (a = b) = false by simp; intro e; exact hn (by rw [e]))
    clear hn
    go_enter Tryz.func128, Tryz.ntmps128
    go_wp2
    go_ret
    exact ⟨ret_bool HN.out.symm, Below.refl _ _⟩
theorem Same_anyMe (va vb : Value) (a b : List Int) (w : World) (ha : Cells w va a) (hb : Cells w vb b) :
    Calls Tryz.prog 73 #[va, vb] w fun e w' => e = .returned (.bool (decide (a = b))) ∧ Below w.heap.size w w' := by
  have HA := hide ha
  have HB := hide hb
  clear ha hb
  go_enter Tryz.func73, Tryz.ntmps73
  go_wp2_with fail
  (with_reducible refine (Equal_cells _ _ a b _ HA.out HB.out).mono ?_)
  rintro e w2 ⟨rfl, hb2⟩
  go_wp2
  go_ret
  exact ⟨rfl, hb2⟩
end Go.Proofs.YtdmbcjckgfjcaaaGreatDoor
/- Layer mem: All: deeds one behind another. -/
namespace Go.Proofs.YtdmbcjckgfjcaaaGreatDoor
open Go.RowKit
/-- a deed, as cells -/
def oc (o : Dd) : List Value := [.int .i64 o.k, .int .i64 o.t, .int .u64 o.a, .int .u64 o.b]
theorem oc_len (o : Dd) : (oc o).length = 4 := rfl
abbrev Dds (w : World) (v : Value) (l : List Dd) : Prop := Sl oc 4 w v l
theorem dd_at {w : World} {A : Option Addr} {n c i : Nat} {l : List Dd} {k t a b : Int} (h : Dds w (.slice A n c) l) (hi : i < l.length) (e : l[i] = ⟨k, t, a, b⟩) :
    ∃ g off, A = some ⟨g, off, none⟩ ∧ g < w.heap.size ∧ w.cell? ⟨g, off + i * 4, none⟩ = some (.int .i64 k) ∧ w.cell? ⟨g, off + i * 4 + 1, none⟩ = some (.int .i64 t) ∧ w.cell? ⟨g, off + i * 4 + 2, none⟩ = some (.int .u64 a) ∧ w.cell? ⟨g, off + i * 4 + 3, none⟩ = some (.int .u64 b) := by
  obtain ⟨A', c', e0, h1, h2, h3⟩ := h
  injection e0 with e1 e2 e3
  subst e1
  obtain ⟨g, off, rfl, hb, hc⟩ := h3 (by omega)
  have hd := List.getElem?_eq_getElem hi
  rw [e] at hd
  exact ⟨g, off, rfl, hb, hc i _ hd 0 _ rfl, hc i _ hd 1 _ rfl, hc i _ hd 2 _ rfl, hc i _ hd 3 _ rfl⟩
/-- what stays as the loop goes round -/
structure AllAt (B B2 M : Nat) (w0 : World) (v' : Value) (m : List Int) (l : List Dd) (k : Nat) (h : Value) (wr : World) : Prop where
  cells : wr.ownsRow B 25 1 v' m.length ((allM m (l.take k)).flatMap uc)
  had : wr.ownsRow B2 25 1 h k ((allV m (l.take k)).flatMap uc)
  map : Dm wr M
  below : Below B w0 wr
  size : B2 ≤ wr.heap.size
section
variable {B B2 M k : Nat} {w0 wr w5 w6 : World} {v' hd h'' : Value} {m : List Int} {l : List Dd} {o : Dd} {bx row : Obj}
theorem AllAt.had5 (hA : AllAt B B2 M w0 v' m l k hd wr) (hv : ∀ x, v'.ownBlock = some x → x < B2) (hg5 : (wr.alloc bx).grownBy w5 v'.ownBlock) : w5.ownsRow B2 25 1 hd k ((allV m (l.take k)).flatMap uc) := by
  refine (hA.had.alloc bx).kept hg5 ?_
  cases e : hd.ownBlock with
  | none => exact .inl rfl
  | some x =>
    refine .inr fun h => ?_
    have := (hA.had.lt x e).1
    have := hv x h.symm
    omega
theorem AllAt.next (hA : AllAt B B2 M w0 v' m l k hd wr) (hv : ∀ x, v'.ownBlock = some x → x < B2) (hM : M < B2) (hvM : v'.ownBlock ≠ some M) (hB : B ≤ B2) (ho : l[k]? = some o)
    (ho5 : w5.ownsRow B 25 1 v' m.length ((mF (allM m (l.take k)) o).flatMap uc)) (hg5 : (wr.alloc bx).grownBy w5 v'.ownBlock)
    (h6 : w6.ownsRow B2 25 1 h'' (k + 1) ((allV m (l.take k)).flatMap uc ++ [.int .u64 (vF (allM m (l.take k)) o)])) (hg6 : (w5.alloc row).grownBy w6 hd.ownBlock) :
    AllAt B B2 M w0 v' m l (k + 1) h'' w6 := by
  have hk : k < l.length := (List.getElem?_eq_some_iff.1 ho).1
  have ht : l.take (k + 1) = l.take k ++ [o] := by
    rw [List.take_succ_eq_append_getElem hk]
    rw [List.getElem?_eq_getElem hk] at ho
    injection ho with ho
    rw [ho]
  have hge : ∀ x, hd.ownBlock = some x → B2 ≤ x := fun x h => (hA.had.lt x h).1
  have hs4 : wr.heap.size ≤ (wr.alloc bx).heap.size := by simp
  have hb5 : Below B w0 w5 := (hA.below.alloc (Nat.le_trans hB hA.size) bx).grown hg5 (Nat.le_trans (Nat.le_trans hB hA.size) hs4) (fun x h => (hA.cells.lt x h).1)
  have hs5 : B2 ≤ w5.heap.size := Nat.le_trans (Nat.le_trans hA.size hs4) hg5.size
  have hs6 : B2 ≤ (w5.alloc row).heap.size := by simp; omega
  refine ⟨?_, ?_, ?_, ?_, Nat.le_trans hs6 hg6.size⟩
  · rw [ht, allM_snoc]
    refine (ho5.alloc row).kept hg6 ?_
    cases e : v'.ownBlock with
    | none => exact .inl rfl
    | some x =>
      refine .inr fun h => ?_
      have := hge x h.symm
      have := hv x e
      omega
  · rw [ht, allV_snoc, List.flatMap_append]
    exact h6
  · refine Dm.grown (Dm.below (Dm.grown (Dm.below hA.map (balMe _ _)) hg5 hvM.symm) (balMe _ _)) hg6 fun h => ?_
    have := hge M h.symm
    omega
  · exact (hb5.alloc (Nat.le_trans hB hs5) row).grown hg6 (Nat.le_trans hB hs6) (fun x h => Nat.le_trans hB (hge x h))
end
set_option maxHeartbeats 4000000 in
theorem All_any (v lv : Value) (m : List Int) (l : List Dd) (w : World) (h : Cells w v m) (hl : Dds w lv l) (hbig : m.length * 8 ≤ 140737488351232) (hbl : l.length * 8 ≤ 140737488355328) :
    Calls Tryz.prog 139 #[v, lv] w fun e w' => ∃ v' h', e = .returned (.tuple #[v', h', .int .i64 (allNMe m l : Nat)]) ∧ OwnC w.heap.size w' v' (allM m l) ∧ OwnC w.heap.size w' h' (allV m l) ∧ Below w.heap.size w w' := by
  have HC := hide h
  have HL := hide hl
  have hl' := hl
  obtain ⟨A, c, rfl, h1, h2, -⟩ := hl'
  unfold maxLen at h2
  clear h hl
  go_enter Tryz.func139, Tryz.ntmps139
  go_wp2_with fail
  (with_reducible refine (Clone_cells _ m _ HC.out hbig).mono ?_)
  rintro e w2 ⟨v', rfl, hown, hb2⟩
  obtain ⟨A', c', rfl, hc1, hc2⟩ := own_form hown
  have HO := hide hown
  clear hown
  go_wp2_with fail
  (with_reducible refine (deeds_any _).mono ?_)
  rintro e w3 ⟨rfl, hD3, hb3⟩
  have hs3 := hD3.lt
  have hvl : ∀ x, (Value.slice A' m.length c').ownBlock = some x → x < w2.heap.size := fun x h => (HO.out.lt x h).2
  have HV := hide (show ∀ x, (Value.slice A' m.length c').ownBlock = some x → x < w3.heap.size from fun x h => Nat.lt_trans (hvl x h) hs3)
  have HVM := hide (show (Value.slice A' m.length c').ownBlock ≠ some w2.heap.size from fun h => Nat.lt_irrefl _ (hvl _ h))
  have hB23 : w.heap.size ≤ w3.heap.size := Nat.le_trans hb2.size hb3.size
  have HD := hide hD3
  obtain ⟨i0, hi, hz0, hz1, hz2⟩ := info_parts infoU
  unfold maxLen at hc2
  clear hD3 hvl
  go_wp2
  go_loopw [9, 10, 20] (fun hd n i wr => ∃ k : Nat, k ≤ l.length ∧ i = .int .i64 k ∧ n = .int .i64 (allNMe m (l.take k) : Nat) ∧ Hid (AllAt w.heap.size w3.heap.size w2.heap.size w (.slice A' m.length c') m l k hd wr)) (fun _ _ i _ => l.length - (Go.RowKit.intOf i).toNat)
  case atStart =>
    exact ⟨0, Nat.zero_le _, rfl, rfl, hide ⟨own_below HO.out hb3, World.ownsRow_nil _ _ _ _, HD.out, hb2.trans (hb3.mono hb2.size), Nat.le_refl _⟩⟩
  case round =>
    obtain ⟨k, hk, rfl, rfl, HA⟩ := hrel
    have hlen := allM_len (l.take k) m
    have hnl := allN_le (l.take k) m
    have hnk : (l.take k).length ≤ k := List.length_take_le _ _
    by_cases hlt : k < l.length
    · obtain ⟨kk, t, a, b, ho⟩ : ∃ kk t a b, l[k] = ⟨kk, t, a, b⟩ := ⟨l[k].k, l[k].t, l[k].a, l[k].b, rfl⟩
      have hHL := HL.out.below ((HA.out.below))
      obtain ⟨g, off, rfl, hg, d0, d1, d2, d3⟩ := dd_at hHL hlt ho
      have ho' : l[k]? = some ⟨kk, t, a, b⟩ := by rw [List.getElem?_eq_getElem hlt, ho]
      have HNX := hide (fun (w5 w6 : World) (h'' : Value) (bx row : Obj) => HA.out.next (w5 := w5) (w6 := w6) (h'' := h'') (bx := bx) (row := row) HV.out hs3 HVM.out hB23 ho')
      have HN := hide (show allNMe m (l.take (k + 1)) = allNMe m (l.take k) + (if okF (allM m (l.take k)) ⟨kk, t, a, b⟩ then 1 else 0) by rw [List.take_succ_eq_append_getElem hlt, ho, allN_snoc])
      have HH5 := hide (fun (w5 : World) (bx : Obj) => HA.out.had5 (w5 := w5) (bx := bx) HV.out)
      have hss := HA.out.size
      have hrs := HA.out.below.size
      have HCC := HA.out.cells
      have HMM := hide HA.out.map
      clear ho hHL ho'
      obtain ⟨cur, hcur⟩ : ∃ cur, allM m (l.take k) = cur := ⟨_, rfl⟩
      obtain ⟨N, hN⟩ : ∃ N, allNMe m (l.take k) = N := ⟨_, rfl⟩
      rw [hcur] at HNX HN hlen HCC
      rw [hN] at HN hnl
      rw [hN]
      have HOC := hide (show OwnC w.heap.size wr (.slice A' m.length c') cur by
        show wr.ownsRow _ _ 1 _ cur.length _
        rw [hlen]; exact HCC)
      have hlen := hide hlen
      clear HCC hcur hN
      go_wp2_with fail
      (with_reducible refine (turn_any _ cur _ kk t a b _ w.heap.size (HOC.out.alloc _) (HMM.out.below (balMe _ _))).mono ?_)
      rintro e w5 ⟨rfl, ho5, hg5⟩
      rw [hlen.out] at ho5
      have HNX := hide (fun (w6 : World) (h'' : Value) (row : Obj) => HNX.out w5 w6 h'' _ row ho5 hg5)
      have HH5 := hide (HH5.out w5 _ hg5)
      have hs5 := hg5.size
      simp at hs5
      clear ho5 hg5
      obtain ⟨x, hx⟩ : ∃ x, vF cur ⟨kk, t, a, b⟩ = x := ⟨_, rfl⟩
      obtain ⟨d, hd⟩ : ∃ d, okF cur ⟨kk, t, a, b⟩ = d := ⟨_, rfl⟩
      rw [hx] at HNX
      rw [hd] at HN
      rw [hx, hd]
      clear hx hd
      cases d
      · go_wp2_with (at_builtin; refine wpList_append_own _ rfl _ _ 44 rfl w3.heap.size 25 i0 (.int .u64 0) 1 8 Tryz.underlying44 hi hz0 hz1 hz2 rfl (by decide) _ _ _ rfl (HH5.out.alloc _) ⟨_, 0, none⟩ 1 1 [.int .u64 x] rfl rfl (row_at _ _ _ (by simp)) (by simp [Value.oneCell']) (by simp only [maxLen]; omega) (by omega) (by simp; omega) ?_; intro h'' w6 hown' hgrow _)
        go_roundw
        case rel => exact ⟨k + 1, by omega, by go_num, by rw [HN.out]; simp, hide (HNX.out _ _ _ hown' hgrow)⟩
        case measure => simp [Go.RowKit.intOf]; omega
      · go_wp2_with (at_builtin; refine wpList_append_own _ rfl _ _ 44 rfl w3.heap.size 25 i0 (.int .u64 0) 1 8 Tryz.underlying44 hi hz0 hz1 hz2 rfl (by decide) _ _ _ rfl (HH5.out.alloc _) ⟨_, 0, none⟩ 1 1 [.int .u64 x] rfl rfl (row_at _ _ _ (by simp)) (by simp [Value.oneCell']) (by simp only [maxLen]; omega) (by omega) (by simp; omega) ?_; intro h'' w6 hown' hgrow _)
        go_roundw
        case rel => exact ⟨k + 1, by omega, by go_num, by rw [HN.out]; go_num, hide (HNX.out _ _ _ hown' hgrow)⟩
        case measure => simp [Go.RowKit.intOf]; omega
    · go_wp2
      go_ret3
      have e : l.take k = l := List.take_of_length_le (by omega)
      have hA := HA.out
      have hkk : k = l.length := by omega
      rw [e]
      refine ⟨_, _, rfl, ?_, ?_, hA.below⟩
      · have := hA.cells
        rw [e] at this
        show wr.ownsRow _ _ 1 _ (allM m l).length _
        rw [allM_len]; exact this
      · have := own_base hA.had hB23
        rw [e, hkk] at this
        show wr.ownsRow _ _ 1 _ (allV m l).length _
        rw [allV_len]; exact this
end Go.Proofs.YtdmbcjckgfjcaaaGreatDoor
/- Layer mem: each call's contract, with named values. -/
namespace Go.Proofs.YtdmbcjckgfjcaaaGreatDoor
open Go.RowKit
theorem All_c (v lv : Value) (m : List Int) (l : List Dd) (w : World) (h : Cells w v m) (hl : Dds w lv l) (hbig : m.length * 8 ≤ 140737488351232) (hbl : l.length * 8 ≤ 140737488355328) (r hd : List Int) (n : Int) (hr : allM m l = r) (hh : allV m l = hd) (hn : ((allNMe m l : Nat) : Int) = n) (p q : Nat) (hp : r.length = p) (hq : hd.length = q) :
    Calls Tryz.prog 139 #[v, lv] w fun e w' => ∃ A c H d, e = .returned (.tuple #[.slice A p c, .slice H q d, .int .i64 n]) ∧ (p ≤ c ∧ c ≤ 2 ^ 63 - 1) ∧ (q ≤ d ∧ d ≤ 2 ^ 63 - 1) ∧ Cells w' (.slice A p c) r ∧ Cells w' (.slice H q d) hd ∧ Below w.heap.size w w' := by
  subst hp hq hr hh hn
  refine (All_any v lv m l w h hl hbig hbl).mono ?_
  rintro e w' ⟨v', h', rfl, ho, hd, hb⟩
  obtain ⟨A, c, rfl, h1, h2⟩ := own_form ho
  obtain ⟨H, d, rfl, h3, h4⟩ := own_form hd
  exact ⟨A, c, H, d, rfl, ⟨h1, by unfold maxLen at h2; omega⟩, ⟨h3, by unfold maxLen at h4; omega⟩, ho.cells, hd.cells, hb⟩
theorem cells_two {w : World} {A : Option Addr} {c : Nat} {x y : Int} (h : Cells w (.slice A 2 c) [x, y]) : ∃ b off, A = some ⟨b, off, none⟩ ∧ w.cell? ⟨b, off, none⟩ = some (.int .u64 x) ∧ w.cell? ⟨b, off + 1, none⟩ = some (.int .u64 y) := by
  obtain ⟨b, off, rfl, -, h0⟩ := cells_at h (k := 0) (by simp)
  obtain ⟨b', off', e, -, h1⟩ := cells_at h (k := 1) (by simp)
  injection e with e; injection e with e1 e2; subst e1; subst e2
  exact ⟨b, off, rfl, h0, h1⟩
end Go.Proofs.YtdmbcjckgfjcaaaGreatDoor
/- Layer deque: a machine as a value; one that came in; the box of a machine that turns. -/
namespace Go.Proofs.YtdmbcjckgfjcaaaGreatDoor
open Go.RowKit Go.Joins Go.WideShapes Go.ChangeShapes Go.ChangeAt Go.Deep
abbrev mvv (k p s c b t x u : Int) : Value := .agg #[.int .i64 k, .int .i64 p, .int .i64 s, .int .i64 c, .int .u64 b, .int .u64 t, .int .i64 x, .int .i64 u]
def I6 (x : Int) : Prop := -9223372036854775808 ≤ x ∧ x ≤ 9223372036854775807
end Go.Proofs.YtdmbcjckgfjcaaaGreatDoor
/- Layer deque: numbers stay numbers of 64 bits. No program in this text. -/
namespace Go.Proofs.YtdmbcjckgfjcaaaGreatDoor
theorem w64_U' (x : Int) : U (w64 x) := by unfold U w64; omega
theorem load_U {m : List Int} (h : AllU m) (a : Int) : U (loadF m a) := vF_U h _
end Go.Proofs.YtdmbcjckgfjcaaaGreatDoor
/- Layer deque: what is in the deque, place by place. No program in this text. -/
namespace Go.Proofs.YtdmbcjckgfjcaaaGreatDoor
/-- the place of the k-th one -/
def plF (fr base size : Int) (k : Nat) : Int := s64 (base + 2 + w64 (fr + (k : Nat)) % max size 1)
def plLDq (fr base size : Int) (n : Nat) : List Int := (List.range n).map (plF fr base size)
theorem plL_succ (fr base size : Int) (n : Nat) : plLDq fr base size (n + 1) = plLDq fr base size n ++ [plF fr base size n] := by unfold plLDq; rw [List.range_succ, List.map_append]; rfl
theorem plL_len (fr base size : Int) (n : Nat) : (plLDq fr base size n).length = n := by unfold plLDq; simp
theorem items_big {m : List Int} {base size : Int} {o : Mc} {fr T d : Int} (hf : loadF m base = fr) (hT : endF m base o = T) (hd : w64 (T - fr) = d) (h : min (max size 1) 64 < d) : itemsF m base size o = [] := by
  unfold itemsF
  simp only [hf, hT, hd]
  rw [if_pos (.inr h)]
theorem items_fit {m : List Int} {base size : Int} {o : Mc} {fr T d : Int} (hf : loadF m base = fr) (hT : endF m base o = T) (hd : w64 (T - fr) = d) (h : d ≤ min (max size 1) 64) (D : Nat) (hD : d = D) : itemsF m base size o = ((plLDq fr base size D).map (loadF m)).map s64 := by
  have h64 : d ≤ 64 := by omega
  have h0 : 0 ≤ d := by rw [← hd]; unfold w64; omega
  have hs : s64 (T - fr) = d := by unfold w64 at hd; unfold s64; omega
  unfold itemsF
  simp only [hf, hT, hd, hs]
  by_cases hz : d ≤ 0
  · have : D = 0 := by omega
    subst this
    rw [if_pos (.inl hz)]
    rfl
  · rw [if_neg (by omega)]
    unfold plLDq
    rw [List.map_map, List.map_map]
    rw [show d.toNat = D by omega]
    rfl
/-- going on from fr, so often, leads to T -/
theorem go_end {fr T d : Int} (hT : U T) (hd : w64 (T - fr) = d) (D : Nat) (hD : d = D) : w64 (fr + (D : Nat)) = T := by
  unfold w64 at *; unfold U at hT; omega
theorem go_ne {fr T d : Int} (_hT : U T) (hd : w64 (T - fr) = d) {D j : Nat} (hD : d = D) (h64 : D ≤ 64) (hj : j < D) : w64 (fr + (j : Nat)) ≠ T := by
  unfold w64 at *; omega
theorem go_next (fr : Int) (j : Nat) : w64 (w64 (fr + (j : Nat)) + 1) = w64 (fr + ((j + 1 : Nat) : Int)) := by unfold w64; omega
theorem go_left {fr T d : Int} (hT : U T) (hd : w64 (T - fr) = d) {D j : Nat} (hD : d = D) (hj : j ≤ D) (h64 : D ≤ 64) : (w64 (T - w64 (fr + (j : Nat)))).toNat = D - j := by
  unfold w64 at *; unfold U at hT; omega
theorem end_yes {m : List Int} {base : Int} {o : Mc} {q to : Int} (hq : s64 (base + 1) = q) (ht : loadF m q = to) (ho : extF o = true) : endF m base o = w64 (to + 1) := by unfold endF; rw [hq, ht, ho]; rfl
theorem end_no {m : List Int} {base : Int} {o : Mc} {q to : Int} (hq : s64 (base + 1) = q) (ht : loadF m q = to) (hu : U to) (ho : extF o = false) : endF m base o = to := by
  unfold endF; rw [hq, ht, ho]; unfold U at hu; unfold w64; simp; omega
end Go.Proofs.YtdmbcjckgfjcaaaGreatDoor
