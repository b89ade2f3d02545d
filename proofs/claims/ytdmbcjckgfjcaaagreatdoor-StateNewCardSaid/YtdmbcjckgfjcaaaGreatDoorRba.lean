/- Layer state: structs compared; what a machine has beside its lists. Written by tools/genstate6.py. -/
import Derived.Lib.SliceRun
import Derived.Laws.StructEq
import Derived.Test.YtdmbcjckgfjcaaaGreatDoorRax
namespace Go.Proofs.YtdmbcjckgfjcaaaGreatDoor
open Go.RowKit Go.Joins
abbrev mcL (d : Mc) : List Value := [.int .i64 d.kind, .int .i64 d.pc, .int .i64 d.base, .int .i64 d.cap, .int .u64 d.b, .int .u64 d.t, .int .i64 d.x, .int .i64 d.out]
abbrev cmL (c : Cm) : List Value := [.int .i64 c.kind, .int .i64 c.pc, .int .i64 c.head, .int .i64 c.next, .int .u64 c.h, .int .i64 c.x, .int .i64 c.y, .int .i64 c.out]
abbrev gqL (g : Gq) : List Value := [.int .i64 g.pc, .int .i64 g.mode, .int .i64 g.obj, .int .i64 g.who, .int .i64 g.d.kind, .int .i64 g.d.pc, .int .i64 g.d.base, .int .i64 g.d.cap, .int .u64 g.d.b, .int .u64 g.d.t, .int .i64 g.d.x, .int .i64 g.d.out, .int .i64 g.c.kind, .int .i64 g.c.pc, .int .i64 g.c.head, .int .i64 g.c.next, .int .u64 g.c.h, .int .i64 g.c.x, .int .i64 g.c.y, .int .i64 g.c.out, .int .i64 g.bin, .int .i64 g.out]
abbrev pwL (q : Wq) : List Value := [.int .i64 q.pc, .int .i64 q.obj, .int .i64 q.slot, .int .i64 q.victim, .int .i64 q.bin, .int .i64 q.d.kind, .int .i64 q.d.pc, .int .i64 q.d.base, .int .i64 q.d.cap, .int .u64 q.d.b, .int .u64 q.d.t, .int .i64 q.d.x, .int .i64 q.d.out, .int .i64 q.c.kind, .int .i64 q.c.pc, .int .i64 q.c.head, .int .i64 q.c.next, .int .u64 q.c.h, .int .i64 q.c.x, .int .i64 q.c.y, .int .i64 q.c.out, .int .i64 q.g.pc, .int .i64 q.g.mode, .int .i64 q.g.obj, .int .i64 q.g.who, .int .i64 q.g.d.kind, .int .i64 q.g.d.pc, .int .i64 q.g.d.base, .int .i64 q.g.d.cap, .int .u64 q.g.d.b, .int .u64 q.g.d.t, .int .i64 q.g.d.x, .int .i64 q.g.d.out, .int .i64 q.g.c.kind, .int .i64 q.g.c.pc, .int .i64 q.g.c.head, .int .i64 q.g.c.next, .int .u64 q.g.c.h, .int .i64 q.g.c.x, .int .i64 q.g.c.y, .int .i64 q.g.c.out, .int .i64 q.g.bin, .int .i64 q.g.out]
abbrev puL (q : Uq) : List Value := [.int .i64 q.pc, .int .i64 q.ip, .int .i64 q.ret, .int .i64 q.want, .int .i64 q.old, .int .i64 q.obj, .int .i64 q.slot, .int .i64 q.bin, .int .i64 q.c.kind, .int .i64 q.c.pc, .int .i64 q.c.head, .int .i64 q.c.next, .int .u64 q.c.h, .int .i64 q.c.x, .int .i64 q.c.y, .int .i64 q.c.out, .int .i64 q.g.pc, .int .i64 q.g.mode, .int .i64 q.g.obj, .int .i64 q.g.who, .int .i64 q.g.d.kind, .int .i64 q.g.d.pc, .int .i64 q.g.d.base, .int .i64 q.g.d.cap, .int .u64 q.g.d.b, .int .u64 q.g.d.t, .int .i64 q.g.d.x, .int .i64 q.g.d.out, .int .i64 q.g.c.kind, .int .i64 q.g.c.pc, .int .i64 q.g.c.head, .int .i64 q.g.c.next, .int .u64 q.g.c.h, .int .i64 q.g.c.x, .int .i64 q.g.c.y, .int .i64 q.g.c.out, .int .i64 q.g.bin, .int .i64 q.g.out]
abbrev psL (q : Sq) : List Value := [.int .u64 (q.marks : Int), .int .u64 (q.black : Int), .int .i64 q.work, .int .i64 q.epoch, .int .i64 q.restarts, .bool q.flag, .bool q.done, .int .i64 q.dpc, .int .i64 q.di]
abbrev tiL (q : Sq) : List Value := [.int .u64 (q.marks : Int), .int .u64 (q.black : Int)]
abbrev deL (q : Sq) : List Value := [.int .i64 q.dpc, .int .i64 q.di]
theorem fld {P : Program} {w : World} {d : Nat} {xs ys : Array Value} {f : Field} {fs : List Field} {x y : Value} {b c : Bool} (hn : (f.name != "_") = true) (hx : (part f.type xs f.offset).run P w = .ok x w) (hy : (part f.type ys f.offset).run P w = .ok y w)
    (he : (Op.equalIn d f.type x y).run P w = .ok b w) (hr : (Op.eqFields d xs ys fs).run P w = .ok c w) : (Op.eqFields d xs ys (f :: fs)).run P w = .ok (b && c) w := by
  have hn' : f.name ≠ "_" := by simpa using hn
  rw [Op.eqFields, if_pos hn']
  simp only [Sem.run_bind, hx, hy, he, Result.andThen_ok]
  cases b <;> simp [hr]
theorem fld0 {P : Program} {w : World} {d : Nat} {xs ys : Array Value} : (Op.eqFields d xs ys []).run P w = .ok true w := rfl
theorem part1 {P : Program} {w : World} {t : TypeId} {l : List Value} {i : Nat} {v : Value} {dd : TypeDesc} (hu : P.underlying t = some dd) (hd : (match dd with | .struct _ | .array _ _ => true | _ => false) = false) (h : l[i]? = some v) : (part t l.toArray i).run P w = .ok v w := by
  have hagg : (isAgg t).run P w = .ok false w := by
    unfold isAgg
    rw [Sem.run_bind, run_underlying hu w]
    cases dd <;> simp_all
  unfold part
  rw [Sem.run_bind, hagg, Result.andThen_ok]
  simp only [Bool.false_eq_true, if_false]
  have : l.toArray[i]? = some v := by simpa using h
  rw [this]; rfl
theorem partk {P : Program} {w : World} {t : TypeId} {l m : List Value} {i k : Nat} {dd : TypeDesc} (hu : P.underlying t = some dd) (hd : (match dd with | .struct _ | .array _ _ => true | _ => false) = true) (hs : (P.info? t).map (·.size) = some k) (h : (l.drop i).take k = m) : (part t l.toArray i).run P w = .ok (.agg m.toArray) w := by
  have hagg : (isAgg t).run P w = .ok true w := by
    unfold isAgg
    rw [Sem.run_bind, run_underlying hu w]
    cases dd <;> simp_all
  cases hq : P.info? t with
  | none => simp [hq] at hs
  | some i0 =>
    have hk : i0.size = k := by simpa [hq] using hs
    unfold part
    rw [Sem.run_bind, hagg, Result.andThen_ok]
    subst h hk
    simp [sizeOf, typeInfo, hq, List.extract_eq_take_drop]
theorem eq_mcB (n : Nat) (q q_ : Mc) (w : World) : (Op.equalIn (n + 2) 80 (.agg (mcL q).toArray) (.agg (mcL q_).toArray)).run Tryz.prog w = .ok ((q.kind == q_.kind) && ((q.pc == q_.pc) && ((q.base == q_.base) && ((q.cap == q_.cap) && ((q.b == q_.b) && ((q.t == q_.t) && ((q.x == q_.x) && ((q.out == q_.out) && true)))))))) w := by
  rw [show n + 2 = (n + 1) + 1 from rfl, run_equalIn_agg w (n + 1) _ _ _ (by kernel_rfl) (by kernel_rfl)]
  rw [show (Tryz.prog.fieldsOf 80).toList = [⟨"Kind", 3, 0, false, "", "", 0⟩, ⟨"PC", 3, 1, false, "", "", 8⟩, ⟨"Base", 3, 2, false, "", "", 16⟩, ⟨"Cap", 3, 3, false, "", "", 24⟩, ⟨"B", 25, 4, false, "", "", 32⟩, ⟨"T", 25, 5, false, "", "", 40⟩, ⟨"X", 3, 6, false, "", "", 48⟩, ⟨"Out", 3, 7, false, "", "", 56⟩] by kernel_rfl]
  refine fld (by rfl) (part1 Tryz.underlying3 rfl rfl) (part1 Tryz.underlying3 rfl rfl) (run_equalIn_int w (n + 0) _ .i64 .i64 _ _ (by kernel_rfl)) ?_
  refine fld (by rfl) (part1 Tryz.underlying3 rfl rfl) (part1 Tryz.underlying3 rfl rfl) (run_equalIn_int w (n + 0) _ .i64 .i64 _ _ (by kernel_rfl)) ?_
  refine fld (by rfl) (part1 Tryz.underlying3 rfl rfl) (part1 Tryz.underlying3 rfl rfl) (run_equalIn_int w (n + 0) _ .i64 .i64 _ _ (by kernel_rfl)) ?_
  refine fld (by rfl) (part1 Tryz.underlying3 rfl rfl) (part1 Tryz.underlying3 rfl rfl) (run_equalIn_int w (n + 0) _ .i64 .i64 _ _ (by kernel_rfl)) ?_
  refine fld (by rfl) (part1 Tryz.underlying25 rfl rfl) (part1 Tryz.underlying25 rfl rfl) (run_equalIn_int w (n + 0) _ .u64 .u64 _ _ (by kernel_rfl)) ?_
  refine fld (by rfl) (part1 Tryz.underlying25 rfl rfl) (part1 Tryz.underlying25 rfl rfl) (run_equalIn_int w (n + 0) _ .u64 .u64 _ _ (by kernel_rfl)) ?_
  refine fld (by rfl) (part1 Tryz.underlying3 rfl rfl) (part1 Tryz.underlying3 rfl rfl) (run_equalIn_int w (n + 0) _ .i64 .i64 _ _ (by kernel_rfl)) ?_
  refine fld (by rfl) (part1 Tryz.underlying3 rfl rfl) (part1 Tryz.underlying3 rfl rfl) (run_equalIn_int w (n + 0) _ .i64 .i64 _ _ (by kernel_rfl)) ?_
  exact fld0
theorem eq_cmB (n : Nat) (q q_ : Cm) (w : World) : (Op.equalIn (n + 2) 89 (.agg (cmL q).toArray) (.agg (cmL q_).toArray)).run Tryz.prog w = .ok ((q.kind == q_.kind) && ((q.pc == q_.pc) && ((q.head == q_.head) && ((q.next == q_.next) && ((q.h == q_.h) && ((q.x == q_.x) && ((q.y == q_.y) && ((q.out == q_.out) && true)))))))) w := by
  rw [show n + 2 = (n + 1) + 1 from rfl, run_equalIn_agg w (n + 1) _ _ _ (by kernel_rfl) (by kernel_rfl)]
  rw [show (Tryz.prog.fieldsOf 89).toList = [⟨"Kind", 3, 0, false, "", "", 0⟩, ⟨"PC", 3, 1, false, "", "", 8⟩, ⟨"Head", 3, 2, false, "", "", 16⟩, ⟨"Next", 3, 3, false, "", "", 24⟩, ⟨"H", 25, 4, false, "", "", 32⟩, ⟨"X", 3, 5, false, "", "", 40⟩, ⟨"Y", 3, 6, false, "", "", 48⟩, ⟨"Out", 3, 7, false, "", "", 56⟩] by kernel_rfl]
  refine fld (by rfl) (part1 Tryz.underlying3 rfl rfl) (part1 Tryz.underlying3 rfl rfl) (run_equalIn_int w (n + 0) _ .i64 .i64 _ _ (by kernel_rfl)) ?_
  refine fld (by rfl) (part1 Tryz.underlying3 rfl rfl) (part1 Tryz.underlying3 rfl rfl) (run_equalIn_int w (n + 0) _ .i64 .i64 _ _ (by kernel_rfl)) ?_
  refine fld (by rfl) (part1 Tryz.underlying3 rfl rfl) (part1 Tryz.underlying3 rfl rfl) (run_equalIn_int w (n + 0) _ .i64 .i64 _ _ (by kernel_rfl)) ?_
  refine fld (by rfl) (part1 Tryz.underlying3 rfl rfl) (part1 Tryz.underlying3 rfl rfl) (run_equalIn_int w (n + 0) _ .i64 .i64 _ _ (by kernel_rfl)) ?_
  refine fld (by rfl) (part1 Tryz.underlying25 rfl rfl) (part1 Tryz.underlying25 rfl rfl) (run_equalIn_int w (n + 0) _ .u64 .u64 _ _ (by kernel_rfl)) ?_
  refine fld (by rfl) (part1 Tryz.underlying3 rfl rfl) (part1 Tryz.underlying3 rfl rfl) (run_equalIn_int w (n + 0) _ .i64 .i64 _ _ (by kernel_rfl)) ?_
  refine fld (by rfl) (part1 Tryz.underlying3 rfl rfl) (part1 Tryz.underlying3 rfl rfl) (run_equalIn_int w (n + 0) _ .i64 .i64 _ _ (by kernel_rfl)) ?_
  refine fld (by rfl) (part1 Tryz.underlying3 rfl rfl) (part1 Tryz.underlying3 rfl rfl) (run_equalIn_int w (n + 0) _ .i64 .i64 _ _ (by kernel_rfl)) ?_
  exact fld0
theorem eq_mc (n : Nat) (q q_ : Mc) (w : World) : (Op.equalIn (n + 2) 80 (.agg (mcL q).toArray) (.agg (mcL q_).toArray)).run Tryz.prog w = .ok (decide (q = q_)) w := by
  rw [eq_mcB]
  congr 1
  cases q; cases q_
  rw [Bool.eq_iff_iff]
  simp
theorem eq_cm (n : Nat) (q q_ : Cm) (w : World) : (Op.equalIn (n + 2) 89 (.agg (cmL q).toArray) (.agg (cmL q_).toArray)).run Tryz.prog w = .ok (decide (q = q_)) w := by
  rw [eq_cmB]
  congr 1
  cases q; cases q_
  rw [Bool.eq_iff_iff]
  simp
theorem eq_gqB (n : Nat) (q q_ : Gq) (w : World) : (Op.equalIn (n + 3) 91 (.agg (gqL q).toArray) (.agg (gqL q_).toArray)).run Tryz.prog w = .ok ((q.pc == q_.pc) && ((q.mode == q_.mode) && ((q.obj == q_.obj) && ((q.who == q_.who) && (decide (q.d = q_.d) && (decide (q.c = q_.c) && ((q.bin == q_.bin) && ((q.out == q_.out) && true)))))))) w := by
  rw [show n + 3 = (n + 2) + 1 from rfl, run_equalIn_agg w (n + 2) _ _ _ (by kernel_rfl) (by kernel_rfl)]
  rw [show (Tryz.prog.fieldsOf 91).toList = [⟨"PC", 3, 0, false, "", "", 0⟩, ⟨"Mode", 3, 1, false, "", "", 8⟩, ⟨"Obj", 3, 2, false, "", "", 16⟩, ⟨"Who", 3, 3, false, "", "", 24⟩, ⟨"D", 80, 4, false, "", "", 32⟩, ⟨"C", 89, 12, false, "", "", 96⟩, ⟨"Bin", 3, 20, false, "", "", 160⟩, ⟨"Out", 3, 21, false, "", "", 168⟩] by kernel_rfl]
  refine fld (by rfl) (part1 Tryz.underlying3 rfl rfl) (part1 Tryz.underlying3 rfl rfl) (run_equalIn_int w (n + 1) _ .i64 .i64 _ _ (by kernel_rfl)) ?_
  refine fld (by rfl) (part1 Tryz.underlying3 rfl rfl) (part1 Tryz.underlying3 rfl rfl) (run_equalIn_int w (n + 1) _ .i64 .i64 _ _ (by kernel_rfl)) ?_
  refine fld (by rfl) (part1 Tryz.underlying3 rfl rfl) (part1 Tryz.underlying3 rfl rfl) (run_equalIn_int w (n + 1) _ .i64 .i64 _ _ (by kernel_rfl)) ?_
  refine fld (by rfl) (part1 Tryz.underlying3 rfl rfl) (part1 Tryz.underlying3 rfl rfl) (run_equalIn_int w (n + 1) _ .i64 .i64 _ _ (by kernel_rfl)) ?_
  refine fld (by rfl) (partk (m := mcL q.d) (k := 8) Tryz.underlying80 rfl (by kernel_rfl) rfl) (partk (m := mcL q_.d) (k := 8) Tryz.underlying80 rfl (by kernel_rfl) rfl) (eq_mc (n + 0) _ _ w) ?_
  refine fld (by rfl) (partk (m := cmL q.c) (k := 8) Tryz.underlying89 rfl (by kernel_rfl) rfl) (partk (m := cmL q_.c) (k := 8) Tryz.underlying89 rfl (by kernel_rfl) rfl) (eq_cm (n + 0) _ _ w) ?_
  refine fld (by rfl) (part1 Tryz.underlying3 rfl rfl) (part1 Tryz.underlying3 rfl rfl) (run_equalIn_int w (n + 1) _ .i64 .i64 _ _ (by kernel_rfl)) ?_
  refine fld (by rfl) (part1 Tryz.underlying3 rfl rfl) (part1 Tryz.underlying3 rfl rfl) (run_equalIn_int w (n + 1) _ .i64 .i64 _ _ (by kernel_rfl)) ?_
  exact fld0
theorem eq_gq (n : Nat) (q q_ : Gq) (w : World) : (Op.equalIn (n + 3) 91 (.agg (gqL q).toArray) (.agg (gqL q_).toArray)).run Tryz.prog w = .ok (decide (q = q_)) w := by
  rw [eq_gqB]
  congr 1
  cases q; cases q_
  rw [Bool.eq_iff_iff]
  simp
theorem eq_pwB (n : Nat) (q q_ : Wq) (w : World) : (Op.equalIn (n + 4) 210 (.agg (pwL q).toArray) (.agg (pwL q_).toArray)).run Tryz.prog w = .ok ((q.pc == q_.pc) && ((q.obj == q_.obj) && ((q.slot == q_.slot) && ((q.victim == q_.victim) && ((q.bin == q_.bin) && (decide (q.d = q_.d) && (decide (q.c = q_.c) && (decide (q.g = q_.g) && true)))))))) w := by
  rw [show n + 4 = (n + 3) + 1 from rfl, run_equalIn_agg w (n + 3) _ _ _ (by kernel_rfl) (by kernel_rfl)]
  rw [show (Tryz.prog.fieldsOf 210).toList = [⟨"pc", 3, 0, false, "", "besom/state", 0⟩, ⟨"obj", 3, 1, false, "", "besom/state", 8⟩, ⟨"slot", 3, 2, false, "", "besom/state", 16⟩, ⟨"victim", 3, 3, false, "", "besom/state", 24⟩, ⟨"bin", 3, 4, false, "", "besom/state", 32⟩, ⟨"d", 80, 5, false, "", "besom/state", 40⟩, ⟨"c", 89, 13, false, "", "besom/state", 104⟩, ⟨"g", 91, 21, false, "", "besom/state", 168⟩] by kernel_rfl]
  refine fld (by rfl) (part1 Tryz.underlying3 rfl rfl) (part1 Tryz.underlying3 rfl rfl) (run_equalIn_int w (n + 2) _ .i64 .i64 _ _ (by kernel_rfl)) ?_
  refine fld (by rfl) (part1 Tryz.underlying3 rfl rfl) (part1 Tryz.underlying3 rfl rfl) (run_equalIn_int w (n + 2) _ .i64 .i64 _ _ (by kernel_rfl)) ?_
  refine fld (by rfl) (part1 Tryz.underlying3 rfl rfl) (part1 Tryz.underlying3 rfl rfl) (run_equalIn_int w (n + 2) _ .i64 .i64 _ _ (by kernel_rfl)) ?_
  refine fld (by rfl) (part1 Tryz.underlying3 rfl rfl) (part1 Tryz.underlying3 rfl rfl) (run_equalIn_int w (n + 2) _ .i64 .i64 _ _ (by kernel_rfl)) ?_
  refine fld (by rfl) (part1 Tryz.underlying3 rfl rfl) (part1 Tryz.underlying3 rfl rfl) (run_equalIn_int w (n + 2) _ .i64 .i64 _ _ (by kernel_rfl)) ?_
  refine fld (by rfl) (partk (m := mcL q.d) (k := 8) Tryz.underlying80 rfl (by kernel_rfl) rfl) (partk (m := mcL q_.d) (k := 8) Tryz.underlying80 rfl (by kernel_rfl) rfl) (eq_mc (n + 1) _ _ w) ?_
  refine fld (by rfl) (partk (m := cmL q.c) (k := 8) Tryz.underlying89 rfl (by kernel_rfl) rfl) (partk (m := cmL q_.c) (k := 8) Tryz.underlying89 rfl (by kernel_rfl) rfl) (eq_cm (n + 1) _ _ w) ?_
  refine fld (by rfl) (partk (m := gqL q.g) (k := 22) Tryz.underlying91 rfl (by kernel_rfl) rfl) (partk (m := gqL q_.g) (k := 22) Tryz.underlying91 rfl (by kernel_rfl) rfl) (eq_gq n _ _ w) ?_
  exact fld0
theorem eq_pw (n : Nat) (q q_ : Wq) (w : World) : (Op.equalIn (n + 4) 210 (.agg (pwL q).toArray) (.agg (pwL q_).toArray)).run Tryz.prog w = .ok (decide (q.pc = q_.pc ∧ q.obj = q_.obj ∧ q.slot = q_.slot ∧ q.victim = q_.victim ∧ q.bin = q_.bin ∧ q.d = q_.d ∧ q.c = q_.c ∧ q.g = q_.g)) w := by
  rw [eq_pwB]
  congr 1
  rw [Bool.eq_iff_iff]
  simp
theorem eq_puB (n : Nat) (q q_ : Uq) (w : World) : (Op.equalIn (n + 4) 213 (.agg (puL q).toArray) (.agg (puL q_).toArray)).run Tryz.prog w = .ok ((q.pc == q_.pc) && ((q.ip == q_.ip) && ((q.ret == q_.ret) && ((q.want == q_.want) && ((q.old == q_.old) && ((q.obj == q_.obj) && ((q.slot == q_.slot) && ((q.bin == q_.bin) && (decide (q.c = q_.c) && (decide (q.g = q_.g) && true)))))))))) w := by
  rw [show n + 4 = (n + 3) + 1 from rfl, run_equalIn_agg w (n + 3) _ _ _ (by kernel_rfl) (by kernel_rfl)]
  rw [show (Tryz.prog.fieldsOf 213).toList = [⟨"pc", 3, 0, false, "", "besom/state", 0⟩, ⟨"ip", 3, 1, false, "", "besom/state", 8⟩, ⟨"ret", 3, 2, false, "", "besom/state", 16⟩, ⟨"want", 3, 3, false, "", "besom/state", 24⟩, ⟨"old", 3, 4, false, "", "besom/state", 32⟩, ⟨"obj", 3, 5, false, "", "besom/state", 40⟩, ⟨"slot", 3, 6, false, "", "besom/state", 48⟩, ⟨"bin", 3, 7, false, "", "besom/state", 56⟩, ⟨"c", 89, 8, false, "", "besom/state", 64⟩, ⟨"g", 91, 16, false, "", "besom/state", 128⟩] by kernel_rfl]
  refine fld (by rfl) (part1 Tryz.underlying3 rfl rfl) (part1 Tryz.underlying3 rfl rfl) (run_equalIn_int w (n + 2) _ .i64 .i64 _ _ (by kernel_rfl)) ?_
  refine fld (by rfl) (part1 Tryz.underlying3 rfl rfl) (part1 Tryz.underlying3 rfl rfl) (run_equalIn_int w (n + 2) _ .i64 .i64 _ _ (by kernel_rfl)) ?_
  refine fld (by rfl) (part1 Tryz.underlying3 rfl rfl) (part1 Tryz.underlying3 rfl rfl) (run_equalIn_int w (n + 2) _ .i64 .i64 _ _ (by kernel_rfl)) ?_
  refine fld (by rfl) (part1 Tryz.underlying3 rfl rfl) (part1 Tryz.underlying3 rfl rfl) (run_equalIn_int w (n + 2) _ .i64 .i64 _ _ (by kernel_rfl)) ?_
  refine fld (by rfl) (part1 Tryz.underlying3 rfl rfl) (part1 Tryz.underlying3 rfl rfl) (run_equalIn_int w (n + 2) _ .i64 .i64 _ _ (by kernel_rfl)) ?_
  refine fld (by rfl) (part1 Tryz.underlying3 rfl rfl) (part1 Tryz.underlying3 rfl rfl) (run_equalIn_int w (n + 2) _ .i64 .i64 _ _ (by kernel_rfl)) ?_
  refine fld (by rfl) (part1 Tryz.underlying3 rfl rfl) (part1 Tryz.underlying3 rfl rfl) (run_equalIn_int w (n + 2) _ .i64 .i64 _ _ (by kernel_rfl)) ?_
  refine fld (by rfl) (part1 Tryz.underlying3 rfl rfl) (part1 Tryz.underlying3 rfl rfl) (run_equalIn_int w (n + 2) _ .i64 .i64 _ _ (by kernel_rfl)) ?_
  refine fld (by rfl) (partk (m := cmL q.c) (k := 8) Tryz.underlying89 rfl (by kernel_rfl) rfl) (partk (m := cmL q_.c) (k := 8) Tryz.underlying89 rfl (by kernel_rfl) rfl) (eq_cm (n + 1) _ _ w) ?_
  refine fld (by rfl) (partk (m := gqL q.g) (k := 22) Tryz.underlying91 rfl (by kernel_rfl) rfl) (partk (m := gqL q_.g) (k := 22) Tryz.underlying91 rfl (by kernel_rfl) rfl) (eq_gq n _ _ w) ?_
  exact fld0
theorem eq_pu (n : Nat) (q q_ : Uq) (w : World) : (Op.equalIn (n + 4) 213 (.agg (puL q).toArray) (.agg (puL q_).toArray)).run Tryz.prog w = .ok (decide (q.pc = q_.pc ∧ q.ip = q_.ip ∧ q.ret = q_.ret ∧ q.want = q_.want ∧ q.old = q_.old ∧ q.obj = q_.obj ∧ q.slot = q_.slot ∧ q.bin = q_.bin ∧ q.c = q_.c ∧ q.g = q_.g)) w := by
  rw [eq_puB]
  congr 1
  rw [Bool.eq_iff_iff]
  simp
theorem eq_tiB (n : Nat) (q q_ : Sq) (w : World) : (Op.equalIn (n + 2) 60 (.agg (tiL q).toArray) (.agg (tiL q_).toArray)).run Tryz.prog w = .ok (((q.marks : Int) == (q_.marks : Int)) && (((q.black : Int) == (q_.black : Int)) && true)) w := by
  rw [show n + 2 = (n + 1) + 1 from rfl, run_equalIn_agg w (n + 1) _ _ _ (by kernel_rfl) (by kernel_rfl)]
  rw [show (Tryz.prog.fieldsOf 60).toList = [⟨"Marks", 26, 0, false, "", "", 0⟩, ⟨"Black", 26, 1, false, "", "", 8⟩] by kernel_rfl]
  refine fld (by rfl) (part1 Tryz.underlying26 rfl rfl) (part1 Tryz.underlying26 rfl rfl) (run_equalIn_int w (n + 0) _ .u64 .u64 _ _ (by kernel_rfl)) ?_
  refine fld (by rfl) (part1 Tryz.underlying26 rfl rfl) (part1 Tryz.underlying26 rfl rfl) (run_equalIn_int w (n + 0) _ .u64 .u64 _ _ (by kernel_rfl)) ?_
  exact fld0
theorem eq_deB (n : Nat) (q q_ : Sq) (w : World) : (Op.equalIn (n + 2) 64 (.agg (deL q).toArray) (.agg (deL q_).toArray)).run Tryz.prog w = .ok ((q.dpc == q_.dpc) && ((q.di == q_.di) && true)) w := by
  rw [show n + 2 = (n + 1) + 1 from rfl, run_equalIn_agg w (n + 1) _ _ _ (by kernel_rfl) (by kernel_rfl)]
  rw [show (Tryz.prog.fieldsOf 64).toList = [⟨"PC", 3, 0, false, "", "", 0⟩, ⟨"I", 3, 1, false, "", "", 8⟩] by kernel_rfl]
  refine fld (by rfl) (part1 Tryz.underlying3 rfl rfl) (part1 Tryz.underlying3 rfl rfl) (run_equalIn_int w (n + 0) _ .i64 .i64 _ _ (by kernel_rfl)) ?_
  refine fld (by rfl) (part1 Tryz.underlying3 rfl rfl) (part1 Tryz.underlying3 rfl rfl) (run_equalIn_int w (n + 0) _ .i64 .i64 _ _ (by kernel_rfl)) ?_
  exact fld0
theorem eq_ti (n : Nat) (q q_ : Sq) (w : World) : (Op.equalIn (n + 2) 60 (.agg (tiL q).toArray) (.agg (tiL q_).toArray)).run Tryz.prog w = .ok (decide (q.marks = q_.marks ∧ q.black = q_.black)) w := by
  rw [eq_tiB]
  congr 1
  rw [Bool.eq_iff_iff]
  simp
  omega
theorem eq_de (n : Nat) (q q_ : Sq) (w : World) : (Op.equalIn (n + 2) 64 (.agg (deL q).toArray) (.agg (deL q_).toArray)).run Tryz.prog w = .ok (decide (q.dpc = q_.dpc ∧ q.di = q_.di)) w := by
  rw [eq_deB]
  congr 1
  rw [Bool.eq_iff_iff]
  simp
theorem eq_psB (n : Nat) (q q_ : Sq) (w : World) : (Op.equalIn (n + 3) 152 (.agg (psL q).toArray) (.agg (psL q_).toArray)).run Tryz.prog w = .ok (decide (q.marks = q_.marks ∧ q.black = q_.black) && ((q.work == q_.work) && ((q.epoch == q_.epoch) && ((q.restarts == q_.restarts) && ((q.flag == q_.flag) && ((q.done == q_.done) && (decide (q.dpc = q_.dpc ∧ q.di = q_.di) && true))))))) w := by
  rw [show n + 3 = (n + 2) + 1 from rfl, run_equalIn_agg w (n + 2) _ _ _ (by kernel_rfl) (by kernel_rfl)]
  rw [show (Tryz.prog.fieldsOf 152).toList = [⟨"tint", 60, 0, false, "", "besom/state", 0⟩, ⟨"work", 3, 2, false, "", "besom/state", 16⟩, ⟨"epoch", 3, 3, false, "", "besom/state", 24⟩, ⟨"restarts", 3, 4, false, "", "besom/state", 32⟩, ⟨"flag", 4, 5, false, "", "besom/state", 40⟩, ⟨"done", 4, 6, false, "", "besom/state", 41⟩, ⟨"detect", 64, 7, false, "", "besom/state", 48⟩] by kernel_rfl]
  refine fld (by rfl) (partk (m := tiL q) (k := 2) Tryz.underlying60 rfl (by kernel_rfl) rfl) (partk (m := tiL q_) (k := 2) Tryz.underlying60 rfl (by kernel_rfl) rfl) (eq_ti n _ _ w) ?_
  refine fld (by rfl) (part1 Tryz.underlying3 rfl rfl) (part1 Tryz.underlying3 rfl rfl) (run_equalIn_int w (n + 1) _ .i64 .i64 _ _ (by kernel_rfl)) ?_
  refine fld (by rfl) (part1 Tryz.underlying3 rfl rfl) (part1 Tryz.underlying3 rfl rfl) (run_equalIn_int w (n + 1) _ .i64 .i64 _ _ (by kernel_rfl)) ?_
  refine fld (by rfl) (part1 Tryz.underlying3 rfl rfl) (part1 Tryz.underlying3 rfl rfl) (run_equalIn_int w (n + 1) _ .i64 .i64 _ _ (by kernel_rfl)) ?_
  refine fld (by rfl) (part1 Tryz.underlying4 rfl rfl) (part1 Tryz.underlying4 rfl rfl) (run_equalIn_bool' w (n + 1) _ _ _ (by kernel_rfl)) ?_
  refine fld (by rfl) (part1 Tryz.underlying4 rfl rfl) (part1 Tryz.underlying4 rfl rfl) (run_equalIn_bool' w (n + 1) _ _ _ (by kernel_rfl)) ?_
  refine fld (by rfl) (partk (m := deL q) (k := 2) Tryz.underlying64 rfl (by kernel_rfl) rfl) (partk (m := deL q_) (k := 2) Tryz.underlying64 rfl (by kernel_rfl) rfl) (eq_de n _ _ w) ?_
  exact fld0
/-- what a state has beside its lists -/
def PlS (q q_ : Sq) : Prop := q.marks = q_.marks ∧ q.black = q_.black ∧ q.work = q_.work ∧ q.epoch = q_.epoch ∧ q.restarts = q_.restarts ∧ q.flag = q_.flag ∧ q.done = q_.done ∧ q.dpc = q_.dpc ∧ q.di = q_.di
instance (q q_ : Sq) : Decidable (PlS q q_) := by unfold PlS; infer_instance
def PlW (q q_ : Wq) : Prop := q.pc = q_.pc ∧ q.obj = q_.obj ∧ q.slot = q_.slot ∧ q.victim = q_.victim ∧ q.bin = q_.bin ∧ q.d = q_.d ∧ q.c = q_.c ∧ q.g = q_.g
instance (q q_ : Wq) : Decidable (PlW q q_) := by unfold PlW; infer_instance
def PlU (q q_ : Uq) : Prop := q.pc = q_.pc ∧ q.ip = q_.ip ∧ q.ret = q_.ret ∧ q.want = q_.want ∧ q.old = q_.old ∧ q.obj = q_.obj ∧ q.slot = q_.slot ∧ q.bin = q_.bin ∧ q.c = q_.c ∧ q.g = q_.g
instance (q q_ : Uq) : Decidable (PlU q q_) := by unfold PlU; infer_instance
theorem eql_ps (q q_ : Sq) (w : World) : (binOp .eql 152 (.agg (psL q).toArray) (.agg (psL q_).toArray)).run Tryz.prog w = .ok (.bool (decide (PlS q q_))) w := by
  rw [run_eql_struct, show (10000 : Nat) = 9997 + 3 from rfl, eq_psB, Result.andThen_ok]
  congr 2
  rw [Bool.eq_iff_iff, decide_eq_true_iff]
  unfold PlS
  simp [and_assoc]
theorem eql_pw (q q_ : Wq) (w : World) : (binOp .eql 210 (.agg (pwL q).toArray) (.agg (pwL q_).toArray)).run Tryz.prog w = .ok (.bool (decide (PlW q q_))) w := by
  rw [run_eql_struct, show (10000 : Nat) = 9996 + 4 from rfl, eq_pw, Result.andThen_ok]; rfl
theorem eql_pu (q q_ : Uq) (w : World) : (binOp .eql 213 (.agg (puL q).toArray) (.agg (puL q_).toArray)).run Tryz.prog w = .ok (.bool (decide (PlU q q_))) w := by
  rw [run_eql_struct, show (10000 : Nat) = 9996 + 4 from rfl, eq_pu, Result.andThen_ok]; rfl
theorem bc_seg {t : TypeId} {w : World} {B : Nat} {l m : List Value} (h : Bc t w B l) (o : Nat) (hm : (l.drop o).take m.length = m) (j : Nat) (v : Value) (hv : m[j]? = some v) : w.cell? ⟨B, o + j, none⟩ = some v := by
  have e := hv
  rw [← hm, List.getElem?_take, List.getElem?_drop] at e
  split at e
  · rw [h.cell]; exact e
  · cases e
set_option maxRecDepth 100000 in
set_option maxHeartbeats 4000000 in
theorem plW_one (q : Wq) : (pwL q).toArray.all (fun u => u.oneCell') = true := by rw [List.all_toArray]; rfl
set_option maxRecDepth 100000 in
set_option maxHeartbeats 4000000 in
theorem plW_any (q : Wq) (b : Hd) (w : World) : Calls Tryz.prog 130 #[.agg (wkL q (hdV b)).toArray] w fun e w' => e = .returned (.agg (pwL q).toArray) ∧ Below w.heap.size w w' := by
  obtain ⟨w1, e1, k1, k2, hb1, hs1⟩ := two_box w (wkL q (hdV b)) ([.int .i64 0, .int .i64 0, .int .i64 0, .int .i64 0, .int .i64 0, .int .i64 0, .int .i64 0, .int .i64 0, .int .i64 0, .int .u64 0, .int .u64 0, .int .i64 0, .int .i64 0, .int .i64 0, .int .i64 0, .int .i64 0, .int .i64 0, .int .u64 0, .int .i64 0, .int .i64 0, .int .i64 0, .int .i64 0, .int .i64 0, .int .i64 0, .int .i64 0, .int .i64 0, .int .i64 0, .int .i64 0, .int .i64 0, .int .u64 0, .int .u64 0, .int .i64 0, .int .i64 0, .int .i64 0, .int .i64 0, .int .i64 0, .int .i64 0, .int .u64 0, .int .i64 0, .int .i64 0, .int .i64 0, .int .i64 0, .int .i64 0]) 102 210
  have E1 := hide e1
  have K2 := hide k2
  have HB1 := hide hb1
  have c0 := k1.cell 0
  have c1 := k1.cell 1
  have c2 := k1.cell 2
  have c3 := k1.cell 3
  have c4 := k1.cell 4
  have HS0 : Hid (∀ (j_ : Nat) v_, (mcL q.d)[j_]? = some v_ → w1.cell? ⟨w.heap.size, 6 + j_, none⟩ = some v_) := fun j_ v_ hv => bc_seg (l := wkL q (hdV b)) (m := mcL q.d) k1 6 rfl j_ v_ hv
  have HS1 : Hid (∀ (j_ : Nat) v_, (cmL q.c)[j_]? = some v_ → w1.cell? ⟨w.heap.size, 14 + j_, none⟩ = some v_) := fun j_ v_ hv => bc_seg (l := wkL q (hdV b)) (m := cmL q.c) k1 14 rfl j_ v_ hv
  have HS2 : Hid (∀ (j_ : Nat) v_, (gqL q.g)[j_]? = some v_ → w1.cell? ⟨w.heap.size, 22 + j_, none⟩ = some v_) := fun j_ v_ hv => bc_seg (l := wkL q (hdV b)) (m := gqL q.g) k1 22 rfl j_ v_ hv
  simp only [List.getElem?_cons_succ, List.getElem?_cons_zero] at c0 c1 c2 c3 c4
  have HN := hide (setRow_heap _ _ _ (pwL q).toArray _ _ k2)
  clear e1 k1 k2 hb1
  go_enter Tryz.func130, Tryz.ntmps130
  go_upto_region 1 with (fail)
  rw [E1.out]
  go_wp2_with (first
    | (refine wpList_load_seg rfl 80 (.tmp 13) rfl w.heap.size 6 rfl (mcL q.d) _ HS0 Tryz.underlying80 rfl (by kernel_rfl) ?_)
    | (refine wpList_load_seg rfl 89 (.tmp 15) rfl w.heap.size 14 rfl (cmL q.c) _ HS1 Tryz.underlying89 rfl (by kernel_rfl) ?_)
    | (refine wpList_load_seg rfl 91 (.tmp 17) rfl w.heap.size 22 rfl (gqL q.g) _ HS2 Tryz.underlying91 rfl (by kernel_rfl) ?_)
    | (refine wpList_store_row rfl 210 (.tmp 2) (.tmp 19) rfl (w.heap.size + 1) rfl (pwL q).toArray rfl _ _ K2.out (by kernel_rfl) rfl (plW_one q) ?_))
  refine bodyPost_ret (results_row Tryz.results130 (w.heap.size + 1) rfl _ _ _ _ HN.out Tryz.underlying210 rfl (by kernel_rfl)) rfl ?_
  exact ⟨rfl, below_setRow HB1.out (by omega) _⟩
set_option maxRecDepth 100000 in
set_option maxHeartbeats 4000000 in
theorem plU_one (q : Uq) : (puL q).toArray.all (fun u => u.oneCell') = true := by rw [List.all_toArray]; rfl
set_option maxRecDepth 100000 in
set_option maxHeartbeats 4000000 in
theorem plU_any (q : Uq) (r b t : Hd) (w : World) : Calls Tryz.prog 131 #[.agg (utL q (hdV r) (hdV b) (hdV t)).toArray] w fun e w' => e = .returned (.agg (puL q).toArray) ∧ Below w.heap.size w w' := by
  obtain ⟨w1, e1, k1, k2, hb1, hs1⟩ := two_box w (utL q (hdV r) (hdV b) (hdV t)) ([.int .i64 0, .int .i64 0, .int .i64 0, .int .i64 0, .int .i64 0, .int .i64 0, .int .i64 0, .int .i64 0, .int .i64 0, .int .i64 0, .int .i64 0, .int .i64 0, .int .u64 0, .int .i64 0, .int .i64 0, .int .i64 0, .int .i64 0, .int .i64 0, .int .i64 0, .int .i64 0, .int .i64 0, .int .i64 0, .int .i64 0, .int .i64 0, .int .u64 0, .int .u64 0, .int .i64 0, .int .i64 0, .int .i64 0, .int .i64 0, .int .i64 0, .int .i64 0, .int .u64 0, .int .i64 0, .int .i64 0, .int .i64 0, .int .i64 0, .int .i64 0]) 93 213
  have E1 := hide e1
  have K2 := hide k2
  have HB1 := hide hb1
  have c0 := k1.cell 0
  have c1 := k1.cell 1
  have c2 := k1.cell 2
  have c3 := k1.cell 3
  have c4 := k1.cell 4
  have c5 := k1.cell 5
  have c6 := k1.cell 6
  have c7 := k1.cell 7
  have HS0 : Hid (∀ (j_ : Nat) v_, (cmL q.c)[j_]? = some v_ → w1.cell? ⟨w.heap.size, 11 + j_, none⟩ = some v_) := fun j_ v_ hv => bc_seg (l := utL q (hdV r) (hdV b) (hdV t)) (m := cmL q.c) k1 11 rfl j_ v_ hv
  have HS1 : Hid (∀ (j_ : Nat) v_, (gqL q.g)[j_]? = some v_ → w1.cell? ⟨w.heap.size, 19 + j_, none⟩ = some v_) := fun j_ v_ hv => bc_seg (l := utL q (hdV r) (hdV b) (hdV t)) (m := gqL q.g) k1 19 rfl j_ v_ hv
  simp only [List.getElem?_cons_succ, List.getElem?_cons_zero] at c0 c1 c2 c3 c4 c5 c6 c7
  have HN := hide (setRow_heap _ _ _ (puL q).toArray _ _ k2)
  clear e1 k1 k2 hb1
  go_enter Tryz.func131, Tryz.ntmps131
  go_upto_region 1 with (fail)
  rw [E1.out]
  go_wp2_with (first
    | (refine wpList_load_seg rfl 89 (.tmp 19) rfl w.heap.size 11 rfl (cmL q.c) _ HS0 Tryz.underlying89 rfl (by kernel_rfl) ?_)
    | (refine wpList_load_seg rfl 91 (.tmp 21) rfl w.heap.size 19 rfl (gqL q.g) _ HS1 Tryz.underlying91 rfl (by kernel_rfl) ?_)
    | (refine wpList_store_row rfl 213 (.tmp 2) (.tmp 23) rfl (w.heap.size + 1) rfl (puL q).toArray rfl _ _ K2.out (by kernel_rfl) rfl (plU_one q) ?_))
  refine bodyPost_ret (results_row Tryz.results131 (w.heap.size + 1) rfl _ _ _ _ HN.out Tryz.underlying213 rfl (by kernel_rfl)) rfl ?_
  exact ⟨rfl, below_setRow HB1.out (by omega) _⟩
set_option maxRecDepth 100000 in
set_option maxHeartbeats 4000000 in
theorem plS_one (q : Sq) : (psL q).toArray.all (fun u => u.oneCell') = true := by rw [List.all_toArray]; rfl
set_option maxRecDepth 100000 in
set_option maxHeartbeats 4000000 in
theorem plS_any (q : Sq) (v : Sv) (w : World) : Calls Tryz.prog 71 #[.agg (stL q v).toArray] w fun e w' => e = .returned (.agg (psL q).toArray) ∧ Below w.heap.size w w' := by
  obtain ⟨w1, e1, k1, k2, hb1, hs1⟩ := two_box w (stL q v) ([.int .u64 0, .int .u64 0, .int .i64 0, .int .i64 0, .int .i64 0, .bool false, .bool false, .int .i64 0, .int .i64 0]) 66 152
  have E1 := hide e1
  have K2 := hide k2
  have HB1 := hide hb1
  have c20 := k1.cell 20
  have c21 := k1.cell 21
  have c22 := k1.cell 22
  have c23 := k1.cell 23
  have c24 := k1.cell 24
  have HS0 : Hid (∀ (j_ : Nat) v_, (tiL q)[j_]? = some v_ → w1.cell? ⟨w.heap.size, 18 + j_, none⟩ = some v_) := fun j_ v_ hv => bc_seg (l := stL q v) (m := tiL q) k1 18 rfl j_ v_ hv
  have HS1 : Hid (∀ (j_ : Nat) v_, (deL q)[j_]? = some v_ → w1.cell? ⟨w.heap.size, 32 + j_, none⟩ = some v_) := fun j_ v_ hv => bc_seg (l := stL q v) (m := deL q) k1 32 rfl j_ v_ hv
  simp only [List.getElem?_cons_succ, List.getElem?_cons_zero] at c20 c21 c22 c23 c24
  have HN := hide (setRow_heap _ _ _ (psL q).toArray _ _ k2)
  clear e1 k1 k2 hb1
  go_enter Tryz.func71, Tryz.ntmps71
  go_upto_region 1 with (fail)
  rw [E1.out]
  go_wp2_with (first
    | (refine wpList_load_seg rfl 60 (.tmp 3) rfl w.heap.size 18 rfl (tiL q) _ HS0 Tryz.underlying60 rfl (by kernel_rfl) ?_)
    | (refine wpList_load_seg rfl 64 (.tmp 15) rfl w.heap.size 32 rfl (deL q) _ HS1 Tryz.underlying64 rfl (by kernel_rfl) ?_)
    | (refine wpList_store_row rfl 152 (.tmp 2) (.tmp 17) rfl (w.heap.size + 1) rfl (psL q).toArray rfl _ _ K2.out (by kernel_rfl) rfl (plS_one q) ?_))
  refine bodyPost_ret (results_row Tryz.results71 (w.heap.size + 1) rfl _ _ _ _ HN.out Tryz.underlying152 rfl (by kernel_rfl)) rfl ?_
  exact ⟨rfl, below_setRow HB1.out (by omega) _⟩
end Go.Proofs.YtdmbcjckgfjcaaaGreatDoor
