import Derived.Lib.SliceRun
import Derived.Test.YtdmbcjckgfjcaaaGreatDoorRax
import Derived.Test.YtdmbcjckgfjcaaaGreatDoorRaw
/- Layer state: slices.Clone at the types that state copies; the machines copied, one by one. Written by tools/genstate2.py. -/
namespace Go.Proofs.YtdmbcjckgfjcaaaGreatDoor
open Go.RowKit
theorem balS (w : World) (o : Obj) : Below w.heap.size w (w.alloc o) := (Below.refl _ _).alloc (Nat.le_refl _) o
theorem oqS_one (x : Oq) : ∀ u ∈ oq x, u.oneCell' = true := List.all_eq_true.1 (show (oq x).all (fun u => u.oneCell') = true from rfl)
theorem pcS_one (x : Int × Int) : ∀ u ∈ pc x, u.oneCell' = true := List.all_eq_true.1 (show (pc x).all (fun u => u.oneCell') = true from rfl)
theorem own_setRow {w : World} {base n size B : Nat} {e : TypeId} {v : Value} {xs : List Value} (h : w.ownsRow base e size v n xs) (hB : B < base) (cs : Array Value) : (w.setRow B cs).ownsRow base e size v n xs :=
  World.ownsRow.kept h (show w.grownBy (w.setRow B cs) (some B) from ⟨rfl, rfl, rfl, by simp, fun k _ hk => setRow_other w B k cs (fun e => hk (by rw [e]))⟩) (by
    cases e : v.ownBlock with
    | none => exact .inl rfl
    | some g => exact .inr (fun e' => by have := (h.lt g e).1; injection e' with e'; omega))
theorem bc_other {t : TypeId} {w : World} {B C : Nat} {l : List Value} (h : Bc t w B l) (hne : B ≠ C) (i : Nat) (u : Value) : Bc t (w.setCell ⟨C, i, none⟩ u) B l := (Below.heap_setCell w ⟨C, i, none⟩ u B hne).trans h
theorem infoWk : (Tryz.prog.info? 102).map (fun i => (i.zero, i.size, i.bytes)) = some (some (.agg #[.int .i64 0, .int .i64 0, .int .i64 0, .int .i64 0, .int .i64 0, .slice none 0 0, .int .i64 0, .int .i64 0, .int .i64 0, .int .i64 0, .int .u64 0, .int .u64 0, .int .i64 0, .int .i64 0, .int .i64 0, .int .i64 0, .int .i64 0, .int .i64 0, .int .u64 0, .int .i64 0, .int .i64 0, .int .i64 0, .int .i64 0, .int .i64 0, .int .i64 0, .int .i64 0, .int .i64 0, .int .i64 0, .int .i64 0, .int .i64 0, .int .u64 0, .int .u64 0, .int .i64 0, .int .i64 0, .int .i64 0, .int .i64 0, .int .i64 0, .int .i64 0, .int .u64 0, .int .i64 0, .int .i64 0, .int .i64 0, .int .i64 0, .int .i64 0]), 44, 368) := by kernel_rfl
set_option maxRecDepth 100000 in
set_option maxHeartbeats 1000000 in
theorem Clone_wks (v : Value) (l : List (Wv)) (w : World) (h : Sl wkE 44 w v l) (hbig : l.length * 368 ≤ 140737488351232) :
    Calls Tryz.prog 137 #[v] w fun e w' => ∃ v', e = .returned v' ∧ w'.ownsRow w.heap.size 102 44 v' l.length (l.flatMap wkE) ∧ Below w.heap.size w w' := by
  obtain ⟨i0, hi, hz0, hz1, hz2⟩ := info_parts infoWk
  have qn : ∀ (w : World) (a : Option Addr) (n c n' c' : Nat), (binOp .eql 62 (.slice a n c) (.slice none n' c')).run Tryz.prog w = .ok (.bool a.isNone) w := fun w a n c n' c' => Lib.run_eql_slice_nil w _ _ a n c n' c' Tryz.underlying62
  have HL := hide h
  obtain ⟨A, c, rfl, h1, h2, h3⟩ := h
  unfold maxLen at h2
  rcases A with _ | a
  · have h0 : l = [] := by
      rcases Nat.eq_zero_or_pos l.length with h0 | h0
      · exact List.eq_nil_of_length_eq_zero h0
      · obtain ⟨b, off, h, _⟩ := h3 h0; cases h
    subst h0
    clear h3
    go_enter Tryz.func137, Tryz.ntmps137
    go_wp2
    go_ret
    exact ⟨_, rfl, World.ownsRow_nil _ _ _ _, Below.refl _ _⟩
  · clear h3
    go_enter Tryz.func137, Tryz.ntmps137
    go_wp2_with (at_builtin; refine wpList_append_sl _ rfl _ _ 62 rfl w.heap.size 102 i0 (.agg #[.int .i64 0, .int .i64 0, .int .i64 0, .int .i64 0, .int .i64 0, .slice none 0 0, .int .i64 0, .int .i64 0, .int .i64 0, .int .i64 0, .int .u64 0, .int .u64 0, .int .i64 0, .int .i64 0, .int .i64 0, .int .i64 0, .int .i64 0, .int .i64 0, .int .u64 0, .int .i64 0, .int .i64 0, .int .i64 0, .int .i64 0, .int .i64 0, .int .i64 0, .int .i64 0, .int .i64 0, .int .i64 0, .int .i64 0, .int .i64 0, .int .u64 0, .int .u64 0, .int .i64 0, .int .i64 0, .int .i64 0, .int .i64 0, .int .i64 0, .int .i64 0, .int .u64 0, .int .i64 0, .int .i64 0, .int .i64 0, .int .i64 0, .int .i64 0]) 44 368 Tryz.underlying62 hi hz0 hz1 hz2 rfl (by decide) _ _ _ rfl (World.ownsRow_made w #[] 0 (Nat.le_refl _) (Nat.zero_le _) rfl) _ l rfl (HL.out.alloc _) wkE_len wkE_one (by unfold maxLen; omega) (by omega) (by simp) ?_)
    intro v' w1 hown hb
    go_wp2
    go_ret
    exact ⟨v', rfl, by simpa using hown, (balS _ _).trans hb⟩
theorem infoUt : (Tryz.prog.info? 93).map (fun i => (i.zero, i.size, i.bytes)) = some (some (.agg #[.int .i64 0, .int .i64 0, .int .i64 0, .int .i64 0, .int .i64 0, .int .i64 0, .int .i64 0, .int .i64 0, .slice none 0 0, .slice none 0 0, .slice none 0 0, .int .i64 0, .int .i64 0, .int .i64 0, .int .i64 0, .int .u64 0, .int .i64 0, .int .i64 0, .int .i64 0, .int .i64 0, .int .i64 0, .int .i64 0, .int .i64 0, .int .i64 0, .int .i64 0, .int .i64 0, .int .i64 0, .int .u64 0, .int .u64 0, .int .i64 0, .int .i64 0, .int .i64 0, .int .i64 0, .int .i64 0, .int .i64 0, .int .u64 0, .int .i64 0, .int .i64 0, .int .i64 0, .int .i64 0, .int .i64 0]), 41, 376) := by kernel_rfl
set_option maxRecDepth 100000 in
set_option maxHeartbeats 1000000 in
theorem Clone_uts (v : Value) (l : List (Uv)) (w : World) (h : Sl utE 41 w v l) (hbig : l.length * 376 ≤ 140737488351232) :
    Calls Tryz.prog 138 #[v] w fun e w' => ∃ v', e = .returned v' ∧ w'.ownsRow w.heap.size 93 41 v' l.length (l.flatMap utE) ∧ Below w.heap.size w w' := by
  obtain ⟨i0, hi, hz0, hz1, hz2⟩ := info_parts infoUt
  have qn : ∀ (w : World) (a : Option Addr) (n c n' c' : Nat), (binOp .eql 63 (.slice a n c) (.slice none n' c')).run Tryz.prog w = .ok (.bool a.isNone) w := fun w a n c n' c' => Lib.run_eql_slice_nil w _ _ a n c n' c' Tryz.underlying63
  have HL := hide h
  obtain ⟨A, c, rfl, h1, h2, h3⟩ := h
  unfold maxLen at h2
  rcases A with _ | a
  · have h0 : l = [] := by
      rcases Nat.eq_zero_or_pos l.length with h0 | h0
      · exact List.eq_nil_of_length_eq_zero h0
      · obtain ⟨b, off, h, _⟩ := h3 h0; cases h
    subst h0
    clear h3
    go_enter Tryz.func138, Tryz.ntmps138
    go_wp2
    go_ret
    exact ⟨_, rfl, World.ownsRow_nil _ _ _ _, Below.refl _ _⟩
  · clear h3
    go_enter Tryz.func138, Tryz.ntmps138
    go_wp2_with (at_builtin; refine wpList_append_sl _ rfl _ _ 63 rfl w.heap.size 93 i0 (.agg #[.int .i64 0, .int .i64 0, .int .i64 0, .int .i64 0, .int .i64 0, .int .i64 0, .int .i64 0, .int .i64 0, .slice none 0 0, .slice none 0 0, .slice none 0 0, .int .i64 0, .int .i64 0, .int .i64 0, .int .i64 0, .int .u64 0, .int .i64 0, .int .i64 0, .int .i64 0, .int .i64 0, .int .i64 0, .int .i64 0, .int .i64 0, .int .i64 0, .int .i64 0, .int .i64 0, .int .i64 0, .int .u64 0, .int .u64 0, .int .i64 0, .int .i64 0, .int .i64 0, .int .i64 0, .int .i64 0, .int .i64 0, .int .u64 0, .int .i64 0, .int .i64 0, .int .i64 0, .int .i64 0, .int .i64 0]) 41 376 Tryz.underlying63 hi hz0 hz1 hz2 rfl (by decide) _ _ _ rfl (World.ownsRow_made w #[] 0 (Nat.le_refl _) (Nat.zero_le _) rfl) _ l rfl (HL.out.alloc _) utE_len utE_one (by unfold maxLen; omega) (by omega) (by simp) ?_)
    intro v' w1 hown hb
    go_wp2
    go_ret
    exact ⟨v', rfl, by simpa using hown, (balS _ _).trans hb⟩
theorem infoOq : (Tryz.prog.info? 99).map (fun i => (i.zero, i.size, i.bytes)) = some (some (.agg #[.int .i64 0, .int .i64 0, .int .i64 0, .int .i64 0]), 4, 32) := by kernel_rfl
set_option maxRecDepth 100000 in
set_option maxHeartbeats 1000000 in
theorem Clone_ops (v : Value) (l : List (Oq)) (w : World) (h : Sl oq 4 w v l) (hbig : l.length * 32 ≤ 140737488351232) :
    Calls Tryz.prog 155 #[v] w fun e w' => ∃ v', e = .returned v' ∧ w'.ownsRow w.heap.size 99 4 v' l.length (l.flatMap oq) ∧ Below w.heap.size w w' := by
  obtain ⟨i0, hi, hz0, hz1, hz2⟩ := info_parts infoOq
  have qn : ∀ (w : World) (a : Option Addr) (n c n' c' : Nat), (binOp .eql 100 (.slice a n c) (.slice none n' c')).run Tryz.prog w = .ok (.bool a.isNone) w := fun w a n c n' c' => Lib.run_eql_slice_nil w _ _ a n c n' c' Tryz.underlying100
  have HL := hide h
  obtain ⟨A, c, rfl, h1, h2, h3⟩ := h
  unfold maxLen at h2
  rcases A with _ | a
  · have h0 : l = [] := by
      rcases Nat.eq_zero_or_pos l.length with h0 | h0
      · exact List.eq_nil_of_length_eq_zero h0
      · obtain ⟨b, off, h, _⟩ := h3 h0; cases h
    subst h0
    clear h3
    go_enter Tryz.func155, Tryz.ntmps155
    go_wp2
    go_ret
    exact ⟨_, rfl, World.ownsRow_nil _ _ _ _, Below.refl _ _⟩
  · clear h3
    go_enter Tryz.func155, Tryz.ntmps155
    go_wp2_with (at_builtin; refine wpList_append_sl _ rfl _ _ 100 rfl w.heap.size 99 i0 (.agg #[.int .i64 0, .int .i64 0, .int .i64 0, .int .i64 0]) 4 32 Tryz.underlying100 hi hz0 hz1 hz2 rfl (by decide) _ _ _ rfl (World.ownsRow_made w #[] 0 (Nat.le_refl _) (Nat.zero_le _) rfl) _ l rfl (HL.out.alloc _) oq_len oqS_one (by unfold maxLen; omega) (by omega) (by simp) ?_)
    intro v' w1 hown hb
    go_wp2
    go_ret
    exact ⟨v', rfl, by simpa using hown, (balS _ _).trans hb⟩
theorem infoPc : (Tryz.prog.info? 179).map (fun i => (i.zero, i.size, i.bytes)) = some (some (.agg #[.int .i64 0, .int .i64 0]), 2, 16) := by kernel_rfl
set_option maxRecDepth 100000 in
set_option maxHeartbeats 1000000 in
theorem Clone_picks (v : Value) (l : List (Int × Int)) (w : World) (h : Sl pc 2 w v l) (hbig : l.length * 16 ≤ 140737488351232) :
    Calls Tryz.prog 112 #[v] w fun e w' => ∃ v', e = .returned v' ∧ w'.ownsRow w.heap.size 179 2 v' l.length (l.flatMap pc) ∧ Below w.heap.size w w' := by
  obtain ⟨i0, hi, hz0, hz1, hz2⟩ := info_parts infoPc
  have qn : ∀ (w : World) (a : Option Addr) (n c n' c' : Nat), (binOp .eql 28 (.slice a n c) (.slice none n' c')).run Tryz.prog w = .ok (.bool a.isNone) w := fun w a n c n' c' => Lib.run_eql_slice_nil w _ _ a n c n' c' Tryz.underlying28
  have HL := hide h
  obtain ⟨A, c, rfl, h1, h2, h3⟩ := h
  unfold maxLen at h2
  rcases A with _ | a
  · have h0 : l = [] := by
      rcases Nat.eq_zero_or_pos l.length with h0 | h0
      · exact List.eq_nil_of_length_eq_zero h0
      · obtain ⟨b, off, h, _⟩ := h3 h0; cases h
    subst h0
    clear h3
    go_enter Tryz.func112, Tryz.ntmps112
    go_wp2
    go_ret
    exact ⟨_, rfl, World.ownsRow_nil _ _ _ _, Below.refl _ _⟩
  · clear h3
    go_enter Tryz.func112, Tryz.ntmps112
    go_wp2_with (at_builtin; refine wpList_append_sl _ rfl _ _ 28 rfl w.heap.size 179 i0 (.agg #[.int .i64 0, .int .i64 0]) 2 16 Tryz.underlying28 hi hz0 hz1 hz2 rfl (by decide) _ _ _ rfl (World.ownsRow_made w #[] 0 (Nat.le_refl _) (Nat.zero_le _) rfl) _ l rfl (HL.out.alloc _) pc_len pcS_one (by unfold maxLen; omega) (by omega) (by simp) ?_)
    intro v' w1 hown hb
    go_wp2
    go_ret
    exact ⟨v', rfl, by simpa using hown, (balS _ _).trans hb⟩
set_option maxHeartbeats 1000000 in
theorem Clone_rowsO (v : Value) (vs : List Value) (w : World) (h : Sl one 1 w v vs) (h1v : ∀ u ∈ vs, u.oneCell' = true) (hbig : vs.length * 24 ≤ 140737488351232) :
    Calls Tryz.prog 170 #[v] w fun e w' => ∃ v', e = .returned v' ∧ w'.ownsRow w.heap.size 100 1 v' vs.length vs ∧ Below w.heap.size w w' := by
  obtain ⟨i0, hi, hz0, hz1, hz2⟩ := info_parts infoRo
  have qn : ∀ (w : World) (a : Option Addr) (n c n' c' : Nat), (binOp .eql 27 (.slice a n c) (.slice none n' c')).run Tryz.prog w = .ok (.bool a.isNone) w := fun w a n c n' c' => Lib.run_eql_slice_nil w _ _ a n c n' c' Tryz.underlying27
  have HL := hide h
  obtain ⟨A, c, rfl, h1, h2, h3⟩ := h
  unfold maxLen at h2
  rcases A with _ | a
  · have h0 : vs = [] := by
      rcases Nat.eq_zero_or_pos vs.length with h0 | h0
      · exact List.eq_nil_of_length_eq_zero h0
      · obtain ⟨b, off, h, _⟩ := h3 h0; cases h
    subst h0
    clear h3
    go_enter Tryz.func170, Tryz.ntmps170
    go_wp2
    go_ret
    exact ⟨_, rfl, World.ownsRow_nil _ _ _ _, Below.refl _ _⟩
  · clear h3
    have HV := hide h1v
    have hv' : ∀ u, u ∈ vs → u.oneCell' = true := h1v
    clear h1v hv'
    go_enter Tryz.func170, Tryz.ntmps170
    go_wp2_with (at_builtin; refine wpList_append_ones _ rfl _ _ 27 rfl w.heap.size 100 i0 (.slice none 0 0) 24 Tryz.underlying27 hi hz0 hz1 hz2 rfl _ _ _ rfl (World.ownsRow_made w #[] 0 (Nat.le_refl _) (Nat.zero_le _) rfl) _ vs rfl (HL.out.alloc _) HV.out (by unfold maxLen; omega) (by omega) (by simp) ?_)
    intro v' w1 hown hb
    go_wp2
    go_ret
    exact ⟨v', rfl, by simpa using hown, (balS _ _).trans hb⟩
set_option maxRecDepth 100000 in
set_option maxHeartbeats 2000000 in
theorem cpWorker_any (q : Wq) (b : Hd) (w : World) (h : Ints w (hdV b) q.batch) (hbig : q.batch.length * 8 ≤ 140737488351232) :
    Calls Tryz.prog 87 #[.agg (wkE (q, b)).toArray] w fun e w' => ∃ b' : Hd, e = .returned (.agg (wkE (q, b')).toArray) ∧ w'.ownsRow w.heap.size 3 1 (hdV b') q.batch.length (q.batch.flatMap ic) ∧ Below w.heap.size w w' := by
  have HL := hide h
  obtain ⟨w1, e1, k1, k2, hb1, hs1⟩ := two_box w (wkL q (hdV b)) wk0 102 102
  have E1 := hide e1
  have K1 := hide k1
  have K2 := hide k2
  have c5 : w1.cell? ⟨w.heap.size, 5, none⟩ = some (hdV b) := k1.cell 5
  have f5 := k1.free 5
  clear h e1 k1 k2
  unfold wkE
  go_enter Tryz.func87, Tryz.ntmps87
  go_upto_region 1 with (fail)
  rw [E1.out]
  go_wp2_with fail
  (with_reducible refine (Clone_ints _ q.batch _ (HL.out.below hb1) hbig).mono ?_)
  rintro e w2 ⟨v', rfl, hown, hb2⟩
  obtain ⟨b', rfl, -⟩ := hd_of (Sl.of_own ic_len hown)
  have HO := hide (own_base hown (by omega : w.heap.size ≤ w1.heap.size))
  have K1' := hide ((K1.out.below hb2).set 5 (hdV b'))
  have K2' := hide (bc_other (K2.out.below hb2) (by omega : w.heap.size + 1 ≠ w.heap.size) 5 (hdV b'))
  have c5 : w2.cell? ⟨w.heap.size, 5, none⟩ = some (hdV b) := (K1.out.below hb2).cell 5
  have f5 := (K1.out.below hb2).free 5
  have HB := hide ((hb1.trans (hb2.mono hb1.size)).setCell (p := ⟨w.heap.size, 5, none⟩) (Nat.le_refl _) (hdV b'))
  have HO2 := hide (own_setRow (ownsRow_setCell_below hown (a := ⟨w.heap.size, 5, none⟩) (by show w.heap.size < _; omega) (hdV b')) (B := w.heap.size + 1) (by omega) (wkL q (hdV b')).toArray)
  have hs2 := hb2.size
  have HN := hide (setRow_heap _ _ _ (wkL q (hdV b')).toArray _ _ K2'.out)
  clear hown hb2
  go_wp2_with (first
    | (refine wpList_load_row rfl 102 (.tmp 1) rfl w.heap.size rfl (wkL q (hdV b')).toArray _ _ _ K1'.out Tryz.underlying102 rfl (by kernel_rfl) ?_)
    | (refine wpList_store_row rfl 102 (.tmp 2) (.tmp 7) rfl (w.heap.size + 1) rfl (wkL q (hdV b')).toArray rfl _ _ K2'.out (by kernel_rfl) rfl (wkA_one q b') ?_))
  refine bodyPost_ret (results_row Tryz.results87 (w.heap.size + 1) rfl _ _ _ _ HN.out Tryz.underlying102 rfl (by kernel_rfl)) rfl ?_
  exact ⟨b', rfl, own_base HO2.out (by omega), below_setRow HB.out (by omega) _⟩
set_option maxRecDepth 100000 in
set_option maxHeartbeats 2000000 in
theorem cpMutator_any (q : Uq) (r b t : Hd) (w : World) (h0 : Ints w (hdV r) q.regs) (h1 : Ints w (hdV b) q.buf) (h2 : Ints w (hdV t) q.batch) (g0 : q.regs.length * 8 ≤ 140737488351232) (g1 : q.buf.length * 8 ≤ 140737488351232) (g2 : q.batch.length * 8 ≤ 140737488351232) :
    Calls Tryz.prog 89 #[.agg (utE (q, r, b, t)).toArray] w fun e w' => ∃ r' b' t' : Hd, e = .returned (.agg (utE (q, r', b', t')).toArray) ∧ w'.ownsRow w.heap.size 3 1 (hdV r') q.regs.length (q.regs.flatMap ic) ∧ w'.ownsRow w.heap.size 3 1 (hdV b') q.buf.length (q.buf.flatMap ic) ∧ w'.ownsRow w.heap.size 3 1 (hdV t') q.batch.length (q.batch.flatMap ic) ∧ Below w.heap.size w w' := by
  have HL0 := hide h0
  have HL1 := hide h1
  have HL2 := hide h2
  obtain ⟨w1, e1, k1, k2, hb1, hs1⟩ := two_box w (utL q (hdV r) (hdV b) (hdV t)) ut0 93 93
  have E1 := hide e1
  have K10 := hide k1
  have K20 := hide k2
  have HB0 := hide hb1
  have hs0 : w.heap.size + 2 ≤ w1.heap.size := by omega
  have c8 : w1.cell? ⟨w.heap.size, 8, none⟩ = some (hdV r) := k1.cell 8
  have f8 := k1.free 8
  clear h0 h1 h2 e1 k1 k2 hb1
  unfold utE
  go_enter Tryz.func89, Tryz.ntmps89
  go_upto_region 1 with (fail)
  rw [E1.out]
  go_wp2_with fail
  (with_reducible refine (Clone_ints _ q.regs _ (HL0.out.below HB0.out) g0).mono ?_)
  rintro e w2 ⟨v', rfl, hown, hb⟩
  obtain ⟨r', rfl, -⟩ := hd_of (Sl.of_own ic_len hown)
  have hs1 := Nat.le_trans hs0 hb.size
  have K11 := hide ((K10.out.below hb).set 8 (hdV r'))
  have K21 := hide (bc_other (K20.out.below hb) (by omega : w.heap.size + 1 ≠ w.heap.size) 8 (hdV r'))
  have HB1 := hide ((HB0.out.trans (hb.mono HB0.out.size)).setCell (p := ⟨w.heap.size, 8, none⟩) (Nat.le_refl _) (hdV r'))
  have HO0 := hide (ownsRow_setCell_below (own_base hown hs0) (a := ⟨w.heap.size, 8, none⟩) (by show w.heap.size < w.heap.size + 2; omega) (hdV r'))
  have c8 : w2.cell? ⟨w.heap.size, 8, none⟩ = some (hdV r) := (K10.out.below hb).cell 8
  have f8 := (K10.out.below hb).free 8
  have d0 : (w2.setCell ⟨w.heap.size, 8, none⟩ (hdV r')).cell? ⟨w.heap.size, 9, none⟩ = some (hdV b) := K11.out.cell 9
  obtain ⟨wk0, ek⟩ : ∃ W, w2.setCell ⟨w.heap.size, 8, none⟩ (hdV r') = W := ⟨_, rfl⟩
  have hsk : w2.heap.size = wk0.heap.size := by rw [← ek]; simp [World.setCell]
  rw [ek] at K11 K21 HB1 d0 HO0
  rw [hsk] at hs1
  have EK0 := hide ek
  clear hown hb ek hsk
  go_upto_region 2 with (fail)
  rw [EK0.out]
  clear c8 f8
  go_wp2_with fail
  (with_reducible refine (Clone_ints _ q.buf _ (HL1.out.below HB1.out) g1).mono ?_)
  rintro e w3 ⟨v', rfl, hown, hb⟩
  obtain ⟨b', rfl, -⟩ := hd_of (Sl.of_own ic_len hown)
  have hs2 := Nat.le_trans hs1 hb.size
  have K12 := hide ((K11.out.below hb).set 9 (hdV b'))
  have K22 := hide (bc_other (K21.out.below hb) (by omega : w.heap.size + 1 ≠ w.heap.size) 9 (hdV b'))
  have HB2 := hide ((HB1.out.trans (hb.mono HB1.out.size)).setCell (p := ⟨w.heap.size, 9, none⟩) (Nat.le_refl _) (hdV b'))
  have HO0 := hide (ownsRow_setCell_below (own_below HO0.out hb) (a := ⟨w.heap.size, 9, none⟩) (by show w.heap.size < w.heap.size + 2; omega) (hdV b'))
  have HO1 := hide (ownsRow_setCell_below (own_base hown hs1) (a := ⟨w.heap.size, 9, none⟩) (by show w.heap.size < w.heap.size + 2; omega) (hdV b'))
  have c9 : w3.cell? ⟨w.heap.size, 9, none⟩ = some (hdV b) := (K11.out.below hb).cell 9
  have f9 := (K11.out.below hb).free 9
  have d1 : (w3.setCell ⟨w.heap.size, 9, none⟩ (hdV b')).cell? ⟨w.heap.size, 10, none⟩ = some (hdV t) := K12.out.cell 10
  obtain ⟨wk1, ek⟩ : ∃ W, w3.setCell ⟨w.heap.size, 9, none⟩ (hdV b') = W := ⟨_, rfl⟩
  have hsk : w3.heap.size = wk1.heap.size := by rw [← ek]; simp [World.setCell]
  rw [ek] at K12 K22 HB2 d1 HO0 HO1
  rw [hsk] at hs2
  have EK1 := hide ek
  clear hown hb ek hsk
  go_upto_region 3 with (fail)
  rw [EK1.out]
  clear c9 f9
  go_wp2_with fail
  (with_reducible refine (Clone_ints _ q.batch _ (HL2.out.below HB2.out) g2).mono ?_)
  rintro e w4 ⟨v', rfl, hown, hb⟩
  obtain ⟨t', rfl, -⟩ := hd_of (Sl.of_own ic_len hown)
  have hs3 := Nat.le_trans hs2 hb.size
  have K13 := hide ((K12.out.below hb).set 10 (hdV t'))
  have K23 := hide (bc_other (K22.out.below hb) (by omega : w.heap.size + 1 ≠ w.heap.size) 10 (hdV t'))
  have HB3 := hide ((HB2.out.trans (hb.mono HB2.out.size)).setCell (p := ⟨w.heap.size, 10, none⟩) (Nat.le_refl _) (hdV t'))
  have HO0 := hide (ownsRow_setCell_below (own_below HO0.out hb) (a := ⟨w.heap.size, 10, none⟩) (by show w.heap.size < w.heap.size + 2; omega) (hdV t'))
  have HO1 := hide (ownsRow_setCell_below (own_below HO1.out hb) (a := ⟨w.heap.size, 10, none⟩) (by show w.heap.size < w.heap.size + 2; omega) (hdV t'))
  have HO2 := hide (ownsRow_setCell_below (own_base hown hs2) (a := ⟨w.heap.size, 10, none⟩) (by show w.heap.size < w.heap.size + 2; omega) (hdV t'))
  have c10 : w4.cell? ⟨w.heap.size, 10, none⟩ = some (hdV t) := (K12.out.below hb).cell 10
  have f10 := (K12.out.below hb).free 10
  clear hown hb
  have HN := hide (setRow_heap _ _ _ (utL q (hdV r') (hdV b') (hdV t')).toArray _ _ K23.out)
  go_wp2_with (first
    | (refine wpList_load_row rfl 93 (.tmp 1) rfl w.heap.size rfl (utL q (hdV r') (hdV b') (hdV t')).toArray _ _ _ K13.out Tryz.underlying93 rfl (by kernel_rfl) ?_)
    | (refine wpList_store_row rfl 93 (.tmp 2) (.tmp 15) rfl (w.heap.size + 1) rfl (utL q (hdV r') (hdV b') (hdV t')).toArray rfl _ _ K23.out (by kernel_rfl) rfl (utA_one q r' b' t') ?_))
  refine bodyPost_ret (results_row Tryz.results89 (w.heap.size + 1) rfl _ _ _ _ HN.out Tryz.underlying93 rfl (by kernel_rfl)) rfl ?_
  exact ⟨r', b', t', rfl, own_base (own_setRow HO0.out (by omega) _) (by omega), own_base (own_setRow HO1.out (by omega) _) (by omega), own_base (own_setRow HO2.out (by omega) _) (by omega), below_setRow HB3.out (by omega) _⟩
end Go.Proofs.YtdmbcjckgfjcaaaGreatDoor
/- Layer state: each, at workers and mutators. Written by tools/genstate3.py. -/
namespace Go.Proofs.YtdmbcjckgfjcaaaGreatDoor
open Go.RowKit Go.Joins
/-- while each goes on: the first k are new, the others still the old ones -/
def EachP {α β : Type} (enc : α → List Value) (size : Nat) (T : TypeId) (base : Nat) (v : Value) (es0 : List α) (R : World → α → β → Prop) (ws : List β) (w : World) (k : Nat) : Prop :=
  ∃ es : List α, es.length = es0.length ∧ w.ownsRow base T size v es0.length (es.flatMap enc) ∧ (∀ (i : Nat), k ≤ i → es[i]? = es0[i]?) ∧ ∀ (i : Nat) x q, i < k → es[i]? = some x → ws[i]? = some q → R w x q
section
variable {α β : Type} {enc : α → List Value} {size base k : Nat} {T : TypeId} {v : Value} {es0 : List α} {R : World → α → β → Prop} {ws : List β} {w w' : World}
theorem EachP.start (h : w.ownsRow base T size v es0.length (es0.flatMap enc)) : EachP enc size T base v es0 R ws w 0 :=
  ⟨es0, rfl, h, fun _ _ => rfl, fun _ _ _ h => absurd h (Nat.not_lt_zero _)⟩
theorem EachP.next {es : List α} {y : α} {q0 : β} (hl : es.length = es0.length) (hk : k < es0.length) (ho : w'.ownsRow base T size v es0.length ((es.set k y).flatMap enc)) (hr : ∀ i, k ≤ i → es[i]? = es0[i]?)
    (hn : ∀ (i : Nat) x q, i < k → es[i]? = some x → ws[i]? = some q → R w' x q) (hq : ws[k]? = some q0) (hy : R w' y q0) : EachP enc size T base v es0 R ws w' (k + 1) := by
  refine ⟨es.set k y, by rw [List.length_set]; exact hl, ho, fun i hi => ?_, fun i x q hi hx hq' => ?_⟩
  · rw [List.getElem?_set_ne (by omega)]; exact hr i (by omega)
  · by_cases e : i = k
    · subst e
      rw [List.getElem?_set_self (by omega)] at hx
      cases hx
      rw [hq] at hq'; cases hq'
      exact hy
    · rw [List.getElem?_set_ne (fun e' => e e'.symm)] at hx
      exact hn i x q (by omega) hx hq'
end
def RW (B : Nat) (w : World) (x : Wv) (q : Wq) : Prop := x.1 = q ∧ w.ownsRow B 3 1 (hdV x.2) q.batch.length (q.batch.flatMap ic)
def RU (B : Nat) (w : World) (x : Uv) (q : Uq) : Prop := x.1 = q ∧ w.ownsRow B 3 1 (hdV x.2.1) q.regs.length (q.regs.flatMap ic) ∧ w.ownsRow B 3 1 (hdV x.2.2.1) q.buf.length (q.buf.flatMap ic) ∧ w.ownsRow B 3 1 (hdV x.2.2.2) q.batch.length (q.batch.flatMap ic)
theorem own_grown {w w' : World} {base n size G : Nat} {e : TypeId} {v : Value} {xs : List Value} (h : w.ownsRow base e size v n xs) (hg : w.grownBy w' (some G)) (hG : G < base) : w'.ownsRow base e size v n xs :=
  World.ownsRow.kept h hg (by
    cases e : v.ownBlock with
    | none => exact .inl rfl
    | some g => exact .inr (fun e' => by have := (h.lt g e).1; injection e' with e'; omega))
theorem RW.below {B : Nat} {w w' : World} {x : Wv} {q : Wq} (h : RW B w x q) (hb : Below w.heap.size w w') : RW B w' x q := ⟨h.1, own_below h.2 hb⟩
theorem RU.below {B : Nat} {w w' : World} {x : Uv} {q : Uq} (h : RU B w x q) (hb : Below w.heap.size w w') : RU B w' x q := ⟨h.1, own_below h.2.1 hb, own_below h.2.2.1 hb, own_below h.2.2.2 hb⟩
theorem RW.grown {B G : Nat} {w w' : World} {x : Wv} {q : Wq} (h : RW B w x q) (hg : w.grownBy w' (some G)) (hG : G < B) : RW B w' x q := ⟨h.1, own_grown h.2 hg hG⟩
theorem RU.grown {B G : Nat} {w w' : World} {x : Uv} {q : Uq} (h : RU B w x q) (hg : w.grownBy w' (some G)) (hG : G < B) : RU B w' x q := ⟨h.1, own_grown h.2.1 hg hG, own_grown h.2.2.1 hg hG, own_grown h.2.2.2 hg hG⟩
theorem RW.le {B C : Nat} {w : World} {x : Wv} {q : Wq} (h : RW B w x q) (hc : C ≤ B) : RW C w x q := ⟨h.1, own_base h.2 hc⟩
theorem RU.le {B C : Nat} {w : World} {x : Uv} {q : Uq} (h : RU B w x q) (hc : C ≤ B) : RU C w x q := ⟨h.1, own_base h.2.1 hc, own_base h.2.2.1 hc, own_base h.2.2.2 hc⟩
theorem RW.read {B : Nat} {w : World} {x : Wv} {q : Wq} (h : RW B w x q) : WkR w x q := ⟨h.1, Sl.of_own ic_len h.2⟩
theorem RU.read {B : Nat} {w : World} {x : Uv} {q : Uq} (h : RU B w x q) : UtR w x q := ⟨h.1, Sl.of_own ic_len h.2.1, Sl.of_own ic_len h.2.2.1, Sl.of_own ic_len h.2.2.2⟩
/-- short enough to be copied -/
def SmW (q : Wq) : Prop := q.batch.length * 8 ≤ 140737488351232
def SmU (q : Uq) : Prop := q.regs.length * 8 ≤ 140737488351232 ∧ q.buf.length * 8 ≤ 140737488351232 ∧ q.batch.length * 8 ≤ 140737488351232
theorem wk_2 {w : World} {q : Wq} {b : Hd} (h : WkR w (q, b) q) : Ints w (hdV b) q.batch := h.2
theorem ut_2 {w : World} {q : Uq} {r b t : Hd} (h : UtR w (q, r, b, t) q) : Ints w (hdV r) q.regs := h.2.1
theorem ut_3 {w : World} {q : Uq} {r b t : Hd} (h : UtR w (q, r, b, t) q) : Ints w (hdV b) q.buf := h.2.2.1
theorem ut_4 {w : World} {q : Uq} {r b t : Hd} (h : UtR w (q, r, b, t) q) : Ints w (hdV t) q.batch := h.2.2.2
theorem sm_w {q : Wq} (h : SmW q) : q.batch.length * 8 ≤ 140737488351232 := h
theorem sm_1 {q : Uq} (h : SmU q) : q.regs.length * 8 ≤ 140737488351232 := h.1
theorem sm_2 {q : Uq} (h : SmU q) : q.buf.length * 8 ≤ 140737488351232 := h.2.1
theorem sm_3 {q : Uq} (h : SmU q) : q.batch.length * 8 ≤ 140737488351232 := h.2.2
set_option maxRecDepth 100000 in
set_option maxHeartbeats 4000000 in
theorem each_wks (v : Value) (ws : List Wq) (w : World) (h : Wks w v ws) (hsm : ∀ q ∈ ws, SmW q) (hbig : ws.length * 368 ≤ 140737488351232) :
    Calls Tryz.prog 86 #[v, .func (.func 87) #[] #[]] w fun e w' => ∃ (v' : Value) (es : List Wv), e = .returned v' ∧ w'.ownsRow w.heap.size 102 44 v' ws.length (es.flatMap wkE) ∧ es.length = ws.length ∧
      (∀ (i : Nat) x q, es[i]? = some x → ws[i]? = some q → RW w.heap.size w' x q) ∧ Below w.heap.size w w' := by
  obtain ⟨es0, hsl, hel, hrd⟩ := h
  have HS := hide hsl
  have HEL := hide hel
  have HRD := hide hrd
  have HSM := hide hsm
  rw [← hel] at hbig ⊢
  clear hrd hsm hel
  obtain ⟨NN, hNN⟩ : ∃ NN, es0.length = NN := ⟨_, rfl⟩
  rw [hNN] at hbig ⊢
  obtain ⟨A0, c0, rfl, -⟩ := hsl
  rw [hNN] at HS
  rw [hNN]
  go_enter Tryz.func86, Tryz.ntmps86
  go_wp2_with fail
  (with_reducible refine (Clone_wks _ es0 _ HS.out (by rw [hNN]; exact hbig)).mono ?_)
  rintro e w1 ⟨v', rfl, hown, hb1⟩
  rw [hNN] at hown
  obtain ⟨A', c', rfl, hc1, hc2⟩ := own_form hown
  unfold maxLen at hc2
  have HW := hide hown
  have HNN := hide hNN
  clear hown hNN
  go_wp2
  go_loopw [12] (fun i wr => ∃ k : Nat, k ≤ NN ∧ i = .int .i64 k ∧ Below w.heap.size w wr ∧ Hid (w1.heap.size ≤ wr.heap.size ∧ EachP wkE 44 102 w.heap.size (.slice A' NN c') es0 (RW w1.heap.size) ws wr k)) (fun i _ => NN - (Go.RowKit.intOf i).toNat)
  case atStart => exact ⟨0, Nat.zero_le _, rfl, hb1, hide ⟨Nat.le_refl _, EachP.start (by rw [HNN.out]; exact HW.out)⟩⟩
  case round =>
    obtain ⟨k, hk, rfl, hb, HP⟩ := hrel
    have hsz := hb.size
    by_cases hlt : k < NN
    · obtain ⟨hw1, es, hl, ho, hr, hn⟩ := HP.out
      rw [HNN.out] at ho
      have hke : k < es.length := by rw [hl, HNN.out]; exact hlt
      have hk0 : k < es0.length := by rw [HNN.out]; exact hlt
      have hkw : k < ws.length := by rw [← HEL.out]; exact hk0
      obtain ⟨G, rfl, hG⟩ : ∃ G, A' = some ⟨G, 0, none⟩ ∧ G < w1.heap.size := by
        rcases HW.out.2 with ⟨h, h0⟩ | ⟨g, cap, cur, h, hg, hh, _⟩
        · omega
        · injection h with h0; exact ⟨g, h0, (Array.getElem?_eq_some_iff.1 hh).1⟩
      obtain ⟨x0, hx0⟩ : ∃ x, es0[k] = x := ⟨_, rfl⟩
      have hex : es[k] = x0 := by
        have := hr k (Nat.le_refl _)
        rw [List.getElem?_eq_getElem hke, List.getElem?_eq_getElem hk0, hx0] at this
        exact Option.some.inj this
      obtain ⟨q0, hq0⟩ : ∃ q, ws[k]? = some q := ⟨_, List.getElem?_eq_getElem hkw⟩
      have hx0r := HRD.out k x0 q0 (by rw [List.getElem?_eq_getElem hk0, hx0]) hq0
      have hsm0 := HSM.out q0 (List.mem_of_getElem? hq0)
      obtain ⟨b1, o1, e1, -, hcl⟩ := sl_seg (Sl.of_own (l := es) wkE_len (by rw [hl, HNN.out]; exact ho)) (n := es.length) hke
      injection e1 with e1
      injection e1 with e1 e2
      subst e1 e2
      rw [hex] at hcl
      simp only [Nat.zero_add] at hcl
      obtain ⟨q, b⟩ := x0
      obtain rfl : q = q0 := hx0r.1
      have HX := hide (hx0r.below hb)
      have HCL := hide hcl
      have HO := hide ho
      have HHN := hide hn
      have HHR := hide hr
      have HL := hide hl
      have HQ := hide hq0
      have HSM0 := hide hsm0
      clear hx0r hcl ho hn hr hl hq0 hx0 hex hke hk0 hkw hsm0 HP
      go_wp2_with (first
        | (refine wpList_load_seg rfl 102 (.tmp 15) rfl G (k * 44) rfl (wkE (q, b)) _ HCL.out Tryz.underlying102 rfl (by kernel_rfl) ?_)
        | (refine wpList_store_row rfl 102 (.tmp 7) (.tmp 16) rfl wr.heap.size rfl (wkE (q, b)).toArray rfl _ _ (heap_alloc_new wr _) (by kernel_rfl) rfl (wkA_one q b) ?_; rw [setRow_alloc])
        | (refine wpList_load_row rfl 102 (.tmp 7) rfl wr.heap.size rfl (wkE (q, b)).toArray _ _ _ (heap_alloc_new wr _) Tryz.underlying102 rfl (by kernel_rfl) ?_))
      have HBA := hide (balS wr (.cells (wkE (q, b)).toArray 102))
      (with_reducible refine (cpWorker_any q b _ ((wk_2 HX.out).below HBA.out) (sm_w HSM0.out)).mono ?_)
      rintro e w5 ⟨b', rfl, ho5, hb5⟩
      have hb6 := bcall HBA.out hb5
      have hs5 := hb6.size
      have HR5 := hide (show RW w1.heap.size w5 (q, b') q from ⟨rfl, own_base ho5 (Nat.le_trans hw1 HBA.out.size)⟩)
      have HO5 := hide (own_below HO.out hb6)
      have HB5 := hide (bcall hb hb6)
      have HN5 := hide (fun (i : Nat) x q (h1 : i < k) h2 h3 => (HHN.out i x q h1 h2 h3).below hb6)
      have HGB := hide (show w.heap.size ≤ G from (HO.out.lt G rfl).1)
      clear hb5 hb6
      go_wp2_with (refine wpList_store_elem (es := es) rfl 102 (.tmp 22) (.tmp 21) rfl k (k * 44) rfl rfl (q, b') rfl (by kernel_rfl) wkE_len (wkE_one _) HO5.out (by rw [HL.out, HNN.out]; exact hlt) ?_; intro w6 ho6 hg6)
      go_roundw
      case rel =>
        refine ⟨k + 1, by omega, by go_num, HB5.out.grown hg6 (by omega) (fun g e => by injection e with e; subst e; exact HGB.out), hide ⟨Nat.le_trans (Nat.le_trans hw1 hs5) hg6.size, ?_⟩⟩
        exact EachP.next HL.out (by rw [HNN.out]; exact hlt) (by rw [HNN.out]; exact ho6) HHR.out (fun i x q h1 h2 h3 => (HN5.out i x q h1 h2 h3).grown hg6 hG) HQ.out (HR5.out.grown hg6 hG)
      case measure => simp [Go.RowKit.intOf]; omega
    · have hkk : k = NN := by omega
      subst hkk
      go_wp2
      obtain ⟨hw1, es, hl, ho, hr, hn⟩ := HP.out
      rw [HNN.out] at ho hl
      go_ret
      refine ⟨_, es, rfl, ho, hl, fun i x q hx hq => (hn i x q ?_ hx hq).le hb1.size, hb⟩
      have := (List.getElem?_eq_some_iff.1 hx).1
      omega
set_option maxRecDepth 100000 in
set_option maxHeartbeats 4000000 in
theorem each_uts (v : Value) (ws : List Uq) (w : World) (h : Uts w v ws) (hsm : ∀ q ∈ ws, SmU q) (hbig : ws.length * 376 ≤ 140737488351232) :
    Calls Tryz.prog 88 #[v, .func (.func 89) #[] #[]] w fun e w' => ∃ (v' : Value) (es : List Uv), e = .returned v' ∧ w'.ownsRow w.heap.size 93 41 v' ws.length (es.flatMap utE) ∧ es.length = ws.length ∧
      (∀ (i : Nat) x q, es[i]? = some x → ws[i]? = some q → RU w.heap.size w' x q) ∧ Below w.heap.size w w' := by
  obtain ⟨es0, hsl, hel, hrd⟩ := h
  have HS := hide hsl
  have HEL := hide hel
  have HRD := hide hrd
  have HSM := hide hsm
  rw [← hel] at hbig ⊢
  clear hrd hsm hel
  obtain ⟨NN, hNN⟩ : ∃ NN, es0.length = NN := ⟨_, rfl⟩
  rw [hNN] at hbig ⊢
  obtain ⟨A0, c0, rfl, -⟩ := hsl
  rw [hNN] at HS
  rw [hNN]
  go_enter Tryz.func88, Tryz.ntmps88
  go_wp2_with fail
  (with_reducible refine (Clone_uts _ es0 _ HS.out (by rw [hNN]; exact hbig)).mono ?_)
  rintro e w1 ⟨v', rfl, hown, hb1⟩
  rw [hNN] at hown
  obtain ⟨A', c', rfl, hc1, hc2⟩ := own_form hown
  unfold maxLen at hc2
  have HW := hide hown
  have HNN := hide hNN
  clear hown hNN
  go_wp2
  go_loopw [12] (fun i wr => ∃ k : Nat, k ≤ NN ∧ i = .int .i64 k ∧ Below w.heap.size w wr ∧ Hid (w1.heap.size ≤ wr.heap.size ∧ EachP utE 41 93 w.heap.size (.slice A' NN c') es0 (RU w1.heap.size) ws wr k)) (fun i _ => NN - (Go.RowKit.intOf i).toNat)
  case atStart => exact ⟨0, Nat.zero_le _, rfl, hb1, hide ⟨Nat.le_refl _, EachP.start (by rw [HNN.out]; exact HW.out)⟩⟩
  case round =>
    obtain ⟨k, hk, rfl, hb, HP⟩ := hrel
    have hsz := hb.size
    by_cases hlt : k < NN
    · obtain ⟨hw1, es, hl, ho, hr, hn⟩ := HP.out
      rw [HNN.out] at ho
      have hke : k < es.length := by rw [hl, HNN.out]; exact hlt
      have hk0 : k < es0.length := by rw [HNN.out]; exact hlt
      have hkw : k < ws.length := by rw [← HEL.out]; exact hk0
      obtain ⟨G, rfl, hG⟩ : ∃ G, A' = some ⟨G, 0, none⟩ ∧ G < w1.heap.size := by
        rcases HW.out.2 with ⟨h, h0⟩ | ⟨g, cap, cur, h, hg, hh, _⟩
        · omega
        · injection h with h0; exact ⟨g, h0, (Array.getElem?_eq_some_iff.1 hh).1⟩
      obtain ⟨x0, hx0⟩ : ∃ x, es0[k] = x := ⟨_, rfl⟩
      have hex : es[k] = x0 := by
        have := hr k (Nat.le_refl _)
        rw [List.getElem?_eq_getElem hke, List.getElem?_eq_getElem hk0, hx0] at this
        exact Option.some.inj this
      obtain ⟨q0, hq0⟩ : ∃ q, ws[k]? = some q := ⟨_, List.getElem?_eq_getElem hkw⟩
      have hx0r := HRD.out k x0 q0 (by rw [List.getElem?_eq_getElem hk0, hx0]) hq0
      have hsm0 := HSM.out q0 (List.mem_of_getElem? hq0)
      obtain ⟨b1, o1, e1, -, hcl⟩ := sl_seg (Sl.of_own (l := es) utE_len (by rw [hl, HNN.out]; exact ho)) (n := es.length) hke
      injection e1 with e1
      injection e1 with e1 e2
      subst e1 e2
      rw [hex] at hcl
      simp only [Nat.zero_add] at hcl
      obtain ⟨q, r, b, t⟩ := x0
      obtain rfl : q = q0 := hx0r.1
      have HX := hide (hx0r.below hb)
      have HCL := hide hcl
      have HO := hide ho
      have HHN := hide hn
      have HHR := hide hr
      have HL := hide hl
      have HQ := hide hq0
      have HSM0 := hide hsm0
      clear hx0r hcl ho hn hr hl hq0 hx0 hex hke hk0 hkw hsm0 HP
      go_wp2_with (first
        | (refine wpList_load_seg rfl 93 (.tmp 15) rfl G (k * 41) rfl (utE (q, r, b, t)) _ HCL.out Tryz.underlying93 rfl (by kernel_rfl) ?_)
        | (refine wpList_store_row rfl 93 (.tmp 7) (.tmp 16) rfl wr.heap.size rfl (utE (q, r, b, t)).toArray rfl _ _ (heap_alloc_new wr _) (by kernel_rfl) rfl (utA_one q r b t) ?_; rw [setRow_alloc])
        | (refine wpList_load_row rfl 93 (.tmp 7) rfl wr.heap.size rfl (utE (q, r, b, t)).toArray _ _ _ (heap_alloc_new wr _) Tryz.underlying93 rfl (by kernel_rfl) ?_))
      have HBA := hide (balS wr (.cells (utE (q, r, b, t)).toArray 93))
      (with_reducible refine (cpMutator_any q r b t _ ((ut_2 HX.out).below HBA.out) ((ut_3 HX.out).below HBA.out) ((ut_4 HX.out).below HBA.out) (sm_1 HSM0.out) (sm_2 HSM0.out) (sm_3 HSM0.out)).mono ?_)
      rintro e w5 ⟨r', b', t', rfl, ho5, ho6, ho7, hb5⟩
      have hb6 := bcall HBA.out hb5
      have hs5 := hb6.size
      have HR5 := hide (show RU w1.heap.size w5 (q, r', b', t') q from ⟨rfl, own_base ho5 (Nat.le_trans hw1 HBA.out.size), own_base ho6 (Nat.le_trans hw1 HBA.out.size), own_base ho7 (Nat.le_trans hw1 HBA.out.size)⟩)
      have HO5 := hide (own_below HO.out hb6)
      have HB5 := hide (bcall hb hb6)
      have HN5 := hide (fun (i : Nat) x q (h1 : i < k) h2 h3 => (HHN.out i x q h1 h2 h3).below hb6)
      have HGB := hide (show w.heap.size ≤ G from (HO.out.lt G rfl).1)
      clear hb5 hb6
      go_wp2_with (refine wpList_store_elem (es := es) rfl 93 (.tmp 22) (.tmp 21) rfl k (k * 41) rfl rfl (q, r', b', t') rfl (by kernel_rfl) utE_len (utE_one _) HO5.out (by rw [HL.out, HNN.out]; exact hlt) ?_; intro w6 ho6 hg6)
      go_roundw
      case rel =>
        refine ⟨k + 1, by omega, by go_num, HB5.out.grown hg6 (by omega) (fun g e => by injection e with e; subst e; exact HGB.out), hide ⟨Nat.le_trans (Nat.le_trans hw1 hs5) hg6.size, ?_⟩⟩
        exact EachP.next HL.out (by rw [HNN.out]; exact hlt) (by rw [HNN.out]; exact ho6) HHR.out (fun i x q h1 h2 h3 => (HN5.out i x q h1 h2 h3).grown hg6 hG) HQ.out (HR5.out.grown hg6 hG)
      case measure => simp [Go.RowKit.intOf]; omega
    · have hkk : k = NN := by omega
      subst hkk
      go_wp2
      obtain ⟨hw1, es, hl, ho, hr, hn⟩ := HP.out
      rw [HNN.out] at ho hl
      go_ret
      refine ⟨_, es, rfl, ho, hl, fun i x q hx hq => (hn i x q ?_ hx hq).le hb1.size, hb⟩
      have := (List.getElem?_eq_some_iff.1 hx).1
      omega
end Go.Proofs.YtdmbcjckgfjcaaaGreatDoor
/- Layer state: each at rows of ints and of ops; rows, copiedHeap. Written by tools/genstate4.py. -/
namespace Go.Proofs.YtdmbcjckgfjcaaaGreatDoor
open Go.RowKit Go.Joins
def RI (B : Nat) (w : World) (u : Value) (l : List Int) : Prop := w.ownsRow B 3 1 u l.length (l.flatMap ic)
def RO (B : Nat) (w : World) (u : Value) (l : List Oq) : Prop := w.ownsRow B 99 4 u l.length (l.flatMap oq)
/-- lists of lists of ops that are the call's own -/
def OwnRowsO (base : Nat) (w : World) (v : Value) (ls : List (List Oq)) : Prop :=
  ∃ vs : List Value, w.ownsRow base 100 1 v vs.length vs ∧ vs.length = ls.length ∧ ∀ (i : Nat) (u : Value) (l : List Oq), vs[i]? = some u → ls[i]? = some l → w.ownsRow base 99 4 u l.length (l.flatMap oq)
section
variable {base G : Nat} {w w' : World} {v : Value} {ls : List (List Oq)}
theorem OwnRowsO.below (h : OwnRowsO base w v ls) (hb : Below w.heap.size w w') : OwnRowsO base w' v ls := by
  obtain ⟨vs, h1, h2, h3⟩ := h
  exact ⟨vs, own_below h1 hb, h2, fun i u l hu hl => own_below (h3 i u l hu hl) hb⟩
theorem OwnRowsO.grown (h : OwnRowsO base w v ls) (hg : w.grownBy w' (some G)) (hG : G < base) : OwnRowsO base w' v ls := by
  obtain ⟨vs, h1, h2, h3⟩ := h
  exact ⟨vs, own_grown h1 hg hG, h2, fun i u l hu hl => own_grown (h3 i u l hu hl) hg hG⟩
theorem OwnRowsO.le (h : OwnRowsO base w v ls) {b : Nat} (hb : b ≤ base) : OwnRowsO b w v ls := by
  obtain ⟨vs, h1, h2, h3⟩ := h
  exact ⟨vs, own_base h1 hb, h2, fun i u l hu hl => own_base (h3 i u l hu hl) hb⟩
theorem OwnRowsO.grid (h : OwnRowsO base w v ls) : GridO w v ls := by
  obtain ⟨vs, h1, h2, h3⟩ := h
  exact ⟨vs, Sl.of_own (enc := one) (size := 1) one_len (by rw [flat_one]; exact h1), h2, fun i u l hu hl => Sl.of_own oq_len (h3 i u l hu hl)⟩
end
theorem gridO_ones {w : World} {v : Value} {ls : List (List Oq)} (h : GridO w v ls) : ∃ vs : List Value, Sl one 1 w v vs ∧ vs.length = ls.length ∧ (∀ u ∈ vs, u.oneCell' = true) ∧ ∀ (i : Nat) (u : Value) (l : List Oq), vs[i]? = some u → ls[i]? = some l → Oqs w u l := by
  obtain ⟨vs, h1, h2, h3⟩ := h
  refine ⟨vs, h1, h2, fun u hu => ?_, h3⟩
  obtain ⟨i, hi⟩ := List.getElem?_of_mem hu
  have hil : i < ls.length := by rw [← h2]; exact (List.getElem?_eq_some_iff.1 hi).1
  obtain ⟨A, c, rfl, _⟩ := h3 i u ls[i] hi (List.getElem?_eq_getElem hil)
  rfl
theorem own_cell1 {w : World} {base g n c k : Nat} {e : TypeId} {es : List Value} {x : Value} (h : w.ownsRow base e 1 (.slice (some ⟨g, 0, none⟩) n c) n (es.flatMap one)) (hx : es[k]? = some x) : w.cell? ⟨g, k, none⟩ = some x ∧ w.frozen? ⟨g, k, none⟩ = false := by
  rw [flat_one] at h
  refine ⟨?_, h.frozenAt k⟩
  have := h.cells (g := g) rfl k x hx
  rwa [add_none, Nat.zero_add] at this
theorem own_put1 {w : World} {base g n c : Nat} {e : TypeId} {es : List Value} (h : w.ownsRow base e 1 (.slice (some ⟨g, 0, none⟩) n c) n (es.flatMap one)) (k : Nat) (x : Value) :
    (w.setCell ⟨g, k, none⟩ x).ownsRow base e 1 (.slice (some ⟨g, 0, none⟩) n c) n ((es.set k x).flatMap one) ∧ w.grownBy (w.setCell ⟨g, k, none⟩ x) (some g) := by
  rw [flat_one] at h ⊢
  exact h.stored k x
set_option maxRecDepth 100000 in
set_option maxHeartbeats 4000000 in
theorem each_rows (v : Value) (ls : List (List Int)) (w : World) (h : Grid w v ls) (hsm : ∀ l ∈ ls, l.length * 8 ≤ 140737488351232) (hbig : ls.length * 24 ≤ 140737488351232) :
    Calls Tryz.prog 136 #[v, .func (.func 84) #[] #[]] w fun e w' => ∃ (v' : Value) (es : List Value), e = .returned v' ∧ w'.ownsRow w.heap.size 47 1 v' ls.length (es.flatMap one) ∧ es.length = ls.length ∧
      (∀ (i : Nat) u l, es[i]? = some u → ls[i]? = some l → RI w.heap.size w' u l) ∧ Below w.heap.size w w' := by
  obtain ⟨es0, hsl, hel, hon, hrd⟩ := grid_ones h
  have HS := hide hsl
  have HEL := hide hel
  have HRD := hide hrd
  have HSM := hide hsm
  have HON := hide hon
  rw [← hel] at hbig ⊢
  clear hrd hsm hel hon
  obtain ⟨NN, hNN⟩ : ∃ NN, es0.length = NN := ⟨_, rfl⟩
  rw [hNN] at hbig ⊢
  obtain ⟨A0, c0, rfl, -⟩ := hsl
  rw [hNN] at HS
  rw [hNN]
  go_enter Tryz.func136, Tryz.ntmps136
  go_wp2_with fail
  (with_reducible refine (Clone_rows _ es0 _ HS.out HON.out (by rw [hNN]; exact hbig)).mono ?_)
  rintro e w1 ⟨v', rfl, hown, hb1⟩
  rw [hNN] at hown
  obtain ⟨A', c', rfl, hc1, hc2⟩ := own_form hown
  unfold maxLen at hc2
  have HW := hide hown
  have HNN := hide hNN
  clear hown hNN
  go_wp2
  go_loopw [12] (fun i wr => ∃ k : Nat, k ≤ NN ∧ i = .int .i64 k ∧ Below w.heap.size w wr ∧ Hid (w1.heap.size ≤ wr.heap.size ∧ EachP one 1 47 w.heap.size (.slice A' NN c') es0 (RI w1.heap.size) ls wr k)) (fun i _ => NN - (Go.RowKit.intOf i).toNat)
  case atStart => exact ⟨0, Nat.zero_le _, rfl, hb1, hide ⟨Nat.le_refl _, EachP.start (by rw [HNN.out, flat_one]; exact HW.out)⟩⟩
  case round =>
    obtain ⟨k, hk, rfl, hb, HP⟩ := hrel
    have hsz := hb.size
    by_cases hlt : k < NN
    · obtain ⟨hw1, es, hl, ho, hr, hn⟩ := HP.out
      rw [HNN.out] at ho
      have hke : k < es.length := by rw [hl, HNN.out]; exact hlt
      have hk0 : k < es0.length := by rw [HNN.out]; exact hlt
      have hkw : k < ls.length := by rw [← HEL.out]; exact hk0
      obtain ⟨G, rfl, hG⟩ : ∃ G, A' = some ⟨G, 0, none⟩ ∧ G < w1.heap.size := by
        rcases HW.out.2 with ⟨h, h0⟩ | ⟨g, cap, cur, h, hg, hh, _⟩
        · omega
        · injection h with h0; exact ⟨g, h0, (Array.getElem?_eq_some_iff.1 hh).1⟩
      obtain ⟨x0, hx0⟩ : ∃ x, es0[k] = x := ⟨_, rfl⟩
      have hex : es[k]? = some x0 := by
        rw [hr k (Nat.le_refl _), List.getElem?_eq_getElem hk0, hx0]
      obtain ⟨q0, hq0⟩ : ∃ q, ls[k]? = some q := ⟨_, List.getElem?_eq_getElem hkw⟩
      have hx0r := HRD.out k x0 q0 (by rw [List.getElem?_eq_getElem hk0, hx0]) hq0
      have hsm0 := HSM.out q0 (List.mem_of_getElem? hq0)
      obtain ⟨b, rfl, -⟩ := hd_of hx0r
      obtain ⟨hcl, hfz⟩ := own_cell1 ho hex
      have HX := hide (hx0r.below hb)
      have HO := hide ho
      have HHN := hide hn
      have HHR := hide hr
      have HL := hide hl
      have HQ := hide hq0
      have HEX := hide hex
      clear hx0r ho hn hr hl hq0 hx0 hex hke hk0 hkw HP
      go_wp2_with fail
      (with_reducible refine (Clone_ints _ q0 _ HX.out hsm0).mono ?_)
      rintro e w5 ⟨u, rfl, ho5, hb5⟩
      have hs5 := hb5.size
      have HR5 := hide (show RI w1.heap.size w5 u q0 from own_base ho5 hw1)
      have HO5 := hide (own_below HO.out hb5)
      have HB5 := hide (bcall hb hb5)
      have HN5 := hide (fun (i : Nat) x q (h1 : i < k) h2 h3 => own_below (HHN.out i x q h1 h2 h3) hb5)
      have HGB := hide (show w.heap.size ≤ G from (HO.out.lt G rfl).1)
      obtain ⟨uh, rfl, -⟩ := hd_of (Sl.of_own ic_len ho5)
      obtain ⟨hcl5, hfz5⟩ := own_cell1 HO5.out HEX.out
      have HPU := hide (own_put1 HO5.out k (hdV uh))
      clear ho5 hb5 hcl hfz
      go_wp2
      go_roundw
      case rel =>
        obtain ⟨ho6, hg6⟩ := HPU.out
        refine ⟨k + 1, by omega, by go_num, HB5.out.grown hg6 (by omega) (fun g e => by injection e with e; subst e; exact HGB.out), hide ⟨Nat.le_trans (Nat.le_trans hw1 hs5) hg6.size, ?_⟩⟩
        exact EachP.next HL.out (by rw [HNN.out]; exact hlt) (by rw [HNN.out]; exact ho6) HHR.out (fun i x q h1 h2 h3 => own_grown (HN5.out i x q h1 h2 h3) hg6 hG) HQ.out (own_grown HR5.out hg6 hG)
      case measure => simp [Go.RowKit.intOf]; omega
    · have hkk : k = NN := by omega
      subst hkk
      go_wp2
      obtain ⟨hw1, es, hl, ho, hr, hn⟩ := HP.out
      rw [HNN.out] at ho hl
      go_ret
      refine ⟨_, es, rfl, ho, hl, fun i x q hx hq => own_base (hn i x q ?_ hx hq) hb1.size, hb⟩
      have := (List.getElem?_eq_some_iff.1 hx).1
      omega
set_option maxRecDepth 100000 in
set_option maxHeartbeats 4000000 in
theorem each_rowsO (v : Value) (ls : List (List Oq)) (w : World) (h : GridO w v ls) (hsm : ∀ l ∈ ls, l.length * 32 ≤ 140737488351232) (hbig : ls.length * 24 ≤ 140737488351232) :
    Calls Tryz.prog 154 #[v, .func (.func 155) #[] #[]] w fun e w' => ∃ (v' : Value) (es : List Value), e = .returned v' ∧ w'.ownsRow w.heap.size 100 1 v' ls.length (es.flatMap one) ∧ es.length = ls.length ∧
      (∀ (i : Nat) u l, es[i]? = some u → ls[i]? = some l → RO w.heap.size w' u l) ∧ Below w.heap.size w w' := by
  obtain ⟨es0, hsl, hel, hon, hrd⟩ := gridO_ones h
  have HS := hide hsl
  have HEL := hide hel
  have HRD := hide hrd
  have HSM := hide hsm
  have HON := hide hon
  rw [← hel] at hbig ⊢
  clear hrd hsm hel hon
  obtain ⟨NN, hNN⟩ : ∃ NN, es0.length = NN := ⟨_, rfl⟩
  rw [hNN] at hbig ⊢
  obtain ⟨A0, c0, rfl, -⟩ := hsl
  rw [hNN] at HS
  rw [hNN]
  go_enter Tryz.func154, Tryz.ntmps154
  go_wp2_with fail
  (with_reducible refine (Clone_rowsO _ es0 _ HS.out HON.out (by rw [hNN]; exact hbig)).mono ?_)
  rintro e w1 ⟨v', rfl, hown, hb1⟩
  rw [hNN] at hown
  obtain ⟨A', c', rfl, hc1, hc2⟩ := own_form hown
  unfold maxLen at hc2
  have HW := hide hown
  have HNN := hide hNN
  clear hown hNN
  go_wp2
  go_loopw [12] (fun i wr => ∃ k : Nat, k ≤ NN ∧ i = .int .i64 k ∧ Below w.heap.size w wr ∧ Hid (w1.heap.size ≤ wr.heap.size ∧ EachP one 1 100 w.heap.size (.slice A' NN c') es0 (RO w1.heap.size) ls wr k)) (fun i _ => NN - (Go.RowKit.intOf i).toNat)
  case atStart => exact ⟨0, Nat.zero_le _, rfl, hb1, hide ⟨Nat.le_refl _, EachP.start (by rw [HNN.out, flat_one]; exact HW.out)⟩⟩
  case round =>
    obtain ⟨k, hk, rfl, hb, HP⟩ := hrel
    have hsz := hb.size
    by_cases hlt : k < NN
    · obtain ⟨hw1, es, hl, ho, hr, hn⟩ := HP.out
      rw [HNN.out] at ho
      have hke : k < es.length := by rw [hl, HNN.out]; exact hlt
      have hk0 : k < es0.length := by rw [HNN.out]; exact hlt
      have hkw : k < ls.length := by rw [← HEL.out]; exact hk0
      obtain ⟨G, rfl, hG⟩ : ∃ G, A' = some ⟨G, 0, none⟩ ∧ G < w1.heap.size := by
        rcases HW.out.2 with ⟨h, h0⟩ | ⟨g, cap, cur, h, hg, hh, _⟩
        · omega
        · injection h with h0; exact ⟨g, h0, (Array.getElem?_eq_some_iff.1 hh).1⟩
      obtain ⟨x0, hx0⟩ : ∃ x, es0[k] = x := ⟨_, rfl⟩
      have hex : es[k]? = some x0 := by
        rw [hr k (Nat.le_refl _), List.getElem?_eq_getElem hk0, hx0]
      obtain ⟨q0, hq0⟩ : ∃ q, ls[k]? = some q := ⟨_, List.getElem?_eq_getElem hkw⟩
      have hx0r := HRD.out k x0 q0 (by rw [List.getElem?_eq_getElem hk0, hx0]) hq0
      have hsm0 := HSM.out q0 (List.mem_of_getElem? hq0)
      obtain ⟨b, rfl, -⟩ := hd_of hx0r
      obtain ⟨hcl, hfz⟩ := own_cell1 ho hex
      have HX := hide (hx0r.below hb)
      have HO := hide ho
      have HHN := hide hn
      have HHR := hide hr
      have HL := hide hl
      have HQ := hide hq0
      have HEX := hide hex
      clear hx0r ho hn hr hl hq0 hx0 hex hke hk0 hkw HP
      go_wp2_with fail
      (with_reducible refine (Clone_ops _ q0 _ HX.out hsm0).mono ?_)
      rintro e w5 ⟨u, rfl, ho5, hb5⟩
      have hs5 := hb5.size
      have HR5 := hide (show RO w1.heap.size w5 u q0 from own_base ho5 hw1)
      have HO5 := hide (own_below HO.out hb5)
      have HB5 := hide (bcall hb hb5)
      have HN5 := hide (fun (i : Nat) x q (h1 : i < k) h2 h3 => own_below (HHN.out i x q h1 h2 h3) hb5)
      have HGB := hide (show w.heap.size ≤ G from (HO.out.lt G rfl).1)
      obtain ⟨uh, rfl, -⟩ := hd_of (Sl.of_own oq_len ho5)
      obtain ⟨hcl5, hfz5⟩ := own_cell1 HO5.out HEX.out
      have HPU := hide (own_put1 HO5.out k (hdV uh))
      clear ho5 hb5 hcl hfz
      go_wp2
      go_roundw
      case rel =>
        obtain ⟨ho6, hg6⟩ := HPU.out
        refine ⟨k + 1, by omega, by go_num, HB5.out.grown hg6 (by omega) (fun g e => by injection e with e; subst e; exact HGB.out), hide ⟨Nat.le_trans (Nat.le_trans hw1 hs5) hg6.size, ?_⟩⟩
        exact EachP.next HL.out (by rw [HNN.out]; exact hlt) (by rw [HNN.out]; exact ho6) HHR.out (fun i x q h1 h2 h3 => own_grown (HN5.out i x q h1 h2 h3) hg6 hG) HQ.out (own_grown HR5.out hg6 hG)
      case measure => simp [Go.RowKit.intOf]; omega
    · have hkk : k = NN := by omega
      subst hkk
      go_wp2
      obtain ⟨hw1, es, hl, ho, hr, hn⟩ := HP.out
      rw [HNN.out] at ho hl
      go_ret
      refine ⟨_, es, rfl, ho, hl, fun i x q hx hq => own_base (hn i x q ?_ hx hq) hb1.size, hb⟩
      have := (List.getElem?_eq_some_iff.1 hx).1
      omega
/-- lists of lists that are the call's own: the top and each row in blocks from base on -/
theorem rows_any (v : Value) (ls : Rws) (w : World) (h : Grid w v ls) (hsm : ∀ l ∈ ls, l.length * 8 ≤ 140737488351232) (hbig : ls.length * 24 ≤ 140737488351232) :
    Calls Tryz.prog 83 #[v] w fun e w' => ∃ v' : Hd, e = .returned (hdV v') ∧ OwnRows 47 3 w.heap.size w' (hdV v') ls ∧ Below w.heap.size w w' := by
  obtain ⟨A0, c0, rfl, -⟩ := id h.form
  have H := hide h
  clear h
  go_enter Tryz.func83, Tryz.ntmps83
  go_wp2_with fail
  (with_reducible refine (each_rows _ ls _ H.out hsm hbig).mono ?_)
  rintro e w1 ⟨v', es, rfl, ho, hl, hr, hb⟩
  obtain ⟨A1, c1, rfl, -⟩ := own_form ho
  have HO := hide ho
  have HR := hide hr
  clear ho hr
  go_wp2
  go_ret
  exact ⟨(A1, ls.length, c1), rfl, ⟨es, by rw [hl]; have := HO.out; rw [flat_one] at this; exact this, hl, fun i u l hu hl => HR.out i u l hu hl⟩, hb⟩
theorem rowsO_any (v : Value) (ls : List (List Oq)) (w : World) (h : GridO w v ls) (hsm : ∀ l ∈ ls, l.length * 32 ≤ 140737488351232) (hbig : ls.length * 24 ≤ 140737488351232) :
    Calls Tryz.prog 111 #[v] w fun e w' => ∃ v' : Hd, e = .returned (hdV v') ∧ OwnRowsO w.heap.size w' (hdV v') ls ∧ Below w.heap.size w w' := by
  obtain ⟨A0, c0, rfl, -⟩ := id h.form
  have H := hide h
  clear h
  go_enter Tryz.func111, Tryz.ntmps111
  go_wp2_with fail
  (with_reducible refine (each_rowsO _ ls _ H.out hsm hbig).mono ?_)
  rintro e w1 ⟨v', es, rfl, ho, hl, hr, hb⟩
  obtain ⟨A1, c1, rfl, -⟩ := own_form ho
  have HO := hide ho
  have HR := hide hr
  clear ho hr
  go_wp2
  go_ret
  exact ⟨(A1, ls.length, c1), rfl, ⟨es, by rw [hl]; have := HO.out; rw [flat_one] at this; exact this, hl, fun i u l hu hl => HR.out i u l hu hl⟩, hb⟩
end Go.Proofs.YtdmbcjckgfjcaaaGreatDoor
