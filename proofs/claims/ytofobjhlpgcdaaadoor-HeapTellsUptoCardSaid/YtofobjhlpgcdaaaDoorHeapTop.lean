/- Layer heap: Parse: what is caught, and what is not. -/
import Derived.Test.YtofobjhlpgcdaaaDoorHeapParse
import Derived.Recover
import Derived.Defers
namespace Go.Proofs.YtofobjhlpgcdaaaDoor
open Go.RowKit Go.Shelf Go.Proofs

theorem catch_panicking (T E : Nat) (a b c : Value) (u : TypeId) (pv : Value) (older : List PanicEntry) (w : World) (h0 : w.cell? ⟨T, 0, none⟩ = some a) (h1 : w.cell? ⟨T, 1, none⟩ = some b) (h2 : w.cell? ⟨E, 0, none⟩ = some c)
    (f0 : w.frozen? ⟨T, 0, none⟩ = false) (f1 : w.frozen? ⟨T, 1, none⟩ = false) (f2 : w.frozen? ⟨E, 0, none⟩ = false) (_hTE : T ≠ E) (_hET : E ≠ T) :
    CallsD Tryd.prog 26 #[.pointer (some ⟨T, 0, none⟩), .pointer (some ⟨E, 0, none⟩)] (.panicking ({ v := .iface u pv, recovered := false } :: older)) w fun e u' w' =>
      e = .returned (.tuple #[]) ∧ u' = .panicking ({ v := .iface u pv, recovered := true } :: older) ∧ w' = ((w.setCell ⟨T, 0, none⟩ (.int .i64 0)).setCell ⟨T, 1, none⟩ (.slice none 0 0)).setCell ⟨E, 0, none⟩ (.int .i64 2) := by
  refine callsD_of_wpS Tryd.func26 rfl fun c₀ cs hu => ?_
  apply wpS_seq
  apply wpS_region
  simp [wpOpsS, go_sem, recoverD, hu, Tryd.ntmps26, Exit.thenS]
  refine wpS_cond (t := true) (by simp [Act.eval, Array.replicate]) ?_
  simp only [if_true]
  apply wpS_region
  simp [wpOpsS, go_sem, h0, h1, h2, f0, f1, f2, bodyPostS, results, Tryd.results26]
theorem catch_idle (T E : Nat) (w : World) :
    CallsD Tryd.prog 26 #[.pointer (some ⟨T, 0, none⟩), .pointer (some ⟨E, 0, none⟩)] .returning w fun e u' w' => e = .returned (.tuple #[]) ∧ u' = .returning ∧ w' = w := by
  refine callsD_of_wpS Tryd.func26 rfl fun c₀ cs hu => ?_
  apply wpS_seq
  apply wpS_region
  simp [wpOpsS, go_sem, recoverD, hu, Tryd.ntmps26, Exit.thenS]
  refine wpS_cond (t := false) (by simp [Act.eval, Array.replicate]) ?_
  simp only [Bool.false_eq_true, if_false]
  refine wpS_of_wp (wp_skip ?_)
  cases c₀
  simp_all [bodyPostS, results, Tryd.results26]

set_option maxRecDepth 100000 in
set_option maxHeartbeats 4000000 in
theorem Parse_any (l : B8) (w : World) (hl : l.length ≤ 140737488351232) (hE : EnvH w) :
    Calls Tryd.prog 12 #[.string ⟨l.toArray⟩] w fun e w' =>
      (match heapF l with | some p => ∃ v, e = .returned (.tuple #[hv p.1 v, .int .i64 0]) ∧ OwnRows 53 3 w.heap.size w' v p.2 | none => e = .returned (.tuple #[hv 0 (.slice none 0 0), .int .i64 2])) ∧ Below w.heap.size w w' := by
  have hmf : ∀ (fn : Fn) (first cap : Array Value) (w : World), (Instr.makeFunc fn first cap).run Tryd.prog w = .ok (.func fn first cap) w := fun _ _ _ _ => rfl
  have HE := hide hE
  have HL := hide hl
  clear hE hl
  obtain ⟨P, hP⟩ : ∃ P, heapF l = P := ⟨_, rfl⟩
  have HP := hide hP
  rw [hP]
  clear hP
  go_enter_defers Tryd.func12, Tryd.ntmps12
  go_wp2_with fail
  obtain ⟨wa, ea, hba, hla, -, a0, a1⟩ := box1 w (.int .i64 0) (.slice none 0 0) 24
  have hsa : wa.heap.size = w.heap.size + 1 := by rw [← ea]; simp
  have a2 : ∀ j, wa.frozen? ⟨w.heap.size, j, none⟩ = false := fun j => by rw [← ea]; exact frozen_of_row _ _ j #[.int .i64 0, .slice none 0 0] _ (heap_alloc_new w _)
  rw [ea]
  obtain ⟨wb, eb⟩ : ∃ wb, wa.alloc (.cells #[.int .i64 0] 35) = wb := ⟨_, rfl⟩
  have hsb : wb.heap.size = w.heap.size + 2 := by rw [← eb]; simp [hsa]
  have hbb : Below wa.heap.size wa wb := by rw [← eb]; exact bal _ _
  have hob : wb.heap[wa.heap.size]? = some (.cells #[.int .i64 0] 35 (0, 0)) := by rw [← eb]; exact heap_alloc_new wa _
  rw [eb]
  obtain ⟨wc, ec⟩ : ∃ wc, wb.alloc (.cells #[.string ⟨l.toArray⟩] 59) = wc := ⟨_, rfl⟩
  have hsc : wc.heap.size = w.heap.size + 3 := by rw [← ec]; simp [hsb]
  have hbc : Below wb.heap.size wb wc := by rw [← ec]; exact bal _ _
  have hR : RestAt (w.heap.size + 1 + 1) l wc := by
    have : wc.heap[wb.heap.size]? = some (.cells #[.string ⟨l.toArray⟩] 59 (0, 0)) := by rw [← ec]; exact heap_alloc_new wb _
    rw [hsb] at this; exact this
  rw [ec]
  have hBc : Below w.heap.size w wc := bcall (bcall hba hbb) hbc
  have hoc : wc.heap[w.heap.size + 1]? = some (.cells #[.int .i64 0] 35 (0, 0)) := by rw [← hsa]; exact (hbc.block _ (by omega)).trans hob
  have e0 := cell_of_one hoc
  have e1 := free_of_one hoc
  have k0 := keepc hbc (keepc hbb a0)
  have k1 := keepc hbc (keepc hbb a1)
  have f0 := keepf hbc (keepc hbb a0) (keepf hbb a0 (a2 0))
  have f1 := keepf hbc (keepc hbb a1) (keepf hbb a1 (a2 1))
  clear a0 a1 a2 ea eb ec hob hoc
  have hH := rheap_any (w.heap.size + 1 + 1) l wc HL.out (HE.out.below hBc) hR (HE.out.ng (by omega))
  rw [HP.out] at hH
  (with_reducible refine hH.mono ?_)
  rintro e w4 ⟨hp, hg4⟩
  have n0 : some (w.heap.size + 1 + 1) ≠ some w.heap.size := fun e => by injection e with e; omega
  have n1 : some (w.heap.size + 1 + 1) ≠ some (w.heap.size + 1) := fun e => by injection e with e; omega
  have r0 := keepg hg4 k0 n0
  have r1 := keepg hg4 k1 n0
  have r2 := keepg hg4 e0 n1
  have z0 := keepgf hg4 k0 f0 n0
  have z1 := keepgf hg4 k1 f1 n0
  have z2 := keepgf hg4 e0 e1 n1
  have hB4 : Below w.heap.size w w4 := (hBc.trans (Below.grown (Below.refl _ _) hg4 (by omega) (fun k hk => by injection hk with hk; omega)))
  have hHB := hide hB4
  clear n0 n1 k0 k1 e0 e1 f0 f1 hH hg4 hR HE HL HP
  cases P with
  | none =>
    obtain ⟨u, v, rfl⟩ := hp
    go_wp2
    refine leaves_cons (f := 26) (args := #[.pointer (some ⟨w.heap.size, 0, none⟩), .pointer (some ⟨w.heap.size + 1, 0, none⟩)]) (by simp) (by simp [go_sem]) ?_
    refine (catch_panicking w.heap.size (w.heap.size + 1) _ _ _ u v [] w4 r0 r1 r2 z0 z1 z2 (by omega) (by omega)).mono ?_
    rintro e u' w'' ⟨rfl, rfl, rfl⟩
    simp [Leaves, settle, results, Tryd.results12, go_sem, r0, r1, r2]
    exact ((hHB.out.setCell (by simp) _).setCell (by simp) _).setCell (by simp) _
  | some p =>
    obtain ⟨v, rfl, hG⟩ := hp
    obtain ⟨A, c, rfl, h1, h2⟩ := hG.grid.form
    rw [hsc] at hG
    have HG := hide hG
    clear hG
    go_wp2
    refine leaves_cons (f := 26) (args := #[.pointer (some ⟨w.heap.size, 0, none⟩), .pointer (some ⟨w.heap.size + 1, 0, none⟩)]) (by simp) (by simp [go_sem]) ?_
    refine (catch_idle w.heap.size (w.heap.size + 1) _).mono ?_
    rintro e u' w'' ⟨rfl, rfl, rfl⟩
    simp [Leaves, settle, results, Tryd.results12, go_sem, r0, r1, r2]
    exact ⟨(((HG.out.setCell_below (by simp) _).setCell_below (by simp) _).setCell_below (by simp) _).le (by omega), ((hHB.out.setCell (by simp) _).setCell (by simp) _).setCell (by simp) _⟩
end Go.Proofs.YtofobjhlpgcdaaaDoor
