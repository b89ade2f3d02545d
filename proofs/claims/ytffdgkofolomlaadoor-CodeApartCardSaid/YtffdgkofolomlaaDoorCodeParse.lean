/- Layer code: Parse: what is caught, and what is not. -/
import Derived.Test.YtffdgkofolomlaaDoorCodeOps3
import Derived.Recover
import Derived.Defers
namespace Go.Proofs.YtffdgkofolomlaaDoor
open Go.RowKit Go.Shelf Go.Proofs

theorem c_panicking (T E : Nat) (a c : Value) (u : TypeId) (pv : Value) (older : List PanicEntry) (w : World) (h0 : w.cell? ⟨T, 0, none⟩ = some a) (h2 : w.cell? ⟨E, 0, none⟩ = some c)
    (f0 : w.frozen? ⟨T, 0, none⟩ = false) (f2 : w.frozen? ⟨E, 0, none⟩ = false) (_hTE : T ≠ E) (_hET : E ≠ T) :
    CallsD Tryd.prog 25 #[.pointer (some ⟨T, 0, none⟩), .pointer (some ⟨E, 0, none⟩)] (.panicking ({ v := .iface u pv, recovered := false } :: older)) w fun e u' w' =>
      e = .returned (.tuple #[]) ∧ u' = .panicking ({ v := .iface u pv, recovered := true } :: older) ∧ w' = (w.setCell ⟨T, 0, none⟩ (.slice none 0 0)).setCell ⟨E, 0, none⟩ (.int .i64 2) := by
  refine callsD_of_wpS Tryd.func25 rfl fun c₀ cs hu => ?_
  apply wpS_seq
  apply wpS_region
  simp [wpOpsS, go_sem, recoverD, hu, Tryd.ntmps25, Exit.thenS]
  refine wpS_cond (t := true) (by simp [Act.eval, Array.replicate]) ?_
  simp only [if_true]
  apply wpS_region
  simp [wpOpsS, go_sem, h0, h2, f0, f2, bodyPostS, results, Tryd.results25]
theorem c_idle (T E : Nat) (w : World) :
    CallsD Tryd.prog 25 #[.pointer (some ⟨T, 0, none⟩), .pointer (some ⟨E, 0, none⟩)] .returning w fun e u' w' => e = .returned (.tuple #[]) ∧ u' = .returning ∧ w' = w := by
  refine callsD_of_wpS Tryd.func25 rfl fun c₀ cs hu => ?_
  apply wpS_seq
  apply wpS_region
  simp [wpOpsS, go_sem, recoverD, hu, Tryd.ntmps25, Exit.thenS]
  refine wpS_cond (t := false) (by simp [Act.eval, Array.replicate]) ?_
  simp only [Bool.false_eq_true, if_false]
  refine wpS_of_wp (wp_skip ?_)
  cases c₀
  simp_all [bodyPostS, results, Tryd.results25]
theorem box_two (w : World) (t1 t2 : TypeId) (x y : Value) : ∃ w1, (w.alloc (.cells #[x] t1)).alloc (.cells #[y] t2) = w1 ∧ Below w.heap.size w w1 ∧ w1.heap.size = w.heap.size + 2 ∧ Boxed w1 w.heap.size t1 x ∧ Boxed w1 (w.heap.size + 1) t2 y := by
  refine ⟨_, rfl, ((Below.refl _ w).alloc (Nat.le_refl _) _).alloc (by simp) _, by simp, (Boxed.new w t1 x).alloc _, ?_⟩
  have := Boxed.new (w.alloc (.cells #[x] t1)) t2 y
  rwa [World.size_alloc] at this
theorem boxed_below {W W' : World} {B : Nat} {t : TypeId} {v : Value} (h : Boxed W B t v) (hb : Below W.heap.size W W') : Boxed W' B t v := h.kept (grown_of_below hb none) (by simp)
/-- what Parse answers -/
def ParseP (t : List UInt8) (w : World) (e : Ending) (w' : World) : Prop :=
  ∃ v, e = .returned (.tuple #[v, .int .i64 (cParse t).2]) ∧ w'.ownsRow w.heap.size 24 4 v (cParse t).1.length ((cParse t).1.flatMap oq) ∧ Below w.heap.size w w'
set_option maxRecDepth 100000 in
set_option maxHeartbeats 4000000 in
theorem Parse_any (s : ByteArray) (w : World) (hs : s.size ≤ 9223372036854775807) : Calls Tryd.prog 10 #[.string s] w (ParseP s.data.toList w) := by
  have hmf : ∀ (fn : Fn) (first cap : Array Value) (w : World), (Instr.makeFunc fn first cap).run Tryd.prog w = .ok (.func fn first cap) w := fun _ _ _ _ => rfl
  have HO := hide (fun w => (callsIn_wide (n := 4)).1 (ops_any s w hs))
  obtain ⟨t, ht⟩ : ∃ t, s.data.toList = t := ⟨_, rfl⟩
  rw [ht] at HO ⊢
  obtain ⟨w1, e1, hb1, hs1, bT, bE⟩ := box_two w 22 26 (.slice none 0 0) (.int .i64 0)
  have HB1 := hide hb1
  have HT := hide bT
  have HE := hide bE
  have HS1 := hide hs1
  by_cases hd : t = [45]
  · have EF := hide (show cParse t = ([], 0) by unfold cParse; rw [if_pos hd])
    have q1 : (s.toList == [45]) = true := by rw [beq_iff_eq, ba_list, ht]; exact hd
    have r0 := bT.cell
    have r1 := bE.cell
    have r2 := bT.frozen
    have r3 := bE.frozen
    clear hd ht bT bE hb1 hs1
    go_enter_defers Tryd.func10, Tryd.ntmps10
    go_wp2
    refine leaves_cons (f := 25) (args := #[.pointer (some ⟨w.heap.size, 0, none⟩), .pointer (some ⟨w.heap.size + 1, 0, none⟩)]) (by simp) (by simp [go_sem]) ?_
    refine (c_idle _ _ _).mono ?_
    rintro e u' w'' ⟨rfl, rfl, rfl⟩
    simp only [Leaves, settle]
    refine ⟨.tuple #[.slice none 0 0, .int .i64 0], by simp [results, Tryd.results10, go_sem, r0, r1], .slice none 0 0, by rw [EF.out], ?_, (HB1.out.setCell (by simp) _).setCell (by simp) _⟩
    rw [EF.out]
    exact World.ownsRow_nil _ _ _ _
  · have EF := hide (show cParse t = (match cOps (cut 59 t) with | none => ([], 2) | some l => if 64 < l.length then ([], 3) else (l, 0)) by unfold cParse; rw [if_neg hd]; cases cOps (cut 59 t) <;> rfl)
    have q1 : (s.toList == [45]) = false := by rw [beq_eq_false_iff_ne, ba_list, ht]; exact hd
    obtain ⟨o, ho⟩ : ∃ o, cOps (cut 59 t) = o := ⟨_, rfl⟩
    unfold OpsP at HO
    rw [ho] at EF HO
    have HOO := hide (HO.out w1)
    clear hd ht bT bE hb1 hs1 ho HO
    go_enter_defers Tryd.func10, Tryd.ntmps10
    go_wp2_with fail
    (with_reducible refine HOO.out.mono ?_)
    rintro e w2 ⟨he, hb2⟩
    have HT2 := hide (boxed_below HT.out hb2)
    have HE2 := hide (boxed_below HE.out hb2)
    have HB2 := hide (bcall HB1.out hb2)
    have r0 := HT2.out.cell
    have r1 := HE2.out.cell
    have r2 := HT2.out.frozen
    have r3 := HE2.out.frozen
    cases o with
    | none =>
      obtain ⟨u, v, rfl⟩ := he
      clear hb2
      go_wp2
      refine leaves_cons (f := 25) (args := #[.pointer (some ⟨w.heap.size, 0, none⟩), .pointer (some ⟨w.heap.size + 1, 0, none⟩)]) (by simp) (by simp [go_sem]) ?_
      refine (c_panicking w.heap.size (w.heap.size + 1) _ _ u v [] w2 r0 r1 r2 r3 (by omega) (by omega)).mono ?_
      rintro e u' w'' ⟨rfl, rfl, rfl⟩
      simp only [Leaves, settle, List.dropWhile_nil]
      refine ⟨.tuple #[.slice none 0 0, .int .i64 2], by simp [results, Tryd.results10, go_sem, r0, r1], .slice none 0 0, by rw [EF.out], ?_, (HB2.out.setCell (by simp) _).setCell (by simp) _⟩
      rw [EF.out]
      exact World.ownsRow_nil _ _ _ _
    | some l =>
      simp only at he EF
      by_cases h64 : 64 < l.length
      · rw [if_pos h64] at he EF
        subst he
        clear hb2
        go_wp2
        refine leaves_cons (f := 25) (args := #[.pointer (some ⟨w.heap.size, 0, none⟩), .pointer (some ⟨w.heap.size + 1, 0, none⟩)]) (by simp) (by simp [go_sem]) ?_
        refine (c_idle _ _ _).mono ?_
        rintro e u' w'' ⟨rfl, rfl, rfl⟩
        simp only [Leaves, settle]
        refine ⟨.tuple #[.slice none 0 0, .int .i64 3], by simp [results, Tryd.results10, go_sem, r0, r1], .slice none 0 0, by rw [EF.out], ?_, (HB2.out.setCell (by simp) _).setCell (by simp) _⟩
        rw [EF.out]
        exact World.ownsRow_nil _ _ _ _
      · rw [if_neg h64] at he EF
        obtain ⟨v, rfl, hrow⟩ := he
        obtain ⟨A, c, rfl, hc1, hc2⟩ := own_form hrow
        have HR := hide hrow
        clear hb2 hrow
        go_wp2
        refine leaves_cons (f := 25) (args := #[.pointer (some ⟨w.heap.size, 0, none⟩), .pointer (some ⟨w.heap.size + 1, 0, none⟩)]) (by simp) (by simp [go_sem]) ?_
        refine (c_idle _ _ _).mono ?_
        rintro e u' w'' ⟨rfl, rfl, rfl⟩
        simp only [Leaves, settle]
        refine ⟨.tuple #[.slice A l.length c, .int .i64 0], by simp [results, Tryd.results10, go_sem, r0, r1], .slice A l.length c, by rw [EF.out], ?_, (HB2.out.setCell (by simp) _).setCell (by simp) _⟩
        rw [EF.out]
        have HS := HS1.out
        exact own_base (ownsRow_setCell_below (ownsRow_setCell_below HR.out (by simp; omega) _) (by simp; omega) _) (by omega)
end Go.Proofs.YtffdgkofolomlaaDoor
