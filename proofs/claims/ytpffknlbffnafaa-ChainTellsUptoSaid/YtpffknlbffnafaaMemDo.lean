/- Layer mem: slices.Clone and slices.Equal on cells; Same, Do. -/
import Derived.Test.YtpffknlbffnafaaMemTurn
import Derived.Lib.SliceRun
import Derived.Deep.QuietTactic
import Derived.BigQuiet
import Derived.Deep.RegionHeld3
namespace Go.Proofs.Ytpffknlbffnafaa
open Go.RowKit

theorem infoU : (Try.prog.info? 24).map (fun i => (i.zero, i.size, i.bytes)) = some (some (.int .u64 0), 1, 8) := by kernel_rfl
theorem cells_at {w : World} {A : Option Addr} {n c k : Nat} {l : List Int} (h : Cells w (.slice A n c) l) (hk : k < l.length) :
    ∃ b off, A = some ⟨b, off, none⟩ ∧ b < w.heap.size ∧ w.cell? ⟨b, off + k, none⟩ = some (.int .u64 l[k]) := by
  obtain ⟨A', c', e, h1, h2, h3⟩ := h
  injection e with e1 e2 e3
  subst e1
  obtain ⟨b, off, rfl, hb, hc⟩ := h3 (by omega)
  refine ⟨b, off, rfl, hb, ?_⟩
  have := hc k l[k] (List.getElem?_eq_getElem hk) 0 (.int .u64 l[k]) rfl
  simpa using this

set_option maxHeartbeats 1000000 in
theorem Clone_cells (v : Value) (l : List Int) (w : World) (h : Cells w v l) (hbig : l.length * 8 ≤ 140737488351232) :
    Calls Try.prog 25 #[v] w fun e w' => ∃ v', e = .returned v' ∧ w'.ownsRow w.heap.size 24 1 v' l.length (l.flatMap uc) ∧ Below w.heap.size w w' := by
  obtain ⟨i0, hi, hz0, hz1, hz2⟩ := info_parts infoU
  have qn : ∀ (w : World) (a : Option Addr) (n c n' c' : Nat), (binOp .eql 23 (.slice a n c) (.slice none n' c')).run Try.prog w = .ok (.bool a.isNone) w := fun w a n c n' c' => Lib.run_eql_slice_nil w _ _ a n c n' c' Try.underlying23
  have HL := hide h
  obtain ⟨A, c, rfl, h1, h2, h3⟩ := h
  unfold maxLen at h2
  rcases A with _ | a
  · have h0 : l = [] := by
      rcases Nat.eq_zero_or_pos l.length with h0 | h0
      · exact List.eq_nil_of_length_eq_zero h0
      · obtain ⟨b, off, h, _⟩ := h3 h0; cases h
    subst h0
    clear h3
    go_enter Try.func25, Try.ntmps25
    go_wp2
    go_ret
    exact ⟨_, rfl, World.ownsRow_nil _ _ _ _, Below.refl _ _⟩
  · clear h3
    go_enter Try.func25, Try.ntmps25
    go_wp2_with (at_builtin; refine wpList_append_sl _ rfl _ _ 23 rfl w.heap.size 24 i0 (.int .u64 0) 1 8 Try.underlying23 hi hz0 hz1 hz2 rfl (by decide) _ _ _ rfl (World.ownsRow_made w #[] 0 (Nat.le_refl _) (Nat.zero_le _) rfl) _ l rfl (HL.out.alloc _) uc_len (fun _ u hu => by simp [uc] at hu; subst hu; rfl) (by unfold maxLen; omega) (by omega) (by simp) ?_)
    intro v' w1 hown hb
    go_wp2
    go_ret
    exact ⟨v', rfl, by simpa using hown, (bal _ _).trans hb⟩

set_option maxHeartbeats 2000000 in
theorem Do_any (v : Value) (m : List Int) (k t a b : Int) (w : World) (h : Cells w v m) (hbig : m.length * 8 ≤ 140737488351232) :
    Calls Try.prog 48 #[v, ov k t a b] w fun e w' => ∃ v', e = .returned (.tuple #[v', .int .u64 (vF m ⟨k, t, a, b⟩), .bool (okF m ⟨k, t, a, b⟩)]) ∧ OwnC w.heap.size w' v' (mF m ⟨k, t, a, b⟩) ∧ Below w.heap.size w w' := by
  obtain ⟨w1, e1, hb1, hs1, c0, c1, c2, c3⟩ := box4 w (.int .i64 k) (.int .i64 t) (.int .u64 a) (.int .u64 b) 68
  have HE := hide e1
  have HC := hide (h.below hb1)
  clear e1 h
  go_enter Try.func48, Try.ntmps48
  go_wp2_with fail
  rw [HE.out]
  (with_reducible refine (Clone_cells _ m _ HC.out hbig).mono ?_)
  rintro e w2 ⟨v', rfl, hown, hb2⟩
  have c0 := keepc hb2 c0
  have c1 := keepc hb2 c1
  have c2 := keepc hb2 c2
  have c3 := keepc hb2 c3
  obtain ⟨A, c, rfl, hc1, hc2⟩ := own_form hown
  have HO := hide hown
  clear hown
  go_wp2
  go_region_with (first
    | (go_at_call 39; (with_reducible refine (deeds_any _).mono ?_); rintro e w3 ⟨rfl, hD3, hb3⟩; have c0 := keepc hb3 c0; have c1 := keepc hb3 c1; have c2 := keepc hb3 c2; have c3 := keepc hb3 c3; have hD4 := (show Dm w3 w2.heap.size from hD3); have hO3 := own_below (World.ownsRow.drew HO.out) hb3; have hb3 : Below w2.heap.size w2 w3 := ⟨hb3.os, hb3.tape, hb3.output, hb3.size, hb3.block⟩)
    | (go_at_call 40; (with_reducible refine (turn_any _ m _ k t a b _ w1.heap.size hO3 hD4).mono ?_); rintro e w4 ⟨rfl, ho4, hg4⟩))
  all_goals
    have hX := hide (show OwnC w.heap.size w4 (.slice A m.length c) (mF m ⟨k, t, a, b⟩) by
      show w4.ownsRow w.heap.size 24 1 _ (mF m ⟨k, t, a, b⟩).length _
      rw [mF_len]
      exact own_base ho4 hb1.size)
    have hY := hide (bcall hb1 ((bcall hb2 hb3).grown hg4 (Nat.le_trans hb2.size hb3.size) (own_ge hO3)))
    clear ho4 hg4 hO3 hD3 hD4
    go_wp2
    go_ret3
    exact ⟨_, rfl, hX.out, hY.out⟩
end Go.Proofs.Ytpffknlbffnafaa
