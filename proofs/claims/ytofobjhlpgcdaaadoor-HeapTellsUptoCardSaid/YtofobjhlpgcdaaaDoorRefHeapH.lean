/- Layer heap: the document's own answer: Alloc. -/
import Derived.Test.YtofobjhlpgcdaaaDoorRefHeapF
import Derived.Test.YtofobjhlpgcdaaaDoorRefHeapB
namespace Go.Proofs.YtofobjhlpgcdaaaDoor
open Go.RowKit

set_option maxRecDepth 100000 in
set_option maxHeartbeats 8000000 in
theorem rAlloc_any (n : Int) (v : Value) (ls : Rws) (m : Int) (w : World) (h : Grid w v ls) (hf : Fit ls) :
    Calls Tryd.prog 11 #[hv n v, .int .i64 m] w fun e w' => ∃ v', e = .returned (.tuple #[hv n v', .int .i64 (allocN n ls m), .int .i64 (allocE n ls m)]) ∧ Grid w' v' (allocF n ls m) ∧ Below w.heap.size w w' := by
  have HG := hide h
  obtain ⟨A, c, rfl, h1, h2⟩ := h.form
  unfold maxLen at h2
  have HF := hide hf
  clear h hf
  obtain ⟨w1, ew, hB1, hS1, k0, k1, k2, k3, f2, f3⟩ := box3 w (.int .i64 n) (.slice A ls.length c) (.int .i64 0) (.slice none 0 0) 26
  have HE := hide ew
  have HG1 := hide (HG.out.below hB1)
  clear ew
  go_enter Tryd.func11, Tryd.ntmps11
  go_wp2_with fail
  rw [HE.out]
  (with_reducible refine (rRight_any _ _ ls _ HG1.out).mono ?_)
  rintro e w2 ⟨rfl, hb2⟩
  have c0 := keepc hb2 k0
  have c1 := keepc hb2 k1
  have r0 := keepc hb2 k2
  have r1 := keepc hb2 k3
  have z0 := keepf hb2 k2 f2
  have z1 := keepf hb2 k3 f3
  have hB2 := bcall hB1 hb2
  have hs2 := hb2.size
  have HG2 := hide (HG.out.below hB2)
  by_cases hR : rightF n ls = true
  · have hr := right_len hR
    obtain ⟨r1', r2', r3'⟩ := hr
    by_cases hM : m ≤ ls.length
    · have HE1 := hide (show allocE n ls m = 4 by unfold allocE; rw [if_pos hR, if_pos (.inl hM)])
      rw [hR]
      clear hR
      go_wp2
      refine bodyPost_ret (v := .tuple #[hv n (.slice A ls.length c), .int .i64 0, .int .i64 4]) (by simp [results, Tryd.results11, go_sem, r0, r1]) rfl ⟨.slice A ls.length c, ?_, ?_, ?_⟩
      · unfold allocN; rw [HE1.out]; rfl
      · unfold allocF; rw [HE1.out]
        refine HG.out.below ?_
        exact (hB2.setCell (by simp) _).setCell (by simp) _
      · exact (hB2.setCell (by simp) _).setCell (by simp) _
    · by_cases h64 : 64 ≤ ls.length
      · have HE1 := hide (show allocE n ls m = 4 by unfold allocE; rw [if_pos hR, if_pos (.inr h64)])
        rw [hR]
        clear hR
        have hM' : decide (m ≤ (ls.length : Int)) = false := decide_eq_false hM
        go_wp2
        refine bodyPost_ret (v := .tuple #[hv n (.slice A ls.length c), .int .i64 0, .int .i64 4]) (by simp [results, Tryd.results11, go_sem, r0, r1]) rfl ⟨.slice A ls.length c, ?_, ?_, ?_⟩
        · unfold allocN; rw [HE1.out]; rfl
        · unfold allocF; rw [HE1.out]
          refine HG.out.below ?_
          exact (hB2.setCell (by simp) _).setCell (by simp) _
        · exact (hB2.setCell (by simp) _).setCell (by simp) _
      · have HE1 := hide (show allocE n ls m = 0 by unfold allocE; rw [if_pos hR, if_neg (by omega)])
        rw [hR]
        have hM' : decide (m ≤ (ls.length : Int)) = false := decide_eq_false hM
        have h64' : decide (64 ≤ ls.length) = false := decide_eq_false h64
        obtain ⟨N, rfl⟩ : ∃ N : Nat, n = N := ⟨n.toNat, by omega⟩
        have hmk := Go.run_make_row' (P := Tryd.prog) 53 3 (.int .i64 0) 8 Tryd.underlying53 infoInt rfl .i64 .i64 N (by omega) (by omega)
        clear hR
        obtain ⟨i0, hi, hz0, hz1, hz2⟩ := info_parts infoRow
        go_wp2_with fail
        (with_reducible refine (rcopied_any _ _ ls _ HG2.out HF.out).mono ?_)
        rintro e w3 ⟨v', vs, rfl, hown, hb3⟩
        have hs3 := hb3.size
        obtain ⟨A', c', rfl, hc1, hc2⟩ := hown.grid.form
        unfold maxLen at hc2
        obtain ⟨w4, e4, hb4, hlt4, -, u0, u1⟩ := box1 w3 (.int .i64 N) (.slice A' ls.length c') 26
        have HE4 := hide e4
        have TB := hide (show w4.heap[w3.heap.size]? = some (.cells #[.int .i64 N, .slice A' ls.length c'] 26 (0, 0)) by rw [← e4]; exact heap_alloc_new w3 _)
        have y0 : w4.frozen? ⟨w3.heap.size, 0, none⟩ = false := by rw [← e4]; exact frozen_of_row _ _ 0 #[.int .i64 N, .slice A' ls.length c'] _ (heap_alloc_new w3 _)
        have y1 : w4.frozen? ⟨w3.heap.size, 1, none⟩ = false := by rw [← e4]; exact frozen_of_row _ _ 1 #[.int .i64 N, .slice A' ls.length c'] _ (heap_alloc_new w3 _)
        have hb34 := bcall hb3 hb4
        have hb24 : Below w.heap.size w w4 := bcall hB2 hb34
        have c0 := keepc hb34 c0
        have c1 := keepc hb34 c1
        have z0 := keepf hb34 r0 z0
        have z1 := keepf hb34 r1 z1
        have r0 := keepc hb34 r0
        have r1 := keepc hb34 r1
        have HO := hide hown
        have HT4 := hide (hown.below hb4)
        clear hown e4
        go_upto_region 6 with (fail)
        rw [HE4.out]
        have hs4 := hb4.size
        have hrow : ∀ b, (Value.slice A' ls.length c').ownBlock = some b → w2.heap.size + 3 ≤ b ∧ b < w3.heap.size := fun b hb => HO.out.top.lt b hb
        have hn1 : (Value.slice A' ls.length c').ownBlock ≠ some (w.heap.size + 1) := fun h => by have := hrow _ h; omega
        have hn2 : (Value.slice A' ls.length c').ownBlock ≠ some w3.heap.size := fun h => by have := hrow _ h; omega
        have hbb : ∀ o1 o2, Below w4.heap.size w4 ((w4.drew.alloc o1).alloc o2) := fun o1 o2 => (((Below.refl _ w4).drew).alloc (by simp) _).alloc (by simp) _
        have hvl : vs.length = ls.length := HO.out.len
        have FX := hide (show ∀ o1 o2 w6, ((w4.drew.alloc o1).alloc o2).grownBy w6 (Value.slice A' ls.length c').ownBlock →
            (w6.cell? ⟨w.heap.size + 1, 0, none⟩ = some (.int .i64 0) ∧ w6.cell? ⟨w.heap.size + 1, 1, none⟩ = some (.slice none 0 0) ∧ w6.frozen? ⟨w.heap.size + 1, 0, none⟩ = false ∧ w6.frozen? ⟨w.heap.size + 1, 1, none⟩ = false) ∧
            (w6.cell? ⟨w3.heap.size, 0, none⟩ = some (.int .i64 N) ∧ w6.cell? ⟨w3.heap.size, 1, none⟩ = some (.slice A' ls.length c') ∧ w6.frozen? ⟨w3.heap.size, 0, none⟩ = false ∧ w6.frozen? ⟨w3.heap.size, 1, none⟩ = false) from fun o1 o2 w6 hg =>
          ⟨⟨keepg hg (keepc (hbb o1 o2) r0) hn1, keepg hg (keepc (hbb o1 o2) r1) hn1, keepgf hg (keepc (hbb o1 o2) r0) (keepf (hbb o1 o2) r0 z0) hn1, keepgf hg (keepc (hbb o1 o2) r1) (keepf (hbb o1 o2) r1 z1) hn1⟩,
           ⟨keepg hg (keepc (hbb o1 o2) u0) hn2, keepg hg (keepc (hbb o1 o2) u1) hn2, keepgf hg (keepc (hbb o1 o2) u0) (keepf (hbb o1 o2) u0 y0) hn2, keepgf hg (keepc (hbb o1 o2) u1) (keepf (hbb o1 o2) u1 y1) hn2⟩⟩)
        have HTOP := hide (show w4.ownsRow w2.heap.size 53 1 (.slice A' ls.length c') ls.length vs by have := own_base HT4.out.top (Nat.le_add_right w2.heap.size 3); rwa [hvl] at this)
        have HVL := hide hvl
        have WRO := hide (show ∀ (i : Nat) (u' : Value) (b : Nat), vs[i]? = some u' → u'.ownBlock = some b → b < w3.heap.size from fun i u' b hi he => by
          have hil : i < ls.length := by rw [← hvl]; exact (List.getElem?_eq_some_iff.1 hi).1
          exact ((HO.out.rows i u' ls[i] hi (List.getElem?_eq_getElem hil)).lt b he).2)
        have MADE := hide (show ∀ o1 o2, (w4.drew.alloc (.cells (madeCells #[.int .i64 0] N) 3)).alloc o2 = o1 → o1.ownsRow w2.heap.size 3 1 (.slice (some ⟨w4.heap.size, 0, none⟩) N N) (List.replicate N (0 : Int)).length ((List.replicate N (0 : Int)).flatMap ic) from fun o1 o2 e => by
          subst e
          rw [madeZero, List.length_replicate]
          exact (own_new w4.drew w2.heap.size _ 3 1 N (by simp; omega) (by rw [ic_flen]; simp) (by unfold maxLen; omega)).alloc _)
        clear hvl
        have HROW := hide hrow
        have HBB := hide hbb
        clear hrow hn1 hn2 hbb
        have u1a : ∀ o1, (w4.alloc o1).cell? ⟨w3.heap.size, 1, none⟩ = some (.slice A' ls.length c') := fun o1 => keepc (bal _ _) u1
        have u1b : ∀ o1 o2, ((w4.alloc o1).alloc o2).cell? ⟨w3.heap.size, 1, none⟩ = some (.slice A' ls.length c') := fun o1 o2 => keepc (bal _ _) (keepc (bal _ _) u1)
        have c0a : ∀ o1, (w4.alloc o1).cell? ⟨w.heap.size, 0, none⟩ = some (.int .i64 N) := fun o1 => keepc (bal _ _) c0
        go_cut [] from 26 (fun wr => ∃ A6 c6, ls.length + 1 ≤ c6 ∧ c6 ≤ 9223372036854775807 ∧ wr.cell? ⟨w.heap.size + 1, 0, none⟩ = some (.int .i64 0) ∧ wr.cell? ⟨w.heap.size + 1, 1, none⟩ = some (.slice none 0 0) ∧ wr.frozen? ⟨w.heap.size + 1, 0, none⟩ = false ∧ wr.frozen? ⟨w.heap.size + 1, 1, none⟩ = false ∧
          wr.cell? ⟨w3.heap.size, 0, none⟩ = some (.int .i64 N) ∧ wr.cell? ⟨w3.heap.size, 1, none⟩ = some (.slice A6 (ls.length + 1) c6) ∧ Hid (OwnRows 53 3 w2.heap.size wr (.slice A6 (ls.length + 1) c6) (ls ++ [List.replicate N 0]) ∧ Below w.heap.size w wr))
        case first =>
          go_region_law (refine step_append_own_g rfl _ _ 22 rfl w2.heap.size 53 i0 (.slice none 0 0) 1 24 Tryd.underlying22 hi hz0 hz1 hz2 rfl (by decide) _ _ _ rfl ((HTOP.out.drew.alloc _).alloc _) ⟨_, 0, none⟩ 1 1 [.slice (some ⟨w4.heap.size, 0, none⟩) N N] rfl rfl (row_at _ _ _ (by simp)) (by simp [Value.oneCell']) (by simp only [maxLen]; omega) (by omega) (by simp; omega) ?_; intro v6 w6 hown6 hgrow; obtain ⟨⟨q0, q1, q2, q3⟩, ⟨q4, q5, q6, q7⟩⟩ := FX.out _ _ _ hgrow; obtain ⟨A6, c6, rfl, hc6, hm6⟩ := own_form hown6)
          all_goals
            unfold maxLen at hm6
            have HB6 := (show Below w.heap.size w w6 from hb24.trans (((HBB.out (.cells (madeCells #[.int .i64 0] N) 3) (.cells #[.slice (some ⟨w4.heap.size, 0, none⟩) N N] 53)).mono (by omega)).trans ((Below.refl _ _).grown hgrow (by simp; omega) (fun k hk => by have := HROW.out k hk; omega))))
            have HG6 := ((HT4.out.le (b := w2.heap.size) (by omega)).below (HBB.out (.cells (madeCells #[.int .i64 0] N) 3) (.cells #[.slice (some ⟨w4.heap.size, 0, none⟩) N N] 53))).snoc_set (u := .slice (some ⟨w4.heap.size, 0, none⟩) N N) (l := List.replicate N 0) (a := ⟨w3.heap.size, 1, none⟩) (x := .slice A6 (ls.length + 1) c6) (MADE.out _ _ rfl) (.inl (fun e => by have h9 := HROW.out w4.heap.size e.symm; omega)) (HVL.out ▸ hown6) hgrow
              (own_type hown6 ((hgrow.block w3.heap.size (by simp; omega) (fun e => by have := HROW.out w3.heap.size e.symm; omega)).trans (((HBB.out (.cells (madeCells #[.int .i64 0] N) 3) (.cells #[.slice (some ⟨w4.heap.size, 0, none⟩) N N] 53)).block w3.heap.size hlt4).trans TB.out)) (by decide)) (fun i u' hi e => Nat.lt_irrefl _ (WRO.out i u' _ hi e)) (fun e => by simp only [Value.ownBlock, Option.some.injEq] at e; omega)
            have HZ6 := hide (And.intro HG6 (HB6.setCell (p := ⟨w3.heap.size, 1, none⟩) (by simp; omega) (.slice A6 (ls.length + 1) c6)))
            clear hown6 hgrow HG6 HB6
            go_wp2_with fail
            go_meet
          all_goals
            exact ⟨A6, c6, by omega, by omega, by simp [go_sem, q0], by simp [go_sem, q1], by simp [go_sem, q2], by simp [go_sem, q3], by simp [go_sem, q4], by simp [go_sem, q5], HZ6⟩
        case rest =>
          obtain ⟨A6, c6, d1, d2, q0, q1, q2, q3, q4, q5, HZ6⟩ := hcut
          clear hmk u1a u1b c0a c0 c1 r0 r1 z0 z1 u0 u1 y0 y1
          go_wp2
          go_region
          all_goals
            go_wp2
            refine bodyPost_ret (v := .tuple #[hv N (.slice A6 (ls.length + 1) c6), .int .i64 ((ls.length : Int) + 1), .int .i64 0]) (by simp [results, Tryd.results11, go_sem, q0, q1]) rfl ⟨.slice A6 (ls.length + 1) c6, ?_, ?_, ?_⟩
            · unfold allocN; rw [HE1.out]; rfl
            · unfold allocF; rw [HE1.out, if_pos rfl, Int.toNat_natCast]
              exact (((HZ6.out.1.setCell_below (by simp; omega) _).setCell_below (by simp; omega) _).drew).grid
            · exact ((HZ6.out.2.setCell (by simp) _).setCell (by simp) _).drew
  · have HE1 := hide (show allocE n ls m = 1 by unfold allocE; rw [if_neg hR])
    have hR1 : rightF n ls = false := by simpa using hR
    rw [hR1]
    clear hR hR1
    go_wp2
    refine bodyPost_ret (v := .tuple #[hv n (.slice A ls.length c), .int .i64 0, .int .i64 1]) (by simp [results, Tryd.results11, go_sem, r0, r1]) rfl ⟨.slice A ls.length c, ?_, ?_, ?_⟩
    · unfold allocN; rw [HE1.out]; rfl
    · unfold allocF; rw [HE1.out]
      refine HG.out.below ?_
      exact (hB2.setCell (by simp) _).setCell (by simp) _
    · exact (hB2.setCell (by simp) _).setCell (by simp) _
end Go.Proofs.YtofobjhlpgcdaaaDoor
