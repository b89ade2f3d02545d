/- Layer chain: the law's world at the start: the call. -/
import Derived.Test.YtpffknlbffnafaaChainStart
namespace Go.Proofs.Ytpffknlbffnafaa.ch
open Go.RowKit

def StartEnd (w : World) (e : Ending) (w' : World) : Prop :=
  ∃ A c g gh ct cg, e = .returned (.agg #[.slice A 10 c, .slice (some ⟨g, 0, none⟩) 5 ct, .slice (some ⟨gh, 0, none⟩) 5 cg, .int .i64 0]) ∧
    (10 ≤ c ∧ c ≤ 9223372036854775807) ∧ (5 ≤ ct ∧ ct ≤ 9223372036854775807) ∧ (5 ≤ cg ∧ cg ≤ 9223372036854775807) ∧ Cells w' (.slice A 10 c) startCw.m ∧ w'.ownsRow 0 26 8 (.slice (some ⟨g, 0, none⟩) 5 ct) 5 (startCw.who.flatMap mc) ∧ w'.ownsRow 0 3 1 (.slice (some ⟨gh, 0, none⟩) 5 cg) 5 (startCw.has.flatMap nc) ∧
    Below w.heap.size w w' ∧ (∀ y, (Value.slice A 10 c).ownBlock = some y → y ≠ g ∧ y ≠ gh) ∧ g ≠ gh ∧ w.heap.size ≤ g ∧ w.heap.size ≤ gh
theorem start_fin {w wr : World} {S b c g gh ct cg : Nat} {A : Option Addr} (hA : StAt w S b 5 5 startCw.m (.slice A 10 c) (.slice (some ⟨g, 0, none⟩) 5 ct) (.slice (some ⟨gh, 0, none⟩) 5 cg) wr) (hc : 10 ≤ c ∧ c ≤ 9223372036854775807) :
    StartEnd w (.returned (.agg #[.slice A 10 c, .slice (some ⟨g, 0, none⟩) 5 ct, .slice (some ⟨gh, 0, none⟩) 5 cg, .int .i64 0]))
      ((((wr.setCell ⟨w.heap.size, 0, none⟩ (.slice A 10 c)).setCell ⟨w.heap.size, 1, none⟩ (.slice (some ⟨g, 0, none⟩) 5 ct)).setCell ⟨w.heap.size, 2, none⟩ (.slice (some ⟨gh, 0, none⟩) 5 cg)).setCell ⟨w.heap.size, 3, none⟩ (.int .i64 0)) := by
  obtain ⟨A_, c_, e_, hT1, hT2⟩ := own_form hA.thr
  injection e_ with e1_ e2_ e3_
  subst e3_
  obtain ⟨A_', c_', e_', hH1, hH2⟩ := own_form hA.has
  injection e_' with e1_' e2_' e3_'
  subst e3_'
  unfold maxLen at hT2 hH2
  have hg := (hA.thr.lt g rfl).1
  have hgh := (hA.has.lt gh rfl).1
  have hlt := hA.lt
  have hsb := hA.sb
  have far : ∀ y, y ≠ w.heap.size → ((((wr.setCell ⟨w.heap.size, 0, none⟩ (.slice A 10 c)).setCell ⟨w.heap.size, 1, none⟩ (.slice (some ⟨g, 0, none⟩) 5 ct)).setCell ⟨w.heap.size, 2, none⟩ (.slice (some ⟨gh, 0, none⟩) 5 cg)).setCell ⟨w.heap.size, 3, none⟩ (.int .i64 0)).heap[y]? = wr.heap[y]? := by
    intro y hy
    have h' : ¬ w.heap.size = y := fun e => hy e.symm
    simp only [World.setCell, Array.getElem?_modify]
    simp [h']
  refine ⟨A, c, g, gh, ct, cg, rfl, hc, ⟨hT1, by omega⟩, ⟨hH1, by omega⟩, ?_, ?_, ?_, ?_, ?_, own_apart hA.thr hA.has (by decide) rfl rfl, by omega, by omega⟩
  · exact cells_block hA.mem (by simp [World.setCell]) fun _ y hy _ => far y (hA.neM y hy).2.1
  · exact own_block (own_base hA.thr (Nat.zero_le _)) fun y hy => far y (by simp only [Value.ownBlock, Option.some.injEq] at hy; omega)
  · exact own_block (own_base hA.has (Nat.zero_le _)) fun y hy => far y (by simp only [Value.ownBlock, Option.some.injEq] at hy; omega)
  · exact ((((hA.below.setCell (p := ⟨w.heap.size, 0, none⟩) (Nat.le_refl _) _).setCell (p := ⟨w.heap.size, 1, none⟩) (Nat.le_refl _) _).setCell (p := ⟨w.heap.size, 2, none⟩) (Nat.le_refl _) _).setCell (p := ⟨w.heap.size, 3, none⟩) (Nat.le_refl _) _)
  · intro y hy
    have := (hA.neM y hy).2.2
    omega
set_option maxRecDepth 100000 in
set_option maxHeartbeats 8000000 in
theorem start_any (w : World) : Calls Try.prog 21 #[] w (StartEnd w) := by
  obtain ⟨i0, hi, hz0, hz1, hz2⟩ := info_parts infoMach
  obtain ⟨iI, hiI, hzI0, hzI1, hzI2⟩ := info_parts infoI
  have mk10 := run_zero 10 10 rfl (by decide)
  obtain ⟨w1, e1, hb1, hR1, hs1⟩ : ∃ w1, w.alloc (.cells #[.slice none 0 0, .slice none 0 0, .slice none 0 0, .int .i64 0] 49) = w1 ∧ Below w.heap.size w w1 ∧ w1.heap[w.heap.size]? = some (.cells zeros4 49) ∧ w1.heap.size = w.heap.size + 1 := ⟨_, rfl, bal _ _, heap_alloc_new w _, by simp⟩
  obtain ⟨w2, e2, hb2, Z0, hs2⟩ : ∃ w2, w1.alloc (zc 10) = w2 ∧ Below w1.heap.size w1 w2 ∧ Cells w2 (.slice (some ⟨w.heap.size + 1, 0, none⟩) 10 10) (List.replicate 10 0) ∧ w2.heap.size = w1.heap.size + 1 := ⟨_, rfl, bal _ _, by rw [← hs1]; exact zc_cells _ _ (by decide), by simp⟩
  obtain ⟨w3, e3, hb3, hS3, hs3⟩ : ∃ w3, w2.alloc (.cells #[.slice (some ⟨w.heap.size + 1, 0, none⟩) 10 10, .slice none 0 0, .slice none 0 0, .int .i64 0] 49) = w3 ∧ Below w2.heap.size w2 w3 ∧ w3.heap[w2.heap.size]? = some (.cells (wcs (.slice (some ⟨w.heap.size + 1, 0, none⟩) 10 10) (.slice none 0 0) (.slice none 0 0) 0) 49) ∧ w3.heap.size = w2.heap.size + 1 := ⟨_, rfl, bal _ _, heap_alloc_new w2 _, by simp⟩
  have HE1 := hide e1
  have HE2 := hide e2
  have HE3 := hide e3
  have HZ := hide Z0
  have HS1 := hide hs1
  have HS2 := hide hs2
  have HS3 := hide hs3
  have HB3 := hide (bcall (bcall hb1 hb2) hb3)
  clear e1 e2 e3 hs1 hs2 hs3
  go_enter Try.func21, Try.ntmps21
  go_upto_region 2 with (fail)
  rw [HE1.out, HE2.out, HE3.out]
  have hR3 : w3.heap[w.heap.size]? = some (.cells zeros4 49) := ((hb3.block _ (by have := HS1.out; have := HS2.out; omega)).trans (hb2.block _ (by have := HS1.out; omega))).trans hR1
  rw [HS2.out, HS1.out] at hS3
  have y0 : w3.cell? ⟨w.heap.size + 1 + 1, 0, none⟩ = some (.slice (some ⟨w.heap.size + 1, 0, none⟩) 10 10) := Joins.cell_of_block hS3 0
  obtain ⟨w4, e4, hb4, I0⟩ : ∃ w4, w3.alloc (.cells #[.int .i64 1, .int .i64 2, .int .i64 3, .int .i64 4, .int .i64 5, .int .i64 6, .int .i64 7, .int .i64 8] 3) = w4 ∧ Below w3.heap.size w3 w4 ∧ Ints w4 (.slice (some ⟨w3.heap.size, 0, none⟩) 8 8) [1, 2, 3, 4, 5, 6, 7, 8] := lit_ints [1, 2, 3, 4, 5, 6, 7, 8] 8 rfl (by decide)
  have HE4 := hide e4
  have HI := hide I0
  have HZ4 := hide ((HZ.out.below hb3).below hb4)
  clear e4 I0
  go_wp2_with fail
  rw [HE4.out]
  (with_reducible refine (lay_new _ _ (List.replicate 10 0) [1, 2, 3, 4, 5, 6, 7, 8] 0 1 _ HZ4.out HI.out (by decide) (by decide) [1, 0, 2, 3, 4, 5, 6, 7, 8, 0] (by kernel_rfl) 10 rfl).mono ?_)
  rintro e w5 ⟨A1, c1, rfl, ⟨p1, q1⟩, G1, hb5, hn5⟩
  have hs4 := hb4.size
  have hs5 := hb5.size
  have hlt3 : w.heap.size + 1 + 1 < w3.heap.size := by have := HS1.out; have := HS2.out; have := HS3.out; omega
  have hS5 := (hb5.block _ (by omega)).trans ((hb4.block _ hlt3).trans hS3)
  have hR5 := (hb5.block _ (by omega)).trans ((hb4.block _ (by omega)).trans hR3)
  have hbw5 := bcall (bcall HB3.out hb4) hb5
  obtain ⟨w6, e6⟩ : ∃ w6, w5.setCell ⟨w.heap.size + 1 + 1, 0, none⟩ (.slice A1 10 c1) = w6 := ⟨_, rfl⟩
  have hS6 : w6.heap[w.heap.size + 1 + 1]? = some (.cells (wcs (.slice A1 10 c1) (.slice none 0 0) (.slice none 0 0) 0) 49) := by rw [← e6, Joins.block_setCell hS5]; rfl
  have hR6 : w6.heap[w.heap.size]? = some (.cells zeros4 49) := by rw [← e6, Below.heap_setCell w5 ⟨w.heap.size + 1 + 1, 0, none⟩ _ _ (by simp only; omega)]; exact hR5
  have G6 := hide (show Cells w6 (.slice A1 10 c1) [1, 0, 2, 3, 4, 5, 6, 7, 8, 0] by rw [← e6]; exact cells_far G1 0 _ (fun y hy => by have := hn5 y hy; omega))
  have hb6 : Below w.heap.size w w6 := by rw [← e6]; exact hbw5.setCell (p := ⟨w.heap.size + 1 + 1, 0, none⟩) (by simp only; omega) _
  have hs6 : w6.heap.size = w5.heap.size := by rw [← e6]; simp [World.setCell]
  have f0 : w5.frozen? ⟨w.heap.size + 1 + 1, 0, none⟩ = false := Joins.unfrozen_of_block hS5 0
  have g0 : w5.cell? ⟨w.heap.size + 1 + 1, 0, none⟩ = some (.slice (some ⟨w.heap.size + 1, 0, none⟩) 10 10) := Joins.cell_of_block hS5 0
  have HE6 := hide e6
  have HS6 := hide hS6
  have HR6 := hide hR6
  have HB6 := hide hb6
  have hlt6 : w.heap.size + 1 + 1 < w6.heap.size := by omega
  clear y0 e6 hS3 hR3 hS5 hR5 hbw5 hb4 hb5 hn5 G1 hb6 hs5 hs4 hs6 hR1 hb1 hb2 hb3 hR6 hS6 Z0
  go_upto_region 3 with (fail)
  rw [HE6.out]
  clear f0 g0
  have y0 : w6.cell? ⟨w.heap.size + 1 + 1, 0, none⟩ = some (.slice A1 10 c1) := Joins.cell_of_block HS6.out 0
  go_wp2_with fail
  (with_reducible refine (lay_new _ _ [1, 0, 2, 3, 4, 5, 6, 7, 8, 0] [] 1 1 _ G6.out Sl.nil_ (by decide) (by decide) [1, 0, 2, 3, 4, 5, 6, 7, 8, 0] (by kernel_rfl) 10 rfl).mono ?_)
  rintro e w7 ⟨A2, c2, rfl, ⟨p2, q2⟩, G2, hb7, hn7⟩
  have hS7 := (hb7.block _ hlt6).trans HS6.out
  have hR7 := (hb7.block _ (by omega)).trans HR6.out
  have hbw7 := bcall HB6.out hb7
  have hs7 := hb7.size
  obtain ⟨w8, e8⟩ : ∃ w8, w7.setCell ⟨w.heap.size + 1 + 1, 0, none⟩ (.slice A2 10 c2) = w8 := ⟨_, rfl⟩
  have hs8 : w8.heap.size = w7.heap.size := by rw [← e8]; simp [World.setCell]
  have hG8 : Cells w8 (.slice A2 10 c2) startCw.m := by rw [← e8]; exact cells_far G2 0 _ (fun y hy => by have := hn7 y hy; omega)
  have HST := hide (show StAt w (w.heap.size + 1 + 1) w8.heap.size 0 0 startCw.m (.slice A2 10 c2) (.slice none 0 0) (.slice none 0 0) w8 from
    ⟨by rw [← e8, Joins.block_setCell hS7]; rfl, World.ownsRow_nil _ _ _ _, World.ownsRow_nil _ _ _ _, by rw [← e8, Below.heap_setCell w7 ⟨w.heap.size + 1 + 1, 0, none⟩ _ _ (by simp only; omega)]; exact hR7, hG8,
      by rw [← e8]; exact hbw7.setCell (p := ⟨w.heap.size + 1 + 1, 0, none⟩) (by simp only; omega) _, by omega, by omega, Nat.le_refl _, fun y hy => by
        have h1 := hn7 y hy
        obtain ⟨b0, o0, e0, hl0, -⟩ := cells_at hG8 (k := 0) (by decide)
        have h2 := hy
        rw [e0] at h2
        simp only [Value.ownBlock, Option.some.injEq] at h2
        omega⟩)
  have f0 : w7.frozen? ⟨w.heap.size + 1 + 1, 0, none⟩ = false := Joins.unfrozen_of_block hS7 0
  have g0 : w7.cell? ⟨w.heap.size + 1 + 1, 0, none⟩ = some (.slice A1 10 c1) := Joins.cell_of_block hS7 0
  have HE8 := hide e8
  clear y0 e8 hS7 hR7 hbw7 hb7 hn7 G2 hs7 hs8 hG8
  go_upto_region 4 with (fail)
  rw [HE8.out]
  clear f0 g0
  go_wp2
  go_loopw [2] (fun iv wr => ∃ (k : Nat) (vT vH : Value), k ≤ 5 ∧ iv = .int .i64 k ∧ Hid (StAt w (w.heap.size + 1 + 1) w8.heap.size k k startCw.m (.slice A2 10 c2) vT vH wr)) (fun iv _ => 5 - (Go.RowKit.intOf iv).toNat)
  case atStart => exact ⟨0, _, _, by omega, rfl, HST⟩
  case round =>
    obtain ⟨k, vT, vH, hk, rfl, HA⟩ := hrel
    obtain ⟨AT, cT, rfl, hT1, hT2⟩ := own_form HA.out.thr
    obtain ⟨AH, cH, rfl, hH1, hH2⟩ := own_form HA.out.has
    unfold maxLen at hT2 hH2
    have hsb := HA.out.sb
    have hbs := HA.out.bs
    by_cases hlt : k < 5
    · have hlti : (k : Int) < 5 := by omega
      have y1 : wr.cell? ⟨w.heap.size + 1 + 1, 1, none⟩ = some (.slice AT k cT) := HA.out.cell 1
      go_wp2_with (at_builtin; refine wpList_append_own _ rfl _ _ 47 rfl w8.heap.size 26 i0 (.agg #[.int .i64 0, .int .i64 0, .int .i64 0, .int .i64 0, .int .u64 0, .int .i64 0, .int .i64 0, .int .i64 0]) 8 64 Try.underlying47 hi hz0 hz1 hz2 rfl (by decide) _ _ _ rfl (HA.out.thr.alloc _) ⟨_, 0, none⟩ 1 1 [.int .i64 0, .int .i64 0, .int .i64 0, .int .i64 0, .int .u64 0, .int .i64 0, .int .i64 0, .int .i64 1] rfl rfl (row_at _ _ _ (by simp)) (by simp [Value.oneCell']) (by simp only [maxLen]; omega) (by omega) (by simp; omega) ?_)
      intro v6 w6' hown6 hgrow6 _
      obtain ⟨A6, c6, rfl, -, -⟩ := own_form hown6
      have HN := hide (HA.out.nextT hown6 hgrow6)
      have hSb := (hgrow6.block (w.heap.size + 1 + 1) (HA.out.keep (bal _ _)).ltS (fun e => by have := own_ge HA.out.thr _ e.symm; omega)).trans (HA.out.keep (bal _ _)).blk
      have f1 : w6'.frozen? ⟨w.heap.size + 1 + 1, 1, none⟩ = false := Joins.unfrozen_of_block hSb 1
      have g1 : w6'.cell? ⟨w.heap.size + 1 + 1, 1, none⟩ = some (.slice AT k cT) := Joins.cell_of_block hSb 1
      obtain ⟨w9, e9⟩ : ∃ w9, w6'.setCell ⟨w.heap.size + 1 + 1, 1, none⟩ (.slice A6 (k + 1) c6) = w9 := ⟨_, rfl⟩
      rw [e9] at HN
      have HE9 := hide e9
      have hbs9 := HN.out.bs
      clear e9 hSb hown6 hgrow6
      go_upto_region 8 with (fail)
      rw [HE9.out]
      clear f1 g1 y1
      have y2 : w9.cell? ⟨w.heap.size + 1 + 1, 2, none⟩ = some (.slice AH k cH) := HN.out.cell 2
      go_wp2_with (at_builtin; refine wpList_append_own _ rfl _ _ 27 rfl w8.heap.size 3 iI (.int .i64 0) 1 8 Try.underlying27 hiI hzI0 hzI1 hzI2 rfl (by decide) _ _ _ rfl (HN.out.has.alloc _) ⟨_, 0, none⟩ 1 1 [.int .i64 0] rfl rfl (row_at _ _ _ (by simp)) (by simp [Value.oneCell']) (by simp only [maxLen]; omega) (by omega) (by simp; omega) ?_)
      intro v7 w7' hown7 hgrow7 _
      obtain ⟨A7, c7, rfl, -, -⟩ := own_form hown7
      have HN2 := hide (HN.out.nextH hown7 hgrow7)
      have hSb := (hgrow7.block (w.heap.size + 1 + 1) (HN.out.keep (bal _ _)).ltS (fun e => by have := own_ge HN.out.has _ e.symm; omega)).trans (HN.out.keep (bal _ _)).blk
      have f2 : w7'.frozen? ⟨w.heap.size + 1 + 1, 2, none⟩ = false := Joins.unfrozen_of_block hSb 2
      have g2 : w7'.cell? ⟨w.heap.size + 1 + 1, 2, none⟩ = some (.slice AH k cH) := Joins.cell_of_block hSb 2
      clear hSb hown7 hgrow7 y2
      go_wp2
      go_roundw
      case rel => exact ⟨k + 1, _, _, by omega, by go_num, HN2⟩
      case measure => simp [Go.RowKit.intOf]; omega
    · obtain rfl : k = 5 := by omega
      obtain ⟨g, rfl⟩ : ∃ g, AT = some ⟨g, 0, none⟩ := by
        rcases HA.out.thr.2 with ⟨h, h0⟩ | ⟨g, cap', cur, h, _⟩
        · omega
        · injection h with h; exact ⟨g, h⟩
      obtain ⟨gh, rfl⟩ : ∃ gh, AH = some ⟨gh, 0, none⟩ := by
        rcases HA.out.has.2 with ⟨h, h0⟩ | ⟨g, cap', cur, h, _⟩
        · omega
        · injection h with h; exact ⟨g, h⟩
      have y0 : wr.cell? ⟨w.heap.size + 1 + 1, 0, none⟩ = some (.slice A2 10 c2) := HA.out.cell 0
      have y1 : wr.cell? ⟨w.heap.size + 1 + 1, 1, none⟩ = some (.slice (some ⟨g, 0, none⟩) 5 cT) := HA.out.cell 1
      have y2 : wr.cell? ⟨w.heap.size + 1 + 1, 2, none⟩ = some (.slice (some ⟨gh, 0, none⟩) 5 cH) := HA.out.cell 2
      have y3 : wr.cell? ⟨w.heap.size + 1 + 1, 3, none⟩ = some (.int .i64 0) := HA.out.cell 3
      have r0 := HA.out.rcell 0
      have f0 := HA.out.runf 0
      have r1 := HA.out.rcell 1
      have f1 := HA.out.runf 1
      have r2 := HA.out.rcell 2
      have f2 := HA.out.runf 2
      have r3 := HA.out.rcell 3
      have f3 := HA.out.runf 3
      simp only [zeros4] at r0 r1 r2 r3
      have hltS : w.heap.size ≠ w.heap.size + 1 + 1 := by omega
      have HF := hide (start_fin HA.out ⟨p2, q2⟩)
      go_wp2
      refine bodyPost_ret (v := .agg #[.slice A2 10 c2, .slice (some ⟨g, 0, none⟩) 5 cT, .slice (some ⟨gh, 0, none⟩) 5 cH, .int .i64 0]) (by simp [results, Try.results21, go_sem, r0, r1, r2, r3]) rfl ?_
      exact HF.out
end Go.Proofs.Ytpffknlbffnafaa.ch
