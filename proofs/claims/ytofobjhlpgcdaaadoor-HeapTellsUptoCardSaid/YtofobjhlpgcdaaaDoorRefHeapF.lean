/- Layer heap: the document's own answer: copied. -/
import Derived.Test.YtofobjhlpgcdaaaDoorRefHeapE
import Derived.Deep.RegionHeld3
namespace Go.Proofs.YtofobjhlpgcdaaaDoor
open Go.RowKit

theorem box4 {w w1 : World} {n : Int} {v : Value} {t : TypeId} (hB : Below w.heap.size w w1) (hS : w1.heap.size = w.heap.size + 2)
    (k0 : w1.cell? ⟨w.heap.size, 0, none⟩ = some (.int .i64 n)) (k1 : w1.cell? ⟨w.heap.size, 1, none⟩ = some v) (k2 : w1.cell? ⟨w.heap.size + 1, 0, none⟩ = some (.int .i64 0)) (k3 : w1.cell? ⟨w.heap.size + 1, 1, none⟩ = some (.slice none 0 0)) (f2 : w1.frozen? ⟨w.heap.size + 1, 0, none⟩ = false) (f3 : w1.frozen? ⟨w.heap.size + 1, 1, none⟩ = false) :
    ∃ w2, w1.alloc (.cells #[.int .i64 n, .slice none 0 0] t) = w2 ∧ Bx w.heap.size n v (.slice none 0 0) w2 ∧ Below w.heap.size w w2 ∧ w2.heap.size = w.heap.size + 3 := by
  obtain ⟨w2, e2, hb, hlt, -, d0, d1⟩ := box1 w1 (.int .i64 n) (.slice none 0 0) t
  have hs2 : w2.heap.size = w.heap.size + 3 := by rw [← e2]; simp [hS]
  have f : ∀ j, w2.frozen? ⟨w.heap.size + 2, j, none⟩ = false := fun j => by
    rw [← e2, ← hS]
    exact frozen_of_row _ _ j #[.int .i64 n, .slice none 0 0] t (heap_alloc_new w1 _)
  rw [hS] at d0 d1
  exact ⟨w2, e2, ⟨⟨keepc hb k0, keepc hb k1⟩, ⟨keepc hb k2, keepc hb k3, keepf hb k2 f2, keepf hb k3 f3⟩, ⟨d0, d1, f 0, f 1⟩⟩, bcall hB hb, hs2⟩

set_option maxRecDepth 100000 in
set_option maxHeartbeats 4000000 in
theorem rcopied_any (n : Int) (v : Value) (ls : Rws) (w : World) (h : Grid w v ls) (hf : Fit ls) :
    Calls Tryd.prog 25 #[hv n v] w fun e w' => ∃ v' vs, e = .returned (hv n v') ∧ OwnGrid 53 3 (w.heap.size + 3) w' v' vs ls ∧ Below w.heap.size w w' := by
  have HG := hide h
  obtain ⟨A, c, rfl, h1, h2⟩ := h.form
  unfold maxLen at h2
  have HF := hide hf
  have hf1 := hf.1
  clear h hf
  obtain ⟨w1, ew, hB1, hS1, k0, k1, k2, k3, f2, f3⟩ := box3 w (.int .i64 n) (.slice A ls.length c) (.int .i64 0) (.slice none 0 0) 26
  obtain ⟨w2, ew2, hbx, hB2, hS2⟩ := box4 (t := 26) hB1 hS1 k0 k1 k2 k3 f2 f3
  have HE := hide ew
  have HE2 := hide ew2
  have HBX := hide hbx
  clear ew ew2 hbx
  go_enter Tryd.func25, Tryd.ntmps25
  go_wp2_with fail
  rw [HE.out, HE2.out]
  clear k0 k1 k2 k3 f2 f3 HE HE2
  go_loopw [4] (fun i wr => ∃ k A' c', k ≤ ls.length ∧ i = .int .i64 (k : Nat) ∧ k ≤ c' ∧ c' ≤ 9223372036854775807 ∧ Hid (Bx w.heap.size n (.slice A ls.length c) (.slice A' k c') wr) ∧ Hid (∃ vs, OwnGrid 53 3 (w.heap.size + 3) wr (.slice A' k c') vs (ls.take k)) ∧ Below w.heap.size w wr ∧ w.heap.size + 3 ≤ wr.heap.size) (fun i _ => ls.length - (Go.RowKit.intOf i).toNat)
  case atStart =>
    refine ⟨0, none, 0, Nat.zero_le _, rfl, Nat.le_refl _, by omega, HBX, hide ⟨[], ?_⟩, hB2, by omega⟩
    exact ⟨World.ownsRow_nil _ _ _ _, rfl, by simp, by simp, by simp⟩
  case round =>
    obtain ⟨k, A', c', hk, rfl, hc1, hc2, HX, HV, hb, hsz⟩ := hrel
    obtain ⟨⟨a0, a1⟩, ⟨b0, b1, b2, b3⟩, ⟨d0, d1, d2, d3⟩⟩ := HX.out
    by_cases hlt : k < ls.length
    · obtain ⟨vs, hO⟩ := HV.out
      clear HV
      obtain ⟨b, off, u, rfl, hb0, hc, hr⟩ := grid_at HG.out hlt
      have hfl := HF.out.2 ls[k] (List.getElem_mem hlt)
      obtain ⟨l, hl⟩ : ∃ l, ls[k] = l := ⟨_, rfl⟩
      rw [hl] at hr hfl
      have HL := hide hl
      have HI := hide (hr.below hb)
      have c4 := keepc hb hc
      obtain ⟨B, d, rfl, h5, h6, -⟩ := hr
      unfold maxLen at h6
      have HO := hide hO
      clear hl hO hc
      have hmem : ∀ (p : Int), ∀ u ∈ ic p, u.oneCell' = true := fun p u hu => by simp [ic] at hu; subst hu; rfl
      have HMEM := hide hmem
      obtain ⟨i0, hi, hz0, hz1, hz2⟩ := info_parts infoRow
      obtain ⟨j0, hj, jz0, jz1, jz2⟩ := info_parts infoInt
      have hvl := HO.out.len
      rw [List.length_take, Nat.min_eq_left hk] at hvl
      have KX := hide (show ∀ W row, wr.grownBy W row → (∀ b, row = some b → w.heap.size + 3 ≤ b) → Bx w.heap.size n (.slice (some ⟨b, off, none⟩) ls.length c) (.slice A' k c') W ∧ W.cell? ⟨b, off + k, none⟩ = some (.slice B l.length d) from fun W row hg hr => ⟨HX.out.grown hg hr, keepg hg c4 (fun e => by have h9 : w.heap.size + 3 ≤ b := hr _ e; omega)⟩)
      have HTOP := hide (show wr.ownsRow (w.heap.size + 3) 53 1 (.slice A' k c') k vs by have := HO.out.top; rwa [hvl] at this)
      have HVL := hide hvl
      have HDR := hide (show Below wr.heap.size wr wr.drew from (Below.refl _ _).drew)
      have VB := hide (show ∀ b, (Value.slice A' k c').ownBlock = some b → w.heap.size + 3 ≤ b ∧ b < wr.heap.size from fun b hb => HO.out.top.lt b hb)
      clear hvl hmem HX
      go_wp2_with fail
      go_region_law
        (first
          | (refine step_append_own_g (by rfl) _ _ 22 (by rfl) (w.heap.size + 3) 53 i0 (.slice none 0 0) 1 24 Tryd.underlying22 hi hz0 hz1 hz2 rfl (by decide) _ k vs (by rfl) ((own_below HTOP.out hb6.out).alloc _) ⟨_, 0, none⟩ 1 1 [.slice A6 l.length c6] (by rfl) rfl (row_at _ _ _ (by simp)) (by simp [Value.oneCell']) (by simp only [maxLen]; omega) (by omega) (by simp; omega) ?_; intro v7 w7 hown7 hgrow7; obtain ⟨A7, c7, rfl, hc7, hm7⟩ := own_form hown7; obtain ⟨g1, g2⟩ := KX.out w7 _ (((grown_of_below hb6.out _).trans (grown_of_below (bal _ _) _)).trans hgrow7) (fun b e => (VB.out b e).1); obtain ⟨⟨p0, p1⟩, ⟨p2, p3, p4, p5⟩, ⟨p6, p7, p8, p9⟩⟩ := g1)
          | (refine step_append_sl (enc := ic) (by rfl) _ _ 53 (by rfl) wr.heap.size 3 j0 (.int .i64 0) 1 8 Tryd.underlying53 hj jz0 jz1 jz2 rfl (by decide) _ 0 [] (by rfl) (World.ownsRow_nil _ _ _ _) _ l (by rfl) (HI.out.below HDR.out) ic_len HMEM.out (by simp only [maxLen]; omega) (by omega) (by simp) ?_; intro v6 w6 hown6 hg6; rw [Nat.zero_add, List.nil_append] at hown6; have hb6 := hide (HDR.out.grown hg6 (Nat.le_refl _) (fun k e => by simp [Value.ownBlock] at e)); have hs6 := hb6.out.size; obtain ⟨A6, c6, rfl, hc6, hm6⟩ := own_form hown6; obtain ⟨e1, e2⟩ := KX.out _ none (grown_of_below hb6.out none) (by simp); have e3 := e1.2.2.2.1; have e4 := e1.1.2; have e5 : ∀ o, (w6.alloc o).cell? ⟨w.heap.size + 2, 1, none⟩ = some (.slice A' k c') := fun o => keepc (bal _ _) e3))
      all_goals
        have hs7 := hgrow7.size
        have hG := OwnGrid.snoc (H := wr.heap.size) (l := l) ((HO.out.below hb6.out).alloc _) (by decide) hsz (fun i u' g hi hg => by
          have hil : i < (ls.take k).length := by rw [← HO.out.len]; exact (List.getElem?_eq_some_iff.1 hi).1
          exact ((HO.out.rows i u' _ hi (List.getElem?_eq_getElem hil)).lt g hg).2) (hown6.alloc _) (by rw [HVL.out]; exact hown7) hgrow7
        rw [show ls.take k ++ [l] = ls.take (k + 1) by rw [List.take_succ_eq_append_getElem hlt, HL.out]] at hG
        have hB7 := (((hb.trans (hb6.out.mono (by omega))).alloc (by omega) _).grown hgrow7 (by simp; omega) (fun b e => by have := (VB.out b e).1; omega))
        have HG7 := hide (hG.setCell_below (a := ⟨w.heap.size + 1 + 1, 1, none⟩) (by show w.heap.size + 1 + 1 < w.heap.size + 3; omega) (.slice A7 (k + 1) c7))
        have HB7 := hide (hB7.setCell (p := ⟨w.heap.size + 1 + 1, 1, none⟩) (by show w.heap.size ≤ w.heap.size + 1 + 1; omega) (.slice A7 (k + 1) c7))
        have HS7 := hide (show w.heap.size + 3 ≤ (w7.setCell ⟨w.heap.size + 1 + 1, 1, none⟩ (.slice A7 (k + 1) c7)).heap.size by simp at hs7 ⊢; omega)
        have HX7 := hide (show Bx w.heap.size n (.slice (some ⟨b, off, none⟩) ls.length c) (.slice A7 (k + 1) c7) (w7.setCell ⟨w.heap.size + 1 + 1, 1, none⟩ (.slice A7 (k + 1) c7)) from
          ⟨⟨by simp [go_sem, p0], by simp [go_sem, p1]⟩, ⟨by simp [go_sem, p2], by simp [go_sem, p3], by simp [go_sem, p4], by simp [go_sem, p5]⟩, ⟨by simp [go_sem, p6], by simp [go_sem, p7], by simp [go_sem, p8], by simp [go_sem, p9]⟩⟩)
        unfold maxLen at hm7
        go_wp2
        go_roundw
        case rel => exact ⟨k + 1, A7, c7, by omega, by go_num, by omega, by omega, HX7, hide ⟨_, HG7.out⟩, HB7.out, HS7.out⟩
        case measure => simp [Go.RowKit.intOf]; omega
    · have hkk : k = ls.length := by omega
      subst hkk
      obtain ⟨vs, hO⟩ := HV.out
      rw [List.take_length] at hO
      have HO := hide hO
      clear HV hO
      go_wp2
      refine bodyPost_ret (v := hv n (.slice A' ls.length c')) (by simp [results, Tryd.results25, go_sem, b0, b1]) rfl ⟨.slice A' ls.length c', vs, rfl, ?_, ?_⟩
      · exact (HO.out.setCell_below (by simp) _).setCell_below (by simp) _
      · exact (hb.setCell (by simp) _).setCell (by simp) _
end Go.Proofs.YtofobjhlpgcdaaaDoor
