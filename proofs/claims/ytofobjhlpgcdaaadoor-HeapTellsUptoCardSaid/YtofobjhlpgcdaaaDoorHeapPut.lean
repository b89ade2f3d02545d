/- Layer heap: Put. -/
import Derived.Test.YtofobjhlpgcdaaaDoorHeapCopy
namespace Go.Proofs.YtofobjhlpgcdaaaDoor
open Go.RowKit

theorem keepc {a b : World} {p : Addr} {v : Value} (hb : Below a.heap.size a b) (h : a.cell? p = some v) : b.cell? p = some v := by
  rw [hb.cell (World.block_lt_of_cell? _ _ h)]; exact h
theorem keepf {a b : World} {p : Addr} {v : Value} (hb : Below a.heap.size a b) (h : a.cell? p = some v) (hf : a.frozen? p = false) : b.frozen? p = false := by
  rw [hb.frozen (World.block_lt_of_cell? _ _ h)]; exact hf
theorem putOk_slot {ls : Rws} {o s x : Int} (h : hasS ls o s = false) : putOk ls o s x = false ∧ putF ls o s x = ls := by
  have : putOk ls o s x = false := by unfold putOk; rw [h]; rfl
  exact ⟨this, by unfold putF; rw [this]; rfl⟩
theorem putOk_may {ls : Rws} {o s x : Int} (h : mayF ls x = false) : putOk ls o s x = false ∧ putF ls o s x = ls := by
  have : putOk ls o s x = false := by unfold putOk; rw [h]; simp
  exact ⟨this, by unfold putF; rw [this]; rfl⟩
theorem putOk_both {ls : Rws} {o s x : Int} (h : hasS ls o s = true) (h2 : mayF ls x = true) : putOk ls o s x = true ∧ putF ls o s x = setF ls o s x := by
  have : putOk ls o s x = true := by unfold putOk; rw [h, h2]; rfl
  exact ⟨this, by unfold putF; rw [this]; rfl⟩

set_option maxHeartbeats 2000000 in
theorem Put_any (n : Int) (v : Value) (ls : Rws) (o s x : Int) (w : World) (h : Grid w v ls) (hf : Fit ls) :
    Calls Tryd.prog 8 #[hv n v, .int .i64 o, .int .i64 s, .int .i64 x] w fun e w' => ∃ v', e = .returned (.tuple #[hv n v', .bool (putOk ls o s x)]) ∧ OwnRows 53 3 w.heap.size w' v' (putF ls o s x) ∧ Below w.heap.size w w' := by
  have HG := hide h
  obtain ⟨A, c, rfl, h1, h2⟩ := h.form
  unfold maxLen at h2
  have HF := hide hf
  clear h hf
  obtain ⟨w1, ew, hB1, hS1, k0, k1, k2, k3, f2, f3⟩ := box3 w (.int .i64 n) (.slice A ls.length c) (.int .i64 0) (.slice none 0 0) 24
  have HE := hide ew
  have HG1 := hide (HG.out.below hB1)
  have hlt0 : w.heap.size < w1.heap.size := by omega
  have hlt1 : w.heap.size + 1 < w1.heap.size := by omega
  clear ew
  go_enter Tryd.func8, Tryd.ntmps8
  go_wp2_with fail
  rw [HE.out]
  (with_reducible refine (copied_any _ _ ls _ HG1.out HF.out).mono ?_)
  rintro e w2 ⟨v', vs, rfl, hown, hb2⟩
  have hs2 := hb2.size
  obtain ⟨A', c', rfl, hc1, hc2⟩ := hown.grid.form
  unfold maxLen at hc2
  obtain ⟨w3, e3, hb3, hlt3, -, t0, t1⟩ := box1 w2 (.int .i64 n) (.slice A' ls.length c') 24
  have HE3 := hide e3
  have hT := hown.below hb3
  have g3 : ∀ j, w3.frozen? ⟨w2.heap.size, j, none⟩ = false := fun j => by rw [← e3]; exact frozen_of_row _ _ j #[.int .i64 n, .slice A' ls.length c'] _ (heap_alloc_new w2 _)
  have c0 : ∀ o', (w2.alloc o').cell? ⟨w.heap.size, 0, none⟩ = some (.int .i64 n) := fun o' => keepc (bal _ _) (keepc hb2 k0)
  have c1 : ∀ o', (w2.alloc o').cell? ⟨w.heap.size, 1, none⟩ = some (.slice A ls.length c) := fun o' => keepc (bal _ _) (keepc hb2 k1)
  have hb13 := bcall hb2 hb3
  clear e3
  go_wp2_with fail
  rw [HE3.out]
  clear c0 c1 HE3 HE
  have HT := hide hT
  have HO := hide hown
  clear hT hown
  (with_reducible refine (hasSlot_any _ _ ls _ _ _ (HG1.out.below hb13)).mono ?_)
  rintro e w4 ⟨rfl, hb4⟩
  have hb14 := btr hb13 hb4 (by have := hb13.size; omega)
  have c0 := keepc hb14 k0
  have c1 := keepc hb14 k1
  have r0 := keepc hb14 k2
  have r1 := keepc hb14 k3
  have z0 := keepf hb14 k2 f2
  have z1 := keepf hb14 k3 f3
  have u0 := keepc hb4 t0
  have u1 := keepc hb4 t1
  have hw4 : w.heap.size + 1 ≠ w2.heap.size := by omega
  by_cases hO : hasS ls o s = true
  · rw [hO]
    by_cases hM : mayF ls x = true
    · have HP := hide (putOk_both hO hM)
      obtain ⟨a1, a2, a3, a4⟩ := hasS_iff.1 hO
      obtain ⟨k, rfl⟩ : ∃ k : Nat, o = (k : Int) + 1 := ⟨(o - 1).toNat, by omega⟩
      obtain ⟨j, rfl⟩ : ∃ j : Nat, s = (j : Int) := ⟨s.toNat, by omega⟩
      have hkl : k < ls.length := by omega
      have hrow : rowF ls ((k : Int) + 1) = ls[k] := by rw [rowF_mem ⟨a1, a2⟩]; congr 1; omega
      have hset : setF ls ((k : Int) + 1) j x = ls.set k (ls[k].set j x) := by unfold setF; rw [hrow, show ((k : Int) + 1 - 1).toNat = k by omega, Int.toNat_natCast]
      rw [hrow] at a4
      have hjl : j < ls[k].length := by omega
      obtain ⟨B, nn, cc, g, cap, ev, rfl, d0, dv, hg0, hg1, hB0, hB1', hne⟩ := HO.out.row hkl (by omega)
      injection ev with ev1 ev2 ev3
      subst ev1 ev3
      clear ev2
      have e0 := (HO.out.rows k _ _ dv (List.getElem?_eq_getElem hkl)).cells (g := g) rfl j (.int .i64 ls[k][j]) (by rw [← ic_map]; simp [hjl])
      rw [add_none, Nat.zero_add] at e0
      have fr0 : w2.frozen? ⟨g, j, none⟩ = false := by
        rcases (HO.out.rows k _ _ dv (List.getElem?_eq_getElem hkl)).2 with ⟨h, _⟩ | ⟨g', cap', cur, h, hg, hh, _⟩
        · cases h
        · injection h with h0; injection h0 with h0; injection h0 with h0; subst h0
          exact frozen_of_row _ _ j cur _ hh
      have hcapl : ls[k].length ≤ cap ∧ cap ≤ 9223372036854775807 := by
        obtain ⟨a, b, h, h1, h2⟩ := own_form (HO.out.rows k _ _ dv (List.getElem?_eq_getElem hkl))
        injection h with _ _ h3; subst h3; unfold maxLen at h2; omega
      obtain ⟨hcap1, hcap2⟩ := hcapl
      have HSET := hide hset
      have hLk : ls[k]? = some ls[k] := List.getElem?_eq_getElem hkl
      have HLk := hide hLk
      clear hset hrow hLk
      generalize ls[k][j] = old at *
      obtain ⟨l, hl⟩ : ∃ l, ls[k] = l := ⟨_, rfl⟩
      rw [hl] at d0 dv hcap1 hjl HSET HLk
      clear hl
      obtain ⟨m, hm⟩ : ∃ m, l.length = m := ⟨_, rfl⟩
      have HM := hide hm
      rw [hm] at d0 hcap1 hjl
      have HV := hide dv
      clear dv hm hO a1 a2 a3 a4
      go_wp2_with fail
      (with_reducible refine (mayHold_any _ _ ls _ _ (HG1.out.below hb14)).mono ?_)
      rintro e w5 ⟨rfl, hb5⟩
      rw [hM]
      clear hM
      have hb35 := bcall hb4 hb5
      have hb15 := btr hb14 hb5 (by have := hb14.size; omega)
      have hb25 := bcall hb3 hb35
      clear c0 c1 r0 r1 z0 z1 u0 u1
      have c0 := keepc hb15 k0
      have c1 := keepc hb15 k1
      have r0 := keepc hb15 k2
      have r1 := keepc hb15 k3
      have z0 := keepf hb15 k2 f2
      have z1 := keepf hb15 k3 f3
      have u0 := keepc hb35 t0
      have u1 := keepc hb35 t1
      have x0 := keepc hb25 d0
      have x1 := keepc hb25 e0
      have x2 := keepf hb25 e0 fr0
      have n1 : w.heap.size + 1 ≠ g := by omega
      have n2 : g ≠ w2.heap.size := by omega
      have n3 : w2.heap.size ≠ g := by omega
      go_wp2
      have HOG := (HT.out.below hb35).set (i := k) (s := j) (g := g) (cap := cap) (l := l) HV.out HLk.out x
      rw [← HSET.out, ← HP.out.2] at HOG
      refine bodyPost_ret (v := .tuple #[hv n (.slice (some ⟨B, 0, none⟩) ls.length c'), .bool true]) (by simp [results, Tryd.results8, go_sem, r0, r1]) rfl ⟨.slice (some ⟨B, 0, none⟩) ls.length c', ?_, ?_, ?_⟩
      · rw [HP.out.1]
      · exact ((HOG.setCell_below (by simp; omega) _).setCell_below (by simp; omega) _).own (by omega)
      · exact ((((hB1.trans (hb15.mono (by omega)))).setCell (by simp; omega) _).setCell (by simp) _).setCell (by simp) _
    · have hM1 : mayF ls x = false := by simpa using hM
      have HP := hide (putOk_may (o := o) (s := s) hM1)
      clear hM hO
      go_wp2_with fail
      (with_reducible refine (mayHold_any _ _ ls _ _ (HG1.out.below hb14)).mono ?_)
      rintro e w5 ⟨rfl, hb5⟩
      rw [hM1]
      clear hM1
      have hb35 := bcall hb4 hb5
      have hb15 := btr hb14 hb5 (by have := hb14.size; omega)
      clear c0 c1 r0 r1 z0 z1 u0 u1
      have r0 := keepc hb15 k2
      have r1 := keepc hb15 k3
      have z0 := keepf hb15 k2 f2
      have z1 := keepf hb15 k3 f3
      have u0 := keepc hb35 t0
      have u1 := keepc hb35 t1
      go_wp2
      refine bodyPost_ret (v := .tuple #[hv n (.slice A' ls.length c'), .bool false]) (by simp [results, Tryd.results8, go_sem, r0, r1]) rfl ⟨.slice A' ls.length c', ?_, ?_, ?_⟩
      · rw [HP.out.1]
      · rw [HP.out.2]
        exact (((HT.out.below hb35).setCell_below (by simp; omega) _).setCell_below (by simp; omega) _).own (by omega)
      · exact (((hB1.trans (hb15.mono (by omega)))).setCell (by simp) _).setCell (by simp) _
  · have hO1 : hasS ls o s = false := by simpa using hO
    rw [hO1]
    have HP := hide (putOk_slot (x := x) hO1)
    clear hO hO1
    go_wp2
    refine bodyPost_ret (v := .tuple #[hv n (.slice A' ls.length c'), .bool false]) (by simp [results, Tryd.results8, go_sem, r0, r1]) rfl ⟨.slice A' ls.length c', ?_, ?_, ?_⟩
    · rw [HP.out.1]
    · rw [HP.out.2]
      exact (((HT.out.below hb4).setCell_below (by simp; omega) _).setCell_below (by simp; omega) _).own (by omega)
    · exact (((hB1.trans (hb14.mono (by omega)))).setCell (by simp) _).setCell (by simp) _
end Go.Proofs.YtofobjhlpgcdaaaDoor
