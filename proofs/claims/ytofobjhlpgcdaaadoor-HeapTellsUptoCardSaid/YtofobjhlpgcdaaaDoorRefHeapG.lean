/- Layer heap: the document's own answer: Put. -/
import Derived.Test.YtofobjhlpgcdaaaDoorRefHeapF
import Derived.Test.YtofobjhlpgcdaaaDoorRefHeapA
namespace Go.Proofs.YtofobjhlpgcdaaaDoor
open Go.RowKit

set_option maxRecDepth 100000 in
set_option maxHeartbeats 4000000 in
theorem rPut_any (n : Int) (v : Value) (ls : Rws) (o s x : Int) (w : World) (h : Grid w v ls) (hf : Fit ls) :
    Calls Tryd.prog 9 #[hv n v, .int .i64 o, .int .i64 s, .int .i64 x] w fun e w' => ∃ v', e = .returned (.tuple #[hv n v', .bool (putOk ls o s x)]) ∧ Grid w' v' (putF ls o s x) ∧ Below w.heap.size w w' := by
  have HG := hide h
  obtain ⟨A, c, rfl, h1, h2⟩ := h.form
  unfold maxLen at h2
  have HF := hide hf
  clear h hf
  obtain ⟨w1, ew, hB1, hS1, k0, k1, k2, k3, f2, f3⟩ := box3 w (.int .i64 n) (.slice A ls.length c) (.int .i64 0) (.slice none 0 0) 26
  have HE := hide ew
  have HG1 := hide (HG.out.below hB1)
  clear ew
  go_enter Tryd.func9, Tryd.ntmps9
  go_wp2_with fail
  rw [HE.out]
  (with_reducible refine (rthere_any _ _ ls _ _ _ HG1.out).mono ?_)
  rintro e w2 ⟨rfl, hb2⟩
  have c0 := keepc hb2 k0
  have c1 := keepc hb2 k1
  have r0 := keepc hb2 k2
  have r1 := keepc hb2 k3
  have z0 := keepf hb2 k2 f2
  have z1 := keepf hb2 k3 f3
  have hB2 := bcall hB1 hb2
  have hs2 := hb2.size
  have HG2 := hide (HG.out.below hB2)
  by_cases hO : hasS ls o s = true
  · rw [hO]
    by_cases hx0 : x < 0
    · have HP := hide (putOk_may (o := o) (s := s) (show mayF ls x = false by unfold mayF; rw [decide_eq_false (by omega)]))
      clear hO
      go_wp2
      refine bodyPost_ret (v := .tuple #[hv n (.slice A ls.length c), .bool false]) (by simp [results, Tryd.results9, go_sem, r0, r1]) rfl ⟨.slice A ls.length c, by rw [HP.out.1], ?_, ?_⟩
      · rw [HP.out.2]
        refine HG.out.below ?_
        exact (hB2.setCell (by simp) _).setCell (by simp) _
      · exact (hB2.setCell (by simp) _).setCell (by simp) _
    · by_cases hx1 : (ls.length : Int) < x
      · have HP := hide (putOk_may (o := o) (s := s) (show mayF ls x = false by unfold mayF; rw [decide_eq_false (by omega)]))
        clear hO
        go_wp2
        refine bodyPost_ret (v := .tuple #[hv n (.slice A ls.length c), .bool false]) (by simp [results, Tryd.results9, go_sem, r0, r1]) rfl ⟨.slice A ls.length c, by rw [HP.out.1], ?_, ?_⟩
        · rw [HP.out.2]
          refine HG.out.below ?_
          exact (hB2.setCell (by simp) _).setCell (by simp) _
        · exact (hB2.setCell (by simp) _).setCell (by simp) _
      · have HP := hide (putOk_both hO (show mayF ls x = true by unfold mayF; rw [decide_eq_true (by omega)]))
        obtain ⟨a1, a2, a3, a4⟩ := hasS_iff.1 hO
        obtain ⟨k, rfl⟩ : ∃ k : Nat, o = (k : Int) + 1 := ⟨(o - 1).toNat, by omega⟩
        obtain ⟨j, rfl⟩ : ∃ j : Nat, s = (j : Int) := ⟨s.toNat, by omega⟩
        have hkl : k < ls.length := by omega
        have hrow : rowF ls ((k : Int) + 1) = ls[k] := by rw [rowF_mem ⟨a1, a2⟩]; congr 1; omega
        have hset : setF ls ((k : Int) + 1) j x = ls.set k (ls[k].set j x) := by unfold setF; rw [hrow, show ((k : Int) + 1 - 1).toNat = k by omega, Int.toNat_natCast]
        rw [hrow] at a4
        have hjl : j < ls[k].length := by omega
        have HSET := hide hset
        have HLk := hide (show ls[k]? = some ls[k] from List.getElem?_eq_getElem hkl)
        have HJ := hide hjl
        have hx0' : decide (x < 0) = false := decide_eq_false hx0
        have hx1' : decide ((ls.length : Int) < x) = false := decide_eq_false hx1
        clear hO hset hrow a1 a2 a3 a4
        go_wp2_with fail
        (with_reducible refine (rcopied_any _ _ ls _ HG2.out HF.out).mono ?_)
        rintro e w3 ⟨v', vs, rfl, hown, hb3⟩
        have hs3 := hb3.size
        obtain ⟨A', c', rfl, hc1, hc2⟩ := hown.grid.form
        unfold maxLen at hc2
        obtain ⟨w4, e4, hb4, hlt4, -, t0, t1⟩ := box1 w3 (.int .i64 n) (.slice A' ls.length c') 26
        have HE4 := hide e4
        have HT := hide (hown.below hb4)
        have hb34 := bcall hb3 hb4
        have r0 := keepc hb34 r0
        have r1 := keepc hb34 r1
        have z0 := keepf hb34 (keepc hb2 k2) z0
        have z1 := keepf hb34 (keepc hb2 k3) z1
        obtain ⟨B, nn, cc, g, cap, ev, rfl, d0, dv, hg0, hg1, hB0, hB1', hne⟩ := hown.row hkl (by have := HJ.out; omega)
        injection ev with ev1 ev2 ev3
        subst ev1 ev3
        clear ev2
        have e0 := (hown.rows k _ _ dv (List.getElem?_eq_getElem hkl)).cells (g := g) rfl j (.int .i64 ls[k][j]) (by rw [← ic_map, List.getElem?_map, List.getElem?_eq_getElem hjl]; rfl)
        rw [add_none, Nat.zero_add] at e0
        have fr0 : w3.frozen? ⟨g, j, none⟩ = false := by
          rcases (hown.rows k _ _ dv (List.getElem?_eq_getElem hkl)).2 with ⟨h, _⟩ | ⟨g', cap', cur, h, hg, hh, _⟩
          · cases h
          · injection h with h0; injection h0 with h0; injection h0 with h0; subst h0
            exact frozen_of_row _ _ j cur _ hh
        have hcapl : ls[k].length ≤ cap ∧ cap ≤ 9223372036854775807 := by
          obtain ⟨a, b, h, h1, h2⟩ := own_form (hown.rows k _ _ dv (List.getElem?_eq_getElem hkl))
          injection h with _ _ h3; subst h3; unfold maxLen at h2; omega
        obtain ⟨hcap1, hcap2⟩ := hcapl
        generalize ls[k][j] = old at *
        obtain ⟨l, hl⟩ : ∃ l, ls[k] = l := ⟨_, rfl⟩
        rw [hl] at d0 dv hcap1 hjl HSET HLk
        clear hl HJ
        obtain ⟨m, hm⟩ : ∃ m, l.length = m := ⟨_, rfl⟩
        rw [hm] at d0 hcap1 hjl
        have HV := hide dv
        have HM := hide hm
        have n1 : w.heap.size + 1 ≠ g := by omega
        have n2 : g ≠ w3.heap.size := by omega
        have n3 : w3.heap.size ≠ g := by omega
        have x0 := keepc hb4 d0
        have x1 := keepc hb4 e0
        have x2 := keepf hb4 e0 fr0
        clear dv hm e4 hown d0 e0 fr0
        go_upto_region 4 with (fail)
        rw [HE4.out]
        go_wp2
        have HOG := HT.out.set (i := k) (s := j) (g := g) (cap := cap) (l := l) HV.out HLk.out x
        rw [← HSET.out, ← HP.out.2] at HOG
        refine bodyPost_ret (v := .tuple #[hv n (.slice (some ⟨B, 0, none⟩) ls.length c'), .bool true]) (by simp [results, Tryd.results9, go_sem, r0, r1]) rfl ⟨.slice (some ⟨B, 0, none⟩) ls.length c', by rw [HP.out.1], ?_, ?_⟩
        · exact ((HOG.setCell_below (by simp; omega) _).setCell_below (by simp; omega) _).grid
        · exact ((((hB2.trans (hb34.mono (by omega)))).setCell (by simp; omega) _).setCell (by simp) _).setCell (by simp) _
  · have hO1 : hasS ls o s = false := by simpa using hO
    rw [hO1]
    have HP := hide (putOk_slot (x := x) hO1)
    clear hO hO1
    go_wp2
    refine bodyPost_ret (v := .tuple #[hv n (.slice A ls.length c), .bool false]) (by simp [results, Tryd.results9, go_sem, r0, r1]) rfl ⟨.slice A ls.length c, by rw [HP.out.1], ?_, ?_⟩
    · rw [HP.out.2]
      refine HG.out.below ?_
      exact (hB2.setCell (by simp) _).setCell (by simp) _
    · exact (hB2.setCell (by simp) _).setCell (by simp) _
end Go.Proofs.YtofobjhlpgcdaaaDoor
