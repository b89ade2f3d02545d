/- Layer heap: copied, Put, Alloc. -/
import Derived.Test.YtofobjhlpgcdaaaDoorHeapSame
import Derived.Test.YtofobjhlpgcdaaaDoorOwnGrid
import Derived.Lib.SliceRun
namespace Go.Proofs.YtofobjhlpgcdaaaDoor
open Go.RowKit

theorem infoRow : (Tryd.prog.info? 53).map (fun i => (i.zero, i.size, i.bytes)) = some (some (.slice none 0 0), 1, 24) := by kernel_rfl
theorem infoInt : (Tryd.prog.info? 3).map (fun i => (i.zero, i.size, i.bytes)) = some (some (.int .i64 0), 1, 8) := by kernel_rfl

set_option maxHeartbeats 1000000 in
theorem Clone_ints (v : Value) (l : List Int) (w : World) (h : Ints w v l) (hbig : l.length * 8 ≤ 140737488351232) :
    Calls Tryd.prog 40 #[v] w fun e w' => ∃ v', e = .returned v' ∧ w'.ownsRow w.heap.size 3 1 v' l.length (l.flatMap ic) ∧ Below w.heap.size w w' := by
  obtain ⟨i0, hi, hz0, hz1, hz2⟩ := info_parts infoInt
  have qn : ∀ (w : World) (a : Option Addr) (n c n' c' : Nat), (binOp .eql 53 (.slice a n c) (.slice none n' c')).run Tryd.prog w = .ok (.bool a.isNone) w := fun w a n c n' c' => Lib.run_eql_slice_nil w _ _ a n c n' c' Tryd.underlying53
  have HL := hide h
  obtain ⟨A, c, rfl, h1, h2, h3⟩ := h
  unfold maxLen at h2
  rcases A with _ | a
  · have h0 : l = [] := by
      rcases Nat.eq_zero_or_pos l.length with h0 | h0
      · exact List.eq_nil_of_length_eq_zero h0
      · obtain ⟨b, off, h, _⟩ := h3 h0; cases h
    subst h0
    clear h3
    go_enter Tryd.func40, Tryd.ntmps40
    go_wp2
    go_ret
    exact ⟨_, rfl, World.ownsRow_nil _ _ _ _, Below.refl _ _⟩
  · clear h3
    go_enter Tryd.func40, Tryd.ntmps40
    go_wp2_with (at_builtin; refine wpList_append_sl _ rfl _ _ 53 rfl w.heap.size 3 i0 (.int .i64 0) 1 8 Tryd.underlying53 hi hz0 hz1 hz2 rfl (by decide) _ _ _ rfl (World.ownsRow_made w #[] 0 (Nat.le_refl _) (Nat.zero_le _) rfl) _ l rfl (HL.out.alloc _) ic_len (fun _ u hu => by simp [ic] at hu; subst hu; rfl) (by unfold maxLen; omega) (by omega) (by simp) ?_)
    intro v' w1 hown hb
    go_wp2
    go_ret
    exact ⟨v', rfl, by simpa using hown, (bal _ _).trans hb⟩

set_option maxHeartbeats 1000000 in
theorem Clone_rows (v : Value) (vs : List Value) (w : World) (h : Sl one 1 w v vs) (h1v : ∀ u ∈ vs, u.oneCell' = true) (hbig : vs.length * 24 ≤ 140737488351232) :
    Calls Tryd.prog 39 #[v] w fun e w' => ∃ v', e = .returned v' ∧ w'.ownsRow w.heap.size 53 1 v' vs.length vs ∧ Below w.heap.size w w' := by
  obtain ⟨i0, hi, hz0, hz1, hz2⟩ := info_parts infoRow
  have qn : ∀ (w : World) (a : Option Addr) (n c n' c' : Nat), (binOp .eql 22 (.slice a n c) (.slice none n' c')).run Tryd.prog w = .ok (.bool a.isNone) w := fun w a n c n' c' => Lib.run_eql_slice_nil w _ _ a n c n' c' Tryd.underlying22
  have HL := hide h
  obtain ⟨A, c, rfl, h1, h2, h3⟩ := h
  unfold maxLen at h2
  rcases A with _ | a
  · have h0 : vs = [] := by
      rcases Nat.eq_zero_or_pos vs.length with h0 | h0
      · exact List.eq_nil_of_length_eq_zero h0
      · obtain ⟨b, off, h, _⟩ := h3 h0; cases h
    subst h0
    clear h3
    go_enter Tryd.func39, Tryd.ntmps39
    go_wp2
    go_ret
    exact ⟨_, rfl, World.ownsRow_nil _ _ _ _, Below.refl _ _⟩
  · clear h3
    have HV := hide h1v
    have hv' : ∀ u, u ∈ vs → u.oneCell' = true := h1v
    clear h1v hv'
    go_enter Tryd.func39, Tryd.ntmps39
    go_wp2_with (at_builtin; refine wpList_append_ones _ rfl _ _ 22 rfl w.heap.size 53 i0 (.slice none 0 0) 24 Tryd.underlying22 hi hz0 hz1 hz2 rfl _ _ _ rfl (World.ownsRow_made w #[] 0 (Nat.le_refl _) (Nat.zero_le _) rfl) _ vs rfl (HL.out.alloc _) HV.out (by unfold maxLen; omega) (by omega) (by simp) ?_)
    intro v' w1 hown hb
    go_wp2
    go_ret
    exact ⟨v', rfl, by simpa using hown, (bal _ _).trans hb⟩

/-- a boxed parameter and a boxed result, at once -/
theorem box3 (w : World) (x y p q : Value) (t : TypeId) : ∃ w1, (w.alloc (.cells #[x, y] t)).alloc (.cells #[p, q] t) = w1 ∧ Below w.heap.size w w1 ∧ w1.heap.size = w.heap.size + 2 ∧ w1.cell? ⟨w.heap.size, 0, none⟩ = some x ∧ w1.cell? ⟨w.heap.size, 1, none⟩ = some y ∧
    w1.cell? ⟨w.heap.size + 1, 0, none⟩ = some p ∧ w1.cell? ⟨w.heap.size + 1, 1, none⟩ = some q ∧ w1.frozen? ⟨w.heap.size + 1, 0, none⟩ = false ∧ w1.frozen? ⟨w.heap.size + 1, 1, none⟩ = false := by
  obtain ⟨w0, e0, hB, hlt, _, c0, c1⟩ := box1 w x y t
  have hs0 : w0.heap.size = w.heap.size + 1 := by rw [← e0]; simp
  obtain ⟨w1, e1, hB1, hlt1, _, d0, d1⟩ := box1 w0 p q t
  have hs1 : w1.heap.size = w.heap.size + 2 := by rw [← e1]; simp [hs0]
  rw [hs0] at d0 d1
  have f : ∀ j, w1.frozen? ⟨w.heap.size + 1, j, none⟩ = false := fun j => by
    rw [← e1, ← hs0]
    exact frozen_of_row _ _ j #[p, q] t (heap_alloc_new w0 _)
  exact ⟨w1, by rw [e0, e1], bcall hB hB1, hs1, ((bcell hB1).1 _ 0 hlt).trans c0, ((bcell hB1).1 _ 1 hlt).trans c1, d0, d1, f 0, f 1⟩

set_option maxHeartbeats 2000000 in
theorem copied_any (n : Int) (v : Value) (ls : Rws) (w : World) (h : Grid w v ls) (hf : Fit ls) :
    Calls Tryd.prog 23 #[hv n v] w fun e w' => ∃ v' vs, e = .returned (hv n v') ∧ OwnGrid 53 3 (w.heap.size + 2) w' v' vs ls ∧ Below w.heap.size w w' := by
  have HG := hide h
  obtain ⟨vs, hv1, hv2, hv3, hv4⟩ := grid_ones h
  obtain ⟨A, c, rfl, h1, h2⟩ := h.form
  unfold maxLen at h2
  have HV := hide hv1
  have HO := hide hv3
  have HR := hide hv4
  have HF := hide hf
  clear h hv1 hv3 hv4 hf
  have hf1 := HF.out.1
  obtain ⟨w1, ew, hB1, hS1, k0, k1, k2, k3, f2, f3⟩ := box3 w (.int .i64 n) (.slice A ls.length c) (.int .i64 0) (.slice none 0 0) 24
  have HE := hide ew
  have HV1 := hide (HV.out.below hB1)
  have hlt0 : w.heap.size < w1.heap.size := by omega
  have hlt1 : w.heap.size + 1 < w1.heap.size := by omega
  clear ew
  go_enter Tryd.func23, Tryd.ntmps23
  go_wp2_with fail
  rw [HE.out]
  (with_reducible refine (Clone_rows _ vs _ HV1.out HO.out (by omega)).mono ?_)
  rintro e w2 ⟨v', rfl, hown, hb2⟩
  have hs2 := hb2.size
  obtain ⟨A', c', rfl, hc1, hc2⟩ := own_form hown
  unfold maxLen at hc2
  have HW := hide hown
  clear hown
  go_wp2
  go_loopw [11] (fun i wr => ∃ k : Nat, k ≤ ls.length ∧ i = .int .i64 k ∧ Below w1.heap.size w1 wr ∧ Hid (∃ ns : List Value, ns.length = k ∧ Part 53 3 w1.heap.size wr (.slice A' ls.length c') ns (vs.drop k) ls)) (fun i _ => ls.length - (Go.RowKit.intOf i).toNat)
  case atStart =>
    refine ⟨0, Nat.zero_le _, rfl, hb2, hide ⟨[], rfl, Part.start ?_⟩⟩
    rw [List.drop_zero]
    rw [hv2] at HW
    rw [hv2]
    exact HW.out
  case round =>
    obtain ⟨k, hk, rfl, hb, HP⟩ := hrel
    have hsz := hb.size
    by_cases hlt : k < ls.length
    · obtain ⟨ns, hnl, hP⟩ := HP.out
      clear HP
      have hkv : k < vs.length := by omega
      have hd : vs.drop k = vs[k] :: vs.drop (k + 1) := List.drop_eq_getElem_cons hkv
      rw [hd] at hP
      have HI := hide ((HR.out k vs[k] ls[k] (List.getElem?_eq_getElem hkv) (List.getElem?_eq_getElem hlt)).below (hB1.trans (hb.mono (by omega))))
      have hfl := HF.out.2 ls[k] (List.getElem_mem hlt)
      obtain ⟨l, hl⟩ : ∃ l, ls[k] = l := ⟨_, rfl⟩
      have hl0 : ls[ns.length]? = some l := by rw [hnl, List.getElem?_eq_getElem hlt, hl]
      rw [hl] at HI hfl
      have hov : ∃ a b d, vs[k] = .slice a b d := by obtain ⟨a, d, h, _⟩ := HI.out; exact ⟨_, _, _, h⟩
      generalize vs[k] = o at *
      have HPt := hide hP
      obtain ⟨G, rfl, hG⟩ : ∃ G, A' = some ⟨G, 0, none⟩ ∧ w1.heap.size ≤ G := by
        rcases hP.top.2 with ⟨h, _⟩ | ⟨g, cap, cur, h, hg, _⟩
        · have := hP.top.1; simp at this; injection h with h0 h1 h2; omega
        · injection h with h0; exact ⟨g, h0, hg⟩
      have c3 : wr.cell? ⟨G, k, none⟩ = some o := by
        have := hP.top.cells (g := G) rfl k o (by rw [← hnl]; simp)
        rwa [add_none, Nat.zero_add] at this
      have HL := hide hl
      have HL0 := hide hl0
      have HN := hide hnl
      clear hP hl hl0 hnl hd
      obtain ⟨oa, ob, oc, rfl⟩ := hov
      go_wp2_with fail
      (with_reducible refine (Clone_ints _ l _ HI.out hfl).mono ?_)
      rintro e w5 ⟨u, rfl, hou, hb5⟩
      have hs5 := hb5.size
      have hPt := HPt.out
      have hlen : ns.length + (vs.drop (k + 1)).length + 1 = ls.length := by rw [HN.out, List.length_drop]; omega
      have hnx := hPt.next hb5 (u := u) (l := l) (A := G) (c := c') (by rw [show ns.length + ((vs.drop (k + 1)).length + 1) = ls.length by omega]) HL0.out hou hsz
      rw [HN.out] at hnx
      have ht5 := (hPt.below hb5).top
      have c4 : w5.cell? ⟨G, k, none⟩ = some (.slice oa ob oc) := by
        have := ht5.cells (g := G) rfl k (.slice oa ob oc) (by rw [← HN.out]; simp)
        rwa [add_none, Nat.zero_add] at this
      have hfz : w5.frozen? ⟨G, k, none⟩ = false := by
        rcases ht5.2 with ⟨h, _⟩ | ⟨g, cap, cur, h, hg, hh, _⟩
        · cases h
        · injection h with h0; injection h0 with h0; injection h0 with h0; subst h0
          exact frozen_of_row _ _ k cur _ hh
      obtain ⟨ua, uc, rfl, -, -⟩ := own_form hou
      have HNX := hide hnx
      clear hnx hPt ht5 hou hlen
      go_wp2
      go_roundw
      case rel =>
        refine ⟨k + 1, by omega, by go_num, (bcall hb hb5).setCell hG _, hide ⟨ns ++ [_], by rw [List.length_append, HN.out]; rfl, HNX.out⟩⟩
      case measure => simp [Go.RowKit.intOf]; omega
    · have c0 := ((bcell hb).1 _ 0 hlt0).trans k0
      have c2 := ((bcell hb).1 _ 0 hlt1).trans k2
      have c3 := ((bcell hb).1 _ 1 hlt1).trans k3
      have g2 := ((bcell hb).2 _ 0 hlt1).trans f2
      have g3 := ((bcell hb).2 _ 1 hlt1).trans f3
      go_wp2
      obtain ⟨ns, hnl, hP⟩ := HP.out
      have hkk : k = ls.length := by omega
      rw [hkk, List.drop_eq_nil_of_le (by omega)] at hP
      have hO := hP.whole (by omega)
      have hB2 := (hB1.trans (hb.mono (by omega)))
      have hO2 : OwnGrid 53 3 (w.heap.size + 2) wr (.slice A' ls.length c') ns ls := by rw [← hS1]; exact hO
      refine bodyPost_ret (v := hv n (.slice A' ls.length c')) (by simp [results, Tryd.results23, go_sem, c2, c3]) rfl ⟨.slice A' ls.length c', ns, rfl, ?_, ?_⟩
      · exact (hO2.setCell_below (by simp) _).setCell_below (by simp) _
      · exact (hB2.setCell (by simp) _).setCell (by simp) _
end Go.Proofs.YtofobjhlpgcdaaaDoor
