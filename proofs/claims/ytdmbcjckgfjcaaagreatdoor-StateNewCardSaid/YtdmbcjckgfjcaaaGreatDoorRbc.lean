import Derived.Test.YtdmbcjckgfjcaaaGreatDoorRbb
import Derived.Test.YtdmbcjckgfjcaaaGreatDoorRaz
/- Layer state: the law's own: small. Written by tools/genstateh.py. -/
namespace Go.Proofs.YtdmbcjckgfjcaaaGreatDoor
open Go.RowKit Go.Joins Go.Shelf
/-- behind the one round -/
def SmAt (w w4 : World) (bx : Nat) (ov uh : Hd) (X : World) : Prop := ∃ rg pg : Hd, Bc 30 X bx [.int .i64 1, .int .i64 1, .int .i64 2, .int .i64 1, .int .i64 1, .int .i64 4, .int .i64 2, .int .i64 2, .int .i64 1, hdV ov, .int .u64 1, hdV rg, hdV pg, .slice none 0 0] ∧ Bc 30 X w.heap.size pl0 ∧ Below w4.heap.size w4 X ∧ OwnRows 47 3 (w.heap.size + 1) X (hdV rg) [[1, 0]] ∧ X.ownsRow (w.heap.size + 1) 100 1 (hdV pg) 1 [hdV uh] ∧ Below w.heap.size w X
theorem below_gr {B g : Nat} {a w w' : World} (h : Below B a w) (hg : w.grownBy w' (some g)) (hB : B ≤ g) (hB2 : B ≤ w.heap.size) : Below B a w' :=
  h.trans ⟨hg.os, hg.tape, hg.output, hg.size, fun k hk => hg.block k (by omega) (by simp; omega)⟩
theorem kept_c {a b : World} {p : Addr} {v : Value} (hb : Below a.heap.size a b) (h : a.cell? p = some v) : b.cell? p = some v := by
  rw [hb.cell (World.block_lt_of_cell? _ _ h)]; exact h
theorem bc_gr {t : TypeId} {B g : Nat} {w w' : World} {l : List Value} (h : Bc t w B l) (hg : w.grownBy w' (some g)) (hB : B ≠ g) : Bc t w' B l := (hg.block B h.lt (by simp; omega)).trans h
section
variable {P : Program} {a : Act} {o : Oper} {w : World} {ty : TypeId} {x : Operand} {p : Addr} {v : Value} {dd : TypeDesc}
/-- a cell loaded, in a region that draws -/
theorem ex_loadc (ho : o.op = .load ty x) (hx : a.eval x = .pointer (some p)) (hc : w.cell? p = some v) (hu : P.underlying ty = some dd) (hd : (match dd with | .struct _ | .array _ _ => true | _ => false) = false) : (execOp a.eval o).run P w = .ok (.value v) w := by
  have hagg : (isAgg ty).run P w = .ok false w := by
    unfold isAgg
    rw [Sem.run_bind, run_underlying hu w]
    cases dd <;> simp_all
  have hl : (load p).run P w = .ok v w := by simp [hc]
  unfold execOp
  simp only [ho, hx, Instr.loadAt, Instr.sureAddr, loadVar, Sem.run_bind, Sem.run_pure, Result.andThen_ok, hagg, Bool.false_eq_true, if_false, hl]
end
def exQSa : Pq := ⟨1, 1, 2, 1, 1, 4, 2, 2, 1, [[2], [0], [0]], 1, [[1, 0]], [[⟨3, 1, 0, 0⟩]], []⟩
/-- a row laid anew -/
theorem row_new1 (w : World) (cs : List Value) (t : TypeId) (n : Nat) (hn : cs.length = n) (hm : n ≤ 1000) : ∃ w1, w.alloc (.cells cs.toArray t) = w1 ∧ w1.heap.size = w.heap.size + 1 ∧ Below w.heap.size w w1 ∧ w1.ownsRow w.heap.size t 1 (.slice (some ⟨w.heap.size, 0, none⟩) n n) n cs :=
  ⟨_, rfl, by simp, balS w _, own_new w _ cs t 1 n (Nat.le_refl _) (by omega) (by unfold maxLen; omega)⟩
theorem below_none0 {w w' : World} (h : w.grownBy w' none) : Below w.heap.size w w' := ⟨h.os, h.tape, h.output, h.size, fun k hk => h.block k hk (by simp)⟩
abbrev exLSa (ob rg pg : Value) : List Value := [.int .i64 1, .int .i64 1, .int .i64 2, .int .i64 1, .int .i64 1, .int .i64 4, .int .i64 2, .int .i64 2, .int .i64 1, ob, .int .u64 1, rg, pg, .slice none 0 0]
set_option maxRecDepth 100000 in
set_option maxHeartbeats 8000000 in
theorem small_any (g off c : Nat) (w : World) (hpg : GridO w (.slice (some ⟨g, off, none⟩) 1 c) [[⟨3, 1, 0, 0⟩]]) :
    Calls Tryz.prog 34 #[.slice (some ⟨g, off, none⟩) 1 c] w fun e w' => ∃ ob rg pg : Hd, e = .returned (.agg (plLSa exQSa (hdV ob) (hdV rg) (hdV pg) (.slice none 0 0)).toArray) ∧ PlanR w' (hdV ob) (hdV rg) (hdV pg) (.slice none 0 0) exQSa ∧ Below w.heap.size w w' := by
  obtain ⟨i0, hi, hz0, hz1, hz2⟩ := info_parts infoRow
  obtain ⟨j0, hj, hy0, hy1, hy2⟩ := info_parts infoRo
  have HPG := hide hpg
  obtain ⟨w0, e0, s0, b0, -⟩ := row_new1 w pl0 30 14 rfl (by omega)
  obtain ⟨w1, e1, s1, b1, o1⟩ := row_new1 w0 [.int .i64 2] 3 1 rfl (by omega)
  obtain ⟨w2, e2, s2, b2, o2⟩ := row_new1 w1 [.int .i64 0] 3 1 rfl (by omega)
  obtain ⟨w3, e3, s3, b3, o3⟩ := row_new1 w2 [.int .i64 0] 3 1 rfl (by omega)
  have q0 : w0.heap.size = w.heap.size + 1 := s0
  have q1 : w1.heap.size = w.heap.size + 1 + 1 := by omega
  have q2 : w2.heap.size = w.heap.size + 1 + 1 + 1 := by omega
  have q3 : w3.heap.size = w.heap.size + 1 + 1 + 1 + 1 := by omega
  rw [q0] at o1
  rw [q1] at o2
  rw [q2] at o3
  obtain ⟨w4, e4, s4, b4, o4⟩ := row_new1 w3 [.slice (some ⟨w.heap.size + 1, 0, none⟩) 1 1, .slice (some ⟨w.heap.size + 1 + 1, 0, none⟩) 1 1, .slice (some ⟨w.heap.size + 1 + 1 + 1, 0, none⟩) 1 1] 47 3 rfl (by omega)
  rw [q3] at o4
  obtain ⟨w5, e5, s5, b5, -⟩ := row_new1 w4 (exLSa (.slice (some ⟨w.heap.size + 1 + 1 + 1 + 1, 0, none⟩) 3 3) (.slice none 0 0) (.slice none 0 0)) 30 14 rfl (by omega)
  have K5 : Bc 30 w5 (w.heap.size + 1 + 1 + 1 + 1 + 1) (exLSa (.slice (some ⟨w.heap.size + 1 + 1 + 1 + 1, 0, none⟩) 3 3) (.slice none 0 0) (.slice none 0 0)) := by
    rw [← e5, show w.heap.size + 1 + 1 + 1 + 1 + 1 = w4.heap.size by omega]; exact bc_new w4 _ _
  have B45 : Below w4.heap.size w4 w5 := b5
  have B35 := bcall b4 B45
  have B25 := bcall b3 B35
  have B15 := bcall b2 B25
  have B5 : Below w.heap.size w w5 := bcall b0 (bcall b1 B15)
  have hob : OwnRows 47 3 (w.heap.size + 1) w4 (.slice (some ⟨w.heap.size + 1 + 1 + 1 + 1, 0, none⟩) 3 3) [[2], [0], [0]] := by
    refine ⟨[.slice (some ⟨w.heap.size + 1, 0, none⟩) 1 1, .slice (some ⟨w.heap.size + 1 + 1, 0, none⟩) 1 1, .slice (some ⟨w.heap.size + 1 + 1 + 1, 0, none⟩) 1 1], own_base o4 (by omega), rfl, fun i u l hu hl => ?_⟩
    match i, hu, hl with
    | 0, hu, hl => cases hu; cases hl; exact own_base (own_below o1 (bcall b2 (bcall b3 b4))) (by omega)
    | 1, hu, hl => cases hu; cases hl; exact own_base (own_below o2 (bcall b3 b4)) (by omega)
    | 2, hu, hl => cases hu; cases hl; exact own_base (own_below o3 b4) (by omega)
  have K0 : Bc 30 w5 w.heap.size pl0 := by
    have : Bc 30 w0 w.heap.size pl0 := by rw [← e0]; exact bc_new w _ _
    exact this.below (bcall b1 B15)
  have HS4 := hide (show w4.heap.size = w.heap.size + 1 + 1 + 1 + 1 + 1 by omega)
  have HB45 := hide B45
  have hs5 : w5.heap.size = w.heap.size + 1 + 1 + 1 + 1 + 1 + 1 := by omega
  obtain ⟨gp, op_, u, hgp, hgl, hcp, huo⟩ := gridO_at hpg (k := 0) (by simp)
  obtain ⟨uh, rfl, huh⟩ := hd_of huo
  have HE0 := hide e0
  have HE1 := hide e1
  have HE2 := hide e2
  have HE3 := hide e3
  have HE4 := hide e4
  have HE5 := hide e5
  have HK5 := hide K5
  have HK0 := hide K0
  have HB5 := hide B5
  have HOB := hide hob
  have HS5 := hide hs5
  injection hgp with hgp
  injection hgp with hgp1 hgp2
  subst hgp1 hgp2
  have HCP := hide hcp
  have HUO := hide huh
  have HUI := hide huo
  clear e0 e1 e2 e3 e4 e5 s0 s1 s2 s3 s4 s5 q0 q1 q2 q3 o1 o2 o3 o4 b0 b1 b2 b3 b4 b5 K5 K0 B45 B35 B25 B15 B5 hob hs5 hcp huh huo hpg
  go_enter Tryz.func34, Tryz.ntmps34
  go_upto_region 2 with (fail)
  rw [HE0.out, HE1.out, HE2.out, HE3.out, HE4.out, HE5.out]
  obtain ⟨bx, hbx⟩ : ∃ b, w.heap.size + 1 + 1 + 1 + 1 + 1 = b := ⟨_, rfl⟩
  obtain ⟨ov, hov⟩ : ∃ v : Hd, hdV v = .slice (some ⟨w.heap.size + 1 + 1 + 1 + 1, 0, none⟩) 3 3 := ⟨(_, _, _), rfl⟩
  rw [hbx] at HK5 ⊢
  rw [← hov] at HK5 HOB ⊢
  have HBX := hide hbx
  clear hbx hov HE0 HE1 HE2 HE3 HE4 HE5
  go_wp2
  go_loopw [4] (fun i wr => ∃ k : Nat, i = .int .i64 (k : Int) ∧ Hid ((k = 0 ∧ wr = w5) ∨ (k = 1 ∧ SmAt w w4 bx ov uh wr))) (fun i _ => 1 - (Go.RowKit.intOf i).toNat)
  case atStart => exact ⟨0, by simp, hide (.inl ⟨rfl, rfl⟩)⟩
  case round =>
    obtain ⟨k, rfl, HH⟩ := hrel
    rcases HH.out with ⟨rfl, rfl⟩ | ⟨rfl, hS⟩
    · have c11 : wr.cell? ⟨bx, 11, none⟩ = some (.slice none 0 0) := HK5.out.cell 11
      obtain ⟨X1, ex1, sx1, bx1, ox1⟩ := row_new1 wr [.int .i64 1, .int .i64 0] 3 2 rfl (by omega)
      obtain ⟨X2, ex2, sx2, bx2, ox2⟩ := row_new1 X1 [.slice (some ⟨wr.heap.size, 0, none⟩) 2 2] 47 1 rfl (by omega)
      have h12 : X2.heap.size = wr.heap.size + 1 + 1 := by omega
      have HEX1 := hide ex1
      have HEX2 := hide ex2
      rw [sx1] at ox2
      have HOX2 := hide ox2
      have HOX1 := hide (own_below ox1 bx2)
      have HBX2 := hide (bcall bx1 bx2)
      have HX12 := hide h12
      clear ex1 ex2 sx1 sx2 bx1 bx2 ox1 ox2 h12
      go_wp2_with (at_builtin; rw [HEX1.out, HEX2.out]; refine wpList_append_own _ rfl _ _ 22 rfl X2.heap.size 47 i0 (.slice none 0 0) 1 24 Tryz.underlying22 hi hz0 hz1 hz2 rfl (by decide) _ _ _ rfl (World.ownsRow_nil _ _ _ _) ⟨_, 0, none⟩ 1 1 [.slice (some ⟨wr.heap.size, 0, none⟩) 2 2] rfl rfl ?_ (by simp [Value.oneCell']) (by unfold maxLen; omega) (by omega) (Nat.le_refl _) ?_)
      · intro j u hj
        match j, hj with
        | 0, hj => exact HOX2.out.cells (g := _) rfl 0 u hj
        | j + 1, hj => simp at hj
      · intro v' w' hown hgr hne
        have bn : Below X2.heap.size X2 w' := below_none0 hgr
        have hgrid : OwnRows 47 3 wr.heap.size w' v' [[1, 0]] := by
          refine ⟨[.slice (some ⟨wr.heap.size, 0, none⟩) 2 2], own_base hown (by have := HX12.out; omega), rfl, fun i u l hu hl => ?_⟩
          match i, hu, hl with
          | 0, hu, hl => cases hu; cases hl; exact own_below HOX1.out bn
        obtain ⟨rh, rfl⟩ : ∃ x : Hd, v' = hdV x := by
          obtain ⟨vs, h1, -⟩ := hgrid.grid
          obtain ⟨x, h, -⟩ := hd_of h1
          exact ⟨x, h⟩
        have hbw : Below wr.heap.size wr w' := bcall HBX2.out bn
        have HKW := hide (HK5.out.below hbw)
        have HBW := hide (HB5.out.trans (hbw.mono HB5.out.size))
        have HK0W := hide (HK0.out.below hbw)
        have HB4W := hide (bcall HB45.out hbw)
        have HGR := hide hgrid
        have HSW := hide hbw.size
        clear hown hgr hne bn hgrid hbw
        have c11w : w'.cell? ⟨bx, 11, none⟩ = some (.slice none 0 0) := HKW.out.cell 11
        have f11w : w'.frozen? ⟨bx, 11, none⟩ = false := HKW.out.free 11
        obtain ⟨w7, ew7⟩ : ∃ z, w'.setCell ⟨bx, 11, none⟩ (hdV rh) = z := ⟨_, rfl⟩
        have HK7 : Hid (Bc 30 w7 bx (exLSa (hdV ov) (hdV rh) (.slice none 0 0))) := hide (by rw [← ew7]; exact HKW.out.set 11 _)
        have HG7 := hide (show w'.grownBy w7 (some bx) from by rw [← ew7]; exact grown_setSa w' bx 11 _)
        have HEW7 := hide ew7
        clear ew7
        have hbw5 : w.heap.size + 1 ≤ bx ∧ w4.heap.size = bx ∧ wr.heap.size = bx + 1 := by have h1 := HBX.out; have h2 := HS4.out; have h3 := HS5.out; omega
        have HB7 := hide (below_gr HBW.out HG7.out (by omega) HBW.out.size)
        have HK07 := hide (bc_gr HK0W.out HG7.out (by omega))
        have HB47 := hide (below_gr HB4W.out HG7.out (by omega) HB4W.out.size)
        have HGR7 := hide (HGR.out.grown HG7.out (by omega))
        have HNB := hide hbw5
        have HCP7 := hide (show w7.cell? ⟨g, off, none⟩ = some (hdV uh) from by have := kept_c HB7.out HCP.out; simpa using this)
        have HC12 := hide (show w7.cell? ⟨bx, 12, none⟩ = some (.slice none 0 0) from HK7.out.cell 12)
        have HBD := hide (show Below w7.heap.size w7 w7.drew from ⟨rfl, rfl, rfl, Nat.le_refl _, fun _ _ => rfl⟩)
        obtain ⟨x6, e6, s6, b6, o6⟩ := row_new1 w7.drew [hdV uh] 100 1 rfl (by omega)
        have HBX6 := hide (bcall HBD.out b6)
        have HE6 := hide (show (w7.alloc (.cells [hdV uh].toArray 100)).drew = x6 from e6)
        have HO6 := hide o6
        have HS6 := hide s6
        clear hbw5 e6 b6 o6 s6 c11
        go_upto_region 6 with (fail)
        clear c11w f11w
        rw [HEW7.out]
        refine wp_region_B [9] (S := fun w_ => w_.cell? ⟨g, off, none⟩ = some (hdV uh) ∧ w_.cell? ⟨bx, 12, none⟩ = some (.slice none 0 0)) (by kernel_rfl) ?_ (fun hHeld => ?_)
        · exact ⟨kept_c HBD.out HCP7.out, kept_c HBD.out HC12.out⟩
        refine tp 0 (h := ?_)
        refine tp 2 (h := ?_)
        refine tp 3 (h := ?_)
        refine tp 4 (h := ?_)
        refine tb 1 (hy := fun w_ h_ => ex_loadc rfl rfl h_.2 Tryz.underlying27 rfl) (h := ?_)
        refine tb 5 (hy := fun w_ h_ => ex_loadc rfl rfl h_.1 Tryz.underlying100 rfl) (h := ?_)
        refine wpAnyB_ready (rs := [6]) (by kernel_rfl) (by simp) ?_
        refine AllReadyB.cons rfl (fun K hK => ?_) AllReadyB.nil
        go_simp
        rw [HE6.out]
        refine hK.out _ _ ⟨kept_c HBX6.out HCP7.out, kept_c HBX6.out HC12.out⟩ (fun hHeld => ?_)
        clear hK
        (try simp only [Act.put, List.setIfInBounds_toArray, List.set_cons_zero, List.set_cons_succ])
        refine wpAnyB_ready (rs := [7]) (by kernel_rfl) (by simp) ?_
        refine AllReadyB.cons rfl (fun K hK => ?_) AllReadyB.nil
        refine step_append_own_g (by rfl) _ _ 27 (by rfl) x6.heap.size 100 j0 (.slice none 0 0) 1 24 Tryz.underlying27 hj hy0 hy1 hy2 rfl (by decide) (.slice none 0 0) 0 [] (by go_simp) (World.ownsRow_nil _ _ _ _) ⟨w7.drew.heap.size, 0, none⟩ 1 1 [hdV uh] (by go_simp) rfl (fun j u hj => HO6.out.cells (g := _) rfl j u hj) (by intro u hu; simp at hu; subst hu; rfl) (by unfold maxLen; omega) (by omega) (Nat.le_refl _) ?_
        intro v8 x8 hown8 hg8
        have hb8 := below_none0 hg8
        have HB8 := hide (bcall HBX6.out hb8)
        obtain ⟨ph, rfl⟩ : ∃ x : Hd, v8 = hdV x := by
          obtain ⟨x, h, -⟩ := hd_of (Sl.of_own (enc := one) (l := [hdV uh]) one_len (by rw [flat_one]; exact hown8))
          exact ⟨x, h⟩
        have HO8 := hide hown8
        have HX8 := hide (Nat.le_trans (show bx + 1 ≤ x6.heap.size from Nat.le_trans (by have := HNB.out; have := HSW.out; have := HG7.out.size; omega) HBX6.out.size) (Nat.le_refl _))
        have hK8 := HK7.out.below HB8.out
        have HK8 := hide hK8
        have c12 : x8.cell? ⟨bx, 12, none⟩ = some (.slice none 0 0) := hK8.cell 12
        have f12 : x8.frozen? ⟨bx, 12, none⟩ = false := hK8.free 12
        refine hK.out _ _ ⟨kept_c HB8.out HCP7.out, kept_c HB8.out HC12.out⟩ (fun hHeld => ?_)
        clear hK hown8 hg8 hb8 hK8
        (try simp only [Act.put, List.setIfInBounds_toArray])
        refine tp 8 (h := ?_)
        refine wpAnyB_ready (rs := [9]) (by kernel_rfl) (by simp) ?_
        refine AllReadyB.last rfl (by kernel_rfl) (fun K hK => ?_) AllReadyB.nil
        go_simp
        refine hK.out _ _ ?_
        clear hK
        (try simp only [Act.put, List.setIfInBounds_toArray, List.set_cons_zero, List.set_cons_succ])
        refine wpAnyB_done (by kernel_rfl) ?_ _
        have hfin : SmAt w w4 bx ov uh (x8.setCell ⟨bx, 12, none⟩ (hdV ph)) := by
          have hn := HNB.out
          have hg := grown_setSa x8 bx 12 (hdV ph)
          have hx := HX8.out
          have h78 := HB8.out
          have hs7 := HB7.out.size
          exact ⟨rh, ph, HK8.out.set 12 _, bc_gr (HK07.out.below h78) hg (by omega), below_gr (bcall HB47.out h78) hg (by omega) (Nat.le_trans HB47.out.size h78.size), ((HGR7.out.below h78).grown hg (by omega)).le (by omega), own_base (own_grown HO8.out hg (by omega)) (by omega), below_gr (bcall HB7.out h78) hg (by omega) (Nat.le_trans HB7.out.size h78.size)⟩
        have HFIN := hide hfin
        clear hfin
        go_wp2
        go_roundw
        case rel => exact ⟨1, by go_num, hide (.inr ⟨rfl, HFIN.out⟩)⟩
        case measure => simp [Go.RowKit.intOf]
    · obtain ⟨rg, pg, k1, k2, k3, k4, k5, k6⟩ := hS
      have HK1 := hide k1
      have HK2 := hide k2
      have HN := hide (setRow_heap _ _ _ (plLSa exQSa (hdV ov) (hdV rg) (hdV pg) (.slice none 0 0)).toArray _ _ k2)
      have hfin : PlanR (wr.setRow w.heap.size (plLSa exQSa (hdV ov) (hdV rg) (hdV pg) (.slice none 0 0)).toArray) (hdV ov) (hdV rg) (hdV pg) (.slice none 0 0) exQSa := by
        have hg := grown_row wr w.heap.size (plLSa exQSa (hdV ov) (hdV rg) (hdV pg) (.slice none 0 0)).toArray
        refine ⟨((HOB.out.below k3).grown hg (by omega)).grid, (k4.grown hg (by omega)).grid, ⟨[hdV uh], Sl.of_own (enc := one) (l := [hdV uh]) one_len (by rw [flat_one]; exact own_grown k5 hg (by omega)), rfl, fun i u l hu hl => ?_⟩, Sl.nil_⟩
        match i, hu, hl with
        | 0, hu, hl => cases hu; cases hl; exact HUI.out.below (below_setRow k6 (Nat.le_refl _) _)
      have HFI := hide hfin
      have HB := hide (below_setRow k6 (Nat.le_refl _) (plLSa exQSa (hdV ov) (hdV rg) (hdV pg) (.slice none 0 0)).toArray)
      clear k1 k2 k3 k4 k5 k6 hfin
      go_wp2_with (first
        | (refine wpList_load_row rfl 30 (.tmp 3) rfl bx rfl (plLSa exQSa (hdV ov) (hdV rg) (hdV pg) (.slice none 0 0)).toArray _ _ _ HK1.out Tryz.underlying30 rfl (by kernel_rfl) ?_)
        | (refine wpList_store_row rfl 30 (.tmp 2) (.tmp 34) rfl w.heap.size rfl (plLSa exQSa (hdV ov) (hdV rg) (hdV pg) (.slice none 0 0)).toArray rfl _ _ HK2.out (by kernel_rfl) rfl (by kernel_rfl) ?_))
      refine bodyPost_ret (results_row Tryz.results34 w.heap.size rfl _ _ _ _ HN.out Tryz.underlying30 rfl (by kernel_rfl)) rfl ?_
      exact ⟨ov.1, ov.2.1, ov.2.2, rg.1, rg.2.1, rg.2.2, pg.1, pg.2.1, pg.2.2, rfl, HFI.out, HB.out⟩
end Go.Proofs.YtdmbcjckgfjcaaaGreatDoor
/- Layer state: slices.EqualFunc over machines. Written by tools/genstate8.py. -/
namespace Go.Proofs.YtdmbcjckgfjcaaaGreatDoor
open Go.RowKit Go.Joins Go.Shelf
theorem wk2_ {w : World} {q : Wq} {b : Hd} (h : WkR w (q, b) q) : Ints w (hdV b) q.batch := h.2
theorem ut2_ {w : World} {q : Uq} {r b t : Hd} (h : UtR w (q, r, b, t) q) : Ints w (hdV r) q.regs := h.2.1
theorem ut3_ {w : World} {q : Uq} {r b t : Hd} (h : UtR w (q, r, b, t) q) : Ints w (hdV b) q.buf := h.2.2.1
theorem ut4_ {w : World} {q : Uq} {r b t : Hd} (h : UtR w (q, r, b, t) q) : Ints w (hdV t) q.batch := h.2.2.2
theorem wks_at {w : World} {A : Option Addr} {n c k : Nat} {l : List Wq} (h : Wks w (.slice A n c) l) (hk : k < l.length) :
    ∃ b off x, A = some ⟨b, off, none⟩ ∧ b < w.heap.size ∧ (∀ (j_ : Nat) v_, (wkE x)[j_]? = some v_ → w.cell? ⟨b, off + k * 44 + j_, none⟩ = some v_) ∧ WkR w x l[k] := by
  obtain ⟨es, h1, h2, h3⟩ := h
  have hke : k < es.length := by omega
  obtain ⟨b, off, rfl, hb, hc⟩ := sl_seg h1 hke
  exact ⟨b, off, es[k], rfl, hb, hc, h3 k _ _ (List.getElem?_eq_getElem hke) (List.getElem?_eq_getElem hk)⟩
theorem uts_at {w : World} {A : Option Addr} {n c k : Nat} {l : List Uq} (h : Uts w (.slice A n c) l) (hk : k < l.length) :
    ∃ b off x, A = some ⟨b, off, none⟩ ∧ b < w.heap.size ∧ (∀ (j_ : Nat) v_, (utE x)[j_]? = some v_ → w.cell? ⟨b, off + k * 41 + j_, none⟩ = some v_) ∧ UtR w x l[k] := by
  obtain ⟨es, h1, h2, h3⟩ := h
  have hke : k < es.length := by omega
  obtain ⟨b, off, rfl, hb, hc⟩ := sl_seg h1 hke
  exact ⟨b, off, es[k], rfl, hb, hc, h3 k _ _ (List.getElem?_eq_getElem hke) (List.getElem?_eq_getElem hk)⟩
set_option maxRecDepth 100000 in
set_option maxHeartbeats 4000000 in
theorem EqualFunc_wks (va vb : Value) (a b : List Wq) (w : World) (ha : Wks w va a) (hb : Wks w vb b) :
    Calls Tryz.prog 77 #[va, vb, .func (.func 78) #[] #[]] w fun e w' => e = .returned (.bool (decide (a = b))) ∧ Below w.heap.size w w' := by
  obtain ⟨A, c, rfl, h1, h2⟩ := ha.form
  obtain ⟨B, d, rfl, h3, h4⟩ := hb.form
  unfold maxLen at h2 h4
  have HA := hide ha
  have HB := hide hb
  clear ha hb
  by_cases hn : a.length = b.length
  · have q : (((a.length : Int)) != ((b.length : Int))) = false := by rw [bne_eq_false_iff_eq]; omega
    have HN := hide hn
    clear hn
    go_enter Tryz.func77, Tryz.ntmps77
    go_wp2
    go_loopw [17] (fun i wr => ∃ k : Nat, k ≤ a.length ∧ i = .int .i64 k ∧ Below w.heap.size w wr ∧ Hid (a.take k = b.take k)) (fun i _ => a.length - (Go.RowKit.intOf i).toNat)
    case atStart => exact ⟨0, Nat.zero_le _, rfl, Below.refl _ _, hide (by simp)⟩
    case round =>
      obtain ⟨k, hk, rfl, hbw, HE⟩ := hrel
      by_cases hlt : k < a.length
      · have hlb : k < b.length := by have := HN.out; omega
        obtain ⟨b1, o1, x1, rfl, -, c0, r1⟩ := wks_at (HA.out.below hbw) hlt
        obtain ⟨b2, o2, x2, rfl, -, c2, r2⟩ := wks_at (HB.out.below hbw) hlb
        have hT := hide (show a.take (k + 1) = a.take k ++ [a[k]] ∧ b.take (k + 1) = b.take k ++ [b[k]] from ⟨List.take_succ_eq_append_getElem hlt, List.take_succ_eq_append_getElem hlb⟩)
        have hG := hide (show a = b → a[k] = b[k] by intro h; simp [h])
        generalize a[k] = y1 at *
        generalize b[k] = y2 at *
        obtain ⟨q1, h1_⟩ := x1
        obtain rfl : q1 = y1 := r1.1
        obtain ⟨q2, h2_⟩ := x2
        obtain rfl : q2 = y2 := r2.1
        have R1 := hide r1
        have R2 := hide r2
        obtain ⟨X1, ex⟩ : ∃ W, wr.alloc (.cells (wkE (q1, h1_)).toArray 102) = W := ⟨_, rfl⟩
        have hbx : Below wr.heap.size wr X1 := by rw [← ex]; exact balS wr _
        have K8 : Bc 102 X1 wr.heap.size (wkE (q1, h1_)) := by rw [← ex]; exact bc_new wr _ _
        have C0 := hide c0
        have C2 := hide (show ∀ (j_ : Nat) v_, (wkE (q2, h2_))[j_]? = some v_ → X1.cell? ⟨b2, o2 + k * 44 + j_, none⟩ = some v_ from fun j_ v_ hv => (by have := c2 j_ v_ hv; rw [hbx.cell (World.block_lt_of_cell? _ _ this)]; exact this))
        have EX := hide ex
        have HBX := hide hbx
        have HK8 := hide (K8.below (balS X1 (.cells (wkE (q2, h2_)).toArray 102)))
        clear r1 r2 c0 c2 ex hbx K8
        go_upto_region 6 with (first
          | (refine wpList_load_seg rfl 102 (.tmp 20) rfl b1 (o1 + k * 44) rfl (wkE (q1, h1_)) _ C0 Tryz.underlying102 rfl (by kernel_rfl) ?_)
          | (refine wpList_store_row rfl 102 (.tmp 8) (.tmp 21) rfl wr.heap.size rfl (wkE (q1, h1_)).toArray rfl _ _ (heap_alloc_new wr _) (by kernel_rfl) rfl (wkA_one q1 h1_) ?_; rw [setRow_alloc]))
        rw [EX.out]
        go_wp2_with (first
          | (refine wpList_load_seg rfl 102 (.tmp 24) rfl b2 (o2 + k * 44) rfl (wkE (q2, h2_)) _ C2 Tryz.underlying102 rfl (by kernel_rfl) ?_)
          | (refine wpList_store_row rfl 102 (.tmp 9) (.tmp 25) rfl X1.heap.size rfl (wkE (q2, h2_)).toArray rfl _ _ (heap_alloc_new X1 _) (by kernel_rfl) rfl (wkA_one q2 h2_) ?_; rw [setRow_alloc])
          | (refine wpList_load_row rfl 102 (.tmp 8) rfl wr.heap.size rfl (wkE (q1, h1_)).toArray _ _ _ HK8.out Tryz.underlying102 rfl (by kernel_rfl) ?_)
          | (refine wpList_load_row rfl 102 (.tmp 9) rfl X1.heap.size rfl (wkE (q2, h2_)).toArray _ _ _ (heap_alloc_new X1 _) Tryz.underlying102 rfl (by kernel_rfl) ?_))
        have HBY := hide (bcall HBX.out (balS X1 (.cells (wkE (q2, h2_)).toArray 102)))
        (with_reducible refine (smW_any q1 q2 h1_ h2_ _ ((wk2_ R1.out).below HBY.out) ((wk2_ R2.out).below HBY.out)).mono ?_)
        rintro e w2 ⟨rfl, hb2⟩
        have HBZ := hide (bcall hbw (bcall HBY.out hb2))
        clear hb2
        by_cases he : q1 = q2
        · rw [decide_eq_true he]
          have HE' := hide (show a.take (k + 1) = b.take (k + 1) by rw [hT.out.1, hT.out.2, HE.out, he])
          clear he
          go_wp2
          go_roundw
          case rel => exact ⟨k + 1, by omega, by go_num, HBZ.out, HE'⟩
          case measure => simp [Go.RowKit.intOf]; omega
        · rw [decide_eq_false he]
          have HF := hide (show decide (a = b) = false by
            simp only [decide_eq_false_iff_not]
            exact fun h => he (hG.out h))
          clear he
          go_wp2
          go_ret
          exact ⟨ret_bool HF.out.symm, HBZ.out⟩
      · have HF := hide (show a = b by
          have h := HE.out
          have := HN.out
          rwa [List.take_of_length_le (by omega), List.take_of_length_le (by omega)] at h)
        go_wp2
        go_ret
        exact ⟨ret_bool (by rw [HF.out]; simp), hbw⟩
  · have q : (((a.length : Int)) != ((b.length : Int))) = true := by rw [bne_iff_ne]; omega
    have HN := hide (show decide (a = b) = false by simp; intro e; exact hn (by rw [e]))
    clear hn
    go_enter Tryz.func77, Tryz.ntmps77
    go_wp2
    go_ret
    exact ⟨ret_bool HN.out.symm, Below.refl _ _⟩
set_option maxRecDepth 100000 in
set_option maxHeartbeats 4000000 in
theorem EqualFunc_uts (va vb : Value) (a b : List Uq) (w : World) (ha : Uts w va a) (hb : Uts w vb b) :
    Calls Tryz.prog 79 #[va, vb, .func (.func 80) #[] #[]] w fun e w' => e = .returned (.bool (decide (a = b))) ∧ Below w.heap.size w w' := by
  obtain ⟨A, c, rfl, h1, h2⟩ := ha.form
  obtain ⟨B, d, rfl, h3, h4⟩ := hb.form
  unfold maxLen at h2 h4
  have HA := hide ha
  have HB := hide hb
  clear ha hb
  by_cases hn : a.length = b.length
  · have q : (((a.length : Int)) != ((b.length : Int))) = false := by rw [bne_eq_false_iff_eq]; omega
    have HN := hide hn
    clear hn
    go_enter Tryz.func79, Tryz.ntmps79
    go_wp2
    go_loopw [17] (fun i wr => ∃ k : Nat, k ≤ a.length ∧ i = .int .i64 k ∧ Below w.heap.size w wr ∧ Hid (a.take k = b.take k)) (fun i _ => a.length - (Go.RowKit.intOf i).toNat)
    case atStart => exact ⟨0, Nat.zero_le _, rfl, Below.refl _ _, hide (by simp)⟩
    case round =>
      obtain ⟨k, hk, rfl, hbw, HE⟩ := hrel
      by_cases hlt : k < a.length
      · have hlb : k < b.length := by have := HN.out; omega
        obtain ⟨b1, o1, x1, rfl, -, c0, r1⟩ := uts_at (HA.out.below hbw) hlt
        obtain ⟨b2, o2, x2, rfl, -, c2, r2⟩ := uts_at (HB.out.below hbw) hlb
        have hT := hide (show a.take (k + 1) = a.take k ++ [a[k]] ∧ b.take (k + 1) = b.take k ++ [b[k]] from ⟨List.take_succ_eq_append_getElem hlt, List.take_succ_eq_append_getElem hlb⟩)
        have hG := hide (show a = b → a[k] = b[k] by intro h; simp [h])
        generalize a[k] = y1 at *
        generalize b[k] = y2 at *
        obtain ⟨q1, f1_, f2_, f3_⟩ := x1
        obtain rfl : q1 = y1 := r1.1
        obtain ⟨q2, g1_, g2_, g3_⟩ := x2
        obtain rfl : q2 = y2 := r2.1
        have R1 := hide r1
        have R2 := hide r2
        obtain ⟨X1, ex⟩ : ∃ W, wr.alloc (.cells (utE (q1, f1_, f2_, f3_)).toArray 93) = W := ⟨_, rfl⟩
        have hbx : Below wr.heap.size wr X1 := by rw [← ex]; exact balS wr _
        have K8 : Bc 93 X1 wr.heap.size (utE (q1, f1_, f2_, f3_)) := by rw [← ex]; exact bc_new wr _ _
        have C0 := hide c0
        have C2 := hide (show ∀ (j_ : Nat) v_, (utE (q2, g1_, g2_, g3_))[j_]? = some v_ → X1.cell? ⟨b2, o2 + k * 41 + j_, none⟩ = some v_ from fun j_ v_ hv => (by have := c2 j_ v_ hv; rw [hbx.cell (World.block_lt_of_cell? _ _ this)]; exact this))
        have EX := hide ex
        have HBX := hide hbx
        have HK8 := hide (K8.below (balS X1 (.cells (utE (q2, g1_, g2_, g3_)).toArray 93)))
        clear r1 r2 c0 c2 ex hbx K8
        go_upto_region 6 with (first
          | (refine wpList_load_seg rfl 93 (.tmp 20) rfl b1 (o1 + k * 41) rfl (utE (q1, f1_, f2_, f3_)) _ C0 Tryz.underlying93 rfl (by kernel_rfl) ?_)
          | (refine wpList_store_row rfl 93 (.tmp 8) (.tmp 21) rfl wr.heap.size rfl (utE (q1, f1_, f2_, f3_)).toArray rfl _ _ (heap_alloc_new wr _) (by kernel_rfl) rfl (utA_one q1 f1_ f2_ f3_) ?_; rw [setRow_alloc]))
        rw [EX.out]
        go_wp2_with (first
          | (refine wpList_load_seg rfl 93 (.tmp 24) rfl b2 (o2 + k * 41) rfl (utE (q2, g1_, g2_, g3_)) _ C2 Tryz.underlying93 rfl (by kernel_rfl) ?_)
          | (refine wpList_store_row rfl 93 (.tmp 9) (.tmp 25) rfl X1.heap.size rfl (utE (q2, g1_, g2_, g3_)).toArray rfl _ _ (heap_alloc_new X1 _) (by kernel_rfl) rfl (utA_one q2 g1_ g2_ g3_) ?_; rw [setRow_alloc])
          | (refine wpList_load_row rfl 93 (.tmp 8) rfl wr.heap.size rfl (utE (q1, f1_, f2_, f3_)).toArray _ _ _ HK8.out Tryz.underlying93 rfl (by kernel_rfl) ?_)
          | (refine wpList_load_row rfl 93 (.tmp 9) rfl X1.heap.size rfl (utE (q2, g1_, g2_, g3_)).toArray _ _ _ (heap_alloc_new X1 _) Tryz.underlying93 rfl (by kernel_rfl) ?_))
        have HBY := hide (bcall HBX.out (balS X1 (.cells (utE (q2, g1_, g2_, g3_)).toArray 93)))
        (with_reducible refine (smU_any q1 q2 f1_ f2_ f3_ g1_ g2_ g3_ _ ((ut2_ R1.out).below HBY.out) ((ut2_ R2.out).below HBY.out) ((ut3_ R1.out).below HBY.out) ((ut3_ R2.out).below HBY.out) ((ut4_ R1.out).below HBY.out) ((ut4_ R2.out).below HBY.out)).mono ?_)
        rintro e w2 ⟨rfl, hb2⟩
        have HBZ := hide (bcall hbw (bcall HBY.out hb2))
        clear hb2
        by_cases he : q1 = q2
        · rw [decide_eq_true he]
          have HE' := hide (show a.take (k + 1) = b.take (k + 1) by rw [hT.out.1, hT.out.2, HE.out, he])
          clear he
          go_wp2
          go_roundw
          case rel => exact ⟨k + 1, by omega, by go_num, HBZ.out, HE'⟩
          case measure => simp [Go.RowKit.intOf]; omega
        · rw [decide_eq_false he]
          have HF := hide (show decide (a = b) = false by
            simp only [decide_eq_false_iff_not]
            exact fun h => he (hG.out h))
          clear he
          go_wp2
          go_ret
          exact ⟨ret_bool HF.out.symm, HBZ.out⟩
      · have HF := hide (show a = b by
          have h := HE.out
          have := HN.out
          rwa [List.take_of_length_le (by omega), List.take_of_length_le (by omega)] at h)
        go_wp2
        go_ret
        exact ⟨ret_bool (by rw [HF.out]; simp), hbw⟩
  · have q : (((a.length : Int)) != ((b.length : Int))) = true := by rw [bne_iff_ne]; omega
    have HN := hide (show decide (a = b) = false by simp; intro e; exact hn (by rw [e]))
    clear hn
    go_enter Tryz.func79, Tryz.ntmps79
    go_wp2
    go_ret
    exact ⟨ret_bool HN.out.symm, Below.refl _ _⟩
end Go.Proofs.YtdmbcjckgfjcaaaGreatDoor
/- Layer state: what the examples' state reads. -/
namespace Go.Proofs.YtdmbcjckgfjcaaaGreatDoor
open Go.RowKit Go.Joins Go.Shelf
theorem sl_open {α : Type} {enc : α → List Value} {size : Nat} {w : World} {v : Value} {l : List α} (h : Sl enc size w v l) (hl : 0 < l.length) :
    ∃ b off c, v = .slice (some ⟨b, off, none⟩) l.length c ∧ b < w.heap.size ∧ ∀ i p, l[i]? = some p → ∀ j u, (enc p)[j]? = some u → w.cell? ⟨b, off + i * size + j, none⟩ = some u := by
  obtain ⟨A, c, rfl, -, -, h3⟩ := h
  obtain ⟨b, off, rfl, hb, hc⟩ := h3 hl
  exact ⟨b, off, c, rfl, hb, hc⟩
def exSSa : Sq := ⟨exQSa, 1, [[2], [0], [0]], [1, 1, 0, 0, 1, 2, 0, 3, 4, 5, 6, 0], [[], [1], [], [], [], [], []], 1, 0, 1, 0, false, false, 0, [0], lNew 1, [workerF exQSa 0], [mutatorF [1, 0]], 0, 0⟩
theorem ex_eq : sNew exQSa = exSSa := by decide +kernel
theorem ex_zero : sNew zeroQ = zeroS := by decide +kernel
theorem ex_sm : SmS exSSa := ⟨⟨by decide, by decide⟩, by decide, ⟨by decide, by decide⟩, by decide, by decide, ⟨by intro x hx; cases List.mem_singleton.1 hx; exact (by decide : (0 : Nat) * 8 ≤ 140737488351232), by decide⟩, ⟨by intro x hx; cases List.mem_singleton.1 hx; exact ⟨(by decide : (2 : Nat) * 8 ≤ 140737488351232), (by decide : (0 : Nat) * 8 ≤ 140737488351232), (by decide : (0 : Nat) * 8 ≤ 140737488351232)⟩, by decide⟩⟩
/-- the cells that are looked at -/
def ExR (w : World) (v : Sv) : Prop := ∃ bm om cm bb ob cb b1 o1 c1 bw ow cw bu ou cu br or cr : Nat,
  hdV v.m = .slice (some ⟨bm, om, none⟩) 12 cm ∧ (w.cell? ⟨bm, om, none⟩ = some (.int .u64 1) ∧ w.cell? ⟨bm, om + 4, none⟩ = some (.int .u64 1) ∧ w.cell? ⟨bm, om + 5, none⟩ = some (.int .u64 2) ∧ w.cell? ⟨bm, om + 7, none⟩ = some (.int .u64 3) ∧ w.cell? ⟨bm, om + 11, none⟩ = some (.int .u64 0)) ∧
  hdV v.bins = .slice (some ⟨bb, ob, none⟩) 7 cb ∧ w.cell? ⟨bb, ob + 1, none⟩ = some (.slice (some ⟨b1, o1, none⟩) 1 c1) ∧ w.cell? ⟨b1, o1, none⟩ = some (.int .i64 1) ∧
  hdV v.ws = .slice (some ⟨bw, ow, none⟩) 1 cw ∧ (w.cell? ⟨bw, ow + 3, none⟩ = some (.int .i64 1) ∧ w.cell? ⟨bw, ow + 6, none⟩ = some (.int .i64 2)) ∧
  hdV v.ms = .slice (some ⟨bu, ou, none⟩) 1 cu ∧ w.cell? ⟨bu, ou + 8, none⟩ = some (.slice (some ⟨br, or, none⟩) 2 cr) ∧ w.cell? ⟨br, or, none⟩ = some (.int .i64 1)
theorem ex_open {w : World} {v : Sv} (h : StR w v exSSa) : ExR w v := by
  obtain ⟨bm, om, cm, hm, -, hmc⟩ := sl_open h.m (by decide)
  obtain ⟨vb, hb1, hb2, hb3⟩ := h.bins
  obtain ⟨bb, ob, cb, hb, -, hbc⟩ := sl_open hb1 (by rw [hb2]; decide)
  have hl1 : 1 < vb.length := by rw [hb2]; decide
  have hu := List.getElem?_eq_getElem hl1
  obtain ⟨b1, o1, c1, e1, -, h1c⟩ := sl_open (hb3 1 _ [1] hu rfl) (by decide)
  have hb4 := hbc 1 _ hu 0 _ rfl
  rw [e1] at hb4
  obtain ⟨ew, hw1, hw2, hw3⟩ := h.ws
  obtain ⟨bw, ow, cw, hw, -, hwc⟩ := sl_open hw1 (by rw [hw2]; decide)
  have hw0 : 0 < ew.length := by rw [hw2]; decide
  have hwu := List.getElem?_eq_getElem hw0
  have hwx := hw3 0 _ _ hwu rfl
  obtain ⟨eu, hu1, hu2, hu3⟩ := h.ms
  obtain ⟨bu, ou, cu, hms, -, huc⟩ := sl_open hu1 (by rw [hu2]; decide)
  have hu0 : 0 < eu.length := by rw [hu2]; decide
  have huu := List.getElem?_eq_getElem hu0
  have hux := hu3 0 _ _ huu rfl
  obtain ⟨br, or, cr, er, -, hrc⟩ := sl_open hux.2.1 (by decide)
  have hu8 := huc 0 _ huu 8 (hdV eu[0].2.1) rfl
  rw [er] at hu8
  refine ⟨bm, om, cm, bb, ob, cb, b1, o1, c1, bw, ow, cw, bu, ou, cu, br, or, cr, hm, ⟨?_, ?_, ?_, ?_, ?_⟩, ?_, ?_, ?_, ?_, ⟨?_, ?_⟩, ?_, ?_, ?_⟩
  · have := hmc 0 _ rfl 0 _ rfl; simpa using this
  · simpa using hmc 4 _ rfl 0 _ rfl
  · simpa using hmc 5 _ rfl 0 _ rfl
  · simpa using hmc 7 _ rfl 0 _ rfl
  · simpa using hmc 11 _ rfl 0 _ rfl
  · rw [hb, hb2]; rfl
  · simpa using hb4
  · simpa using h1c 0 _ rfl 0 _ rfl
  · rw [hw, hw2]; rfl
  · have := hwc 0 _ hwu 3 (.int .i64 1) (by unfold wkE; rw [hwx.1]; rfl)
    simpa using this
  · have := hwc 0 _ hwu 6 (.int .i64 2) (by unfold wkE; rw [hwx.1]; rfl)
    simpa using this
  · rw [hms, hu2]; rfl
  · have h8 : w.cell? ⟨bu, ou + 8, none⟩ = some (.slice (some ⟨br, or, none⟩) (mutatorF [1, 0]).regs.length cr) := by simpa using hu8
    exact h8
  · simpa using hrc 0 _ rfl 0 _ rfl
end Go.Proofs.YtdmbcjckgfjcaaaGreatDoor
