/- Layer heap: the document's own answer: Parse. -/
import Derived.Test.YtofobjhlpgcdaaaDoorRefHeapI
import Derived.Test.YtofobjhlpgcdaaaDoorRefHeapJ
import Derived.Test.YtofobjhlpgcdaaaDoorRefHeapE
namespace Go.Proofs.YtofobjhlpgcdaaaDoor
open Go.RowKit

theorem rCut_bar (t : ByteArray) (w : World) (ht : t.size ≤ 1048576) :
    Calls Tryd.prog 28 #[.string t, .int .u8 124] w fun e w' => ∃ v, e = .returned v ∧ w'.ownsRow w.heap.size 9 1 v (cutG 124 [] t.data.toList).length ((cutG 124 [] t.data.toList).flatMap tc) ∧ Below w.heap.size w w' := rCut_any t 124 w ht
theorem rCut_comma (q : B8) (w : World) (ht : q.length ≤ 1048576) :
    Calls Tryd.prog 28 #[.string ⟨q.toArray⟩, .int .u8 44] w fun e w' => ∃ v, e = .returned v ∧ w'.ownsRow w.heap.size 9 1 v (cutG 44 [] q).length ((cutG 44 [] q).flatMap tc) ∧ Below w.heap.size w w' := rCut_any ⟨q.toArray⟩ 44 w ht
theorem rNum_l (q : B8) (w : World) (hq : q.length ≤ 9223372036854775807) :
    Calls Tryd.prog 29 #[.string ⟨q.toArray⟩] w fun e w' => e = .returned (.int .i64 (numN q)) ∧ Below w.heap.size w w' := rNum_any ⟨q.toArray⟩ w hq
theorem pcs_at {w : World} {A : Option Addr} {n c k : Nat} {l : List B8} (h : Pcs w (.slice A n c) l) (hk : k < l.length) :
    ∃ b off, A = some ⟨b, off, none⟩ ∧ b < w.heap.size ∧ w.cell? ⟨b, off + k, none⟩ = some (.string ⟨l[k].toArray⟩) := by
  obtain ⟨A', c', e, h1, h2, h3⟩ := h
  injection e with e1 e2 e3
  subst e1
  obtain ⟨b, off, rfl, hb, hc⟩ := h3 (by omega)
  refine ⟨b, off, rfl, hb, ?_⟩
  have := hc k l[k] (List.getElem?_eq_getElem hk) 0 (.string ⟨l[k].toArray⟩) rfl
  simpa using this
theorem pcs_cell {w : World} {b off n c k : Nat} {l : List B8} (h : Pcs w (.slice (some ⟨b, off, none⟩) n c) l) (hk : k < l.length) : w.cell? ⟨b, off + k, none⟩ = some (.string ⟨l[k].toArray⟩) := by
  obtain ⟨b', off', e, -, h1⟩ := pcs_at h hk
  injection e with e; injection e with e1 e2; subst e1; subst e2
  exact h1
theorem nums_step (Q : List B8) (x : Nat) (h : x < Q.length) : ((Q.take (x + 1)).map numN).flatMap ic = ((Q.take x).map numN).flatMap ic ++ [.int .i64 (numN Q[x])] := by
  rw [List.take_succ_eq_append_getElem h, List.map_append, List.flatMap_append]; rfl

/-- what is told of a text -/
def RParse (L : B8) (w : World) (e : Ending) (w' : World) : Prop :=
  ∃ (n : Int) (R : Rws) (x : Int) (v : Value), ((heapF L = some (n, R) ∧ x = 0) ∨ (heapF L = none ∧ n = 0 ∧ R = [] ∧ x = 2)) ∧ e = .returned (.tuple #[hv n v, .int .i64 x]) ∧ Grid w' v R ∧ Below w.heap.size w w'

/-- the box of the heap that is read, as the loop goes round -/
def Bh (S : Nat) (n : Int) (v : Value) (w : World) : Prop := w.cell? ⟨S, 0, none⟩ = some (.int .i64 n) ∧ w.cell? ⟨S, 1, none⟩ = some v ∧ w.frozen? ⟨S, 0, none⟩ = false ∧ w.frozen? ⟨S, 1, none⟩ = false

set_option maxRecDepth 100000 in
set_option maxHeartbeats 8000000 in
theorem rParse_any (t : ByteArray) (w : World) (ht : t.size ≤ 1048576) :
    Calls Tryd.prog 13 #[.string t] w (RParse t.data.toList w) := by
  have htl : t.data.toList.length = t.size := by rw [Array.length_toList]; rfl
  have hread := heapF_read t.data.toList
  obtain ⟨L, hL⟩ : ∃ L, t.data.toList = L := ⟨_, rfl⟩
  rw [hL] at hread htl
  rw [hL]
  have HL := hide hL
  obtain ⟨P, hP⟩ : ∃ P, cutG 124 [] L = P := ⟨_, rfl⟩
  have hPne : 0 < P.length := by rw [← hP]; exact List.length_pos_iff.2 (cutG_ne 124 L [])
  have hPle : P.length ≤ L.length + 1 := by rw [← hP]; exact cutG_len 124 L []
  have HPS := hide (show ∀ p ∈ P, p.length ≤ 1048576 by
    intro p hp
    rw [← hP] at hp
    have := cutG_size 124 L [] p hp
    simp at this; omega)
  have hhead : headN L = numN P[0] := by unfold headN; rw [hP, List.headD_eq_head?_getD, List.head?_eq_getElem?, List.getElem?_eq_getElem hPne]; rfl
  have hrows : rowsN L = (P.drop 1).map rowN := by unfold rowsN; rw [hP]
  have HP := hide (show cutG 124 [] t.data.toList = P by rw [hL]; exact hP)
  obtain ⟨n0, hn0⟩ : ∃ n, headN L = n := ⟨_, rfl⟩
  obtain ⟨RR, hRR⟩ : ∃ R, rowsN L = R := ⟨_, rfl⟩
  rw [hn0, hRR] at hread
  rw [hn0] at hhead
  rw [hRR] at hrows
  have hRl : RR.length + 1 = P.length := by rw [hrows, List.length_map, List.length_drop]; omega
  have HREAD := hide hread
  have HHEAD := hide hhead
  have HROWS := hide hrows
  have HTL := hide htl
  have hPb : P.length ≤ 1048577 := by omega
  have HRl := hide hRl
  clear hL hread hP hhead hrows hn0 hRR htl hRl
  obtain ⟨w1, e1, hb1, hlt1, -, r0, r1⟩ := box1 w (.int .i64 0) (.slice none 0 0) 26
  have z0 : w1.frozen? ⟨w.heap.size, 0, none⟩ = false := by rw [← e1]; exact frozen_of_row _ _ 0 #[.int .i64 0, .slice none 0 0] _ (heap_alloc_new w _)
  have z1 : w1.frozen? ⟨w.heap.size, 1, none⟩ = false := by rw [← e1]; exact frozen_of_row _ _ 1 #[.int .i64 0, .slice none 0 0] _ (heap_alloc_new w _)
  have HE1 := hide e1
  clear e1
  go_enter Tryd.func13, Tryd.ntmps13
  go_wp2_with fail
  rw [HE1.out]
  (with_reducible refine (rCut_bar t w1 ht).mono ?_)
  rintro e w2 ⟨v, rfl, hown, hb2⟩
  rw [HP.out] at hown
  have HC2 := hide (show Pcs w2 v P from Sl.of_own tc_len hown)
  obtain ⟨A, c, rfl, hc1, hc2⟩ := own_form hown
  unfold maxLen at hc2
  obtain ⟨b0, o0, rfl, -, p0⟩ := pcs_at HC2.out hPne
  rw [Nat.add_zero] at p0
  have hp0 := HPS.out P[0] (List.getElem_mem hPne)
  have HNM := hide (rNum_l P[0] w2 (by omega))
  rw [HHEAD.out.symm] at HNM
  generalize P[0] = q0 at *
  clear hown
  go_wp2_with fail
  (with_reducible refine HNM.out.mono ?_)
  rintro e w3 ⟨rfl, hb3⟩
  have hb23 := bcall hb2 hb3
  have hs3 := hb23.size
  have r0 := keepc hb23 r0
  have r1 := keepc hb23 r1
  have z0 := keepf hb23 (show w1.cell? ⟨w.heap.size, 0, none⟩ = some (.int .i64 0) from by rw [← HE1.out]; exact row_new w [.int .i64 0, .slice none 0 0] _ 0 _ rfl) z0
  have z1 := keepf hb23 (show w1.cell? ⟨w.heap.size, 1, none⟩ = some (.slice none 0 0) from by rw [← HE1.out]; exact row_new w [.int .i64 0, .slice none 0 0] _ 1 _ rfl) z1
  have HC3 := hide (HC2.out.below hb3)
  have hB3 := bcall hb1 hb23
  obtain ⟨w4, e4, hb4, hlt4, -, u0, u1⟩ := box1 w3 (.int .i64 n0) (.slice none 0 0) 26
  have y0 : w4.frozen? ⟨w3.heap.size, 0, none⟩ = false := by rw [← e4]; exact frozen_of_row _ _ 0 #[.int .i64 n0, .slice none 0 0] _ (heap_alloc_new w3 _)
  have y1 : w4.frozen? ⟨w3.heap.size, 1, none⟩ = false := by rw [← e4]; exact frozen_of_row _ _ 1 #[.int .i64 n0, .slice none 0 0] _ (heap_alloc_new w3 _)
  have hs4 : w4.heap.size = w3.heap.size + 1 := by rw [← e4]; simp
  have HE4 := hide e4
  have HB4 := hide (show Bh w3.heap.size n0 (.slice none 0 0) w4 from ⟨u0, u1, y0, y1⟩)
  have HS4 := hide (show w3.heap.size + 1 ≤ w4.heap.size by omega)
  have hw3 : w.heap.size < w3.heap.size := by omega
  clear e4 u0 u1 y0 y1 hs4 p0 HNM HC2 HP
  go_wp2_with fail
  rw [HE4.out]
  go_loopw [6] (fun i wr => ∃ (k : Nat) (A' : Option Addr) (c' : Nat), k + 1 ≤ P.length ∧ i = .int .i64 ((k : Int) + 1) ∧ k ≤ c' ∧ c' ≤ 9223372036854775807 ∧ Hid (Bh w3.heap.size n0 (.slice A' k c') wr) ∧ Hid (∃ vs, OwnGrid 53 3 (w3.heap.size + 1) wr (.slice A' k c') vs (RR.take k)) ∧ Hid (Below w3.heap.size w3 wr) ∧ Hid (w3.heap.size + 1 ≤ wr.heap.size)) (fun i _ => P.length - (Go.RowKit.intOf i).toNat)
  case atStart =>
    exact ⟨0, none, 0, hPne, rfl, Nat.le_refl _, by omega, HB4, hide ⟨[], World.ownsRow_nil _ _ _ _, rfl, by simp, by simp, by simp⟩, hide hb4, HS4⟩
  case round =>
    obtain ⟨k, A', c', hk, rfl, hc1', hc2', HX, HV, HBW, HSZ⟩ := hrel
    by_cases hlt : k + 1 < P.length
    · obtain ⟨x0, x1, x2, x3⟩ := HX.out
      have hRk : k < RR.length := by have := HRl.out; omega
      have p1 := pcs_cell (HC3.out.below HBW.out) hlt
      have hrow : RR[k] = rowN P[k + 1] := by
        have h := HROWS.out
        subst h
        simp
      have hq1 := HPS.out P[k + 1] (List.getElem_mem hlt)
      obtain ⟨l, hl⟩ : ∃ l, RR[k] = l := ⟨_, rfl⟩
      have HT := hide (show RR.take (k + 1) = RR.take k ++ [l] by rw [List.take_succ_eq_append_getElem hRk, hl])
      rw [hl] at hrow
      clear hl
      generalize P[k + 1] = q1 at *
      obtain ⟨Q, hQ⟩ : ∃ Q, cutG 44 [] q1 = Q := ⟨_, rfl⟩
      have HQ := hide hQ
      have hQl : Q.length ≤ 1048577 := by rw [← hQ]; have := cutG_len 44 q1 []; omega
      have HQS := hide (show ∀ p ∈ Q, p.length ≤ 1048576 by
        intro p hp
        rw [← hQ] at hp
        have := cutG_size 44 q1 [] p hp
        simp at this; omega)
      have HLQ := hide (show l = Q.map numN by rw [hrow, ← hQ]; rfl)
      clear hrow hQ
      have hsz := HSZ.out
      go_wp2_with fail
      (with_reducible refine (rCut_comma q1 _ hq1).mono ?_)
      rintro e w5 ⟨v5, rfl, hown5, hb5⟩
      rw [HQ.out] at hown5
      have HC5 := hide (show Pcs w5 v5 Q from Sl.of_own tc_len hown5)
      obtain ⟨A5, c5, rfl, hd1, hd2⟩ := own_form hown5
      unfold maxLen at hd2
      have hs5 := hb5.size
      clear hown5
      obtain ⟨j0, hj, jz0, jz1, jz2⟩ := info_parts infoInt
      go_wp2
      go_loopw [8, 9] (fun lv j wr2 => ∃ x : Nat, x ≤ Q.length ∧ j = .int .i64 x ∧ Hid (wr2.ownsRow w5.heap.size 3 1 lv x (((Q.take x).map numN).flatMap ic)) ∧ Hid (Below w5.heap.size w5 wr2)) (fun _ j _ => Q.length - (Go.RowKit.intOf j).toNat)
      case atStart => exact ⟨0, Nat.zero_le _, rfl, hide (World.ownsRow_nil _ _ _ _), hide (Below.refl _ _)⟩
      case round =>
        obtain ⟨x, hx, rfl, HR, HBI⟩ := hrel
        have hsi := HBI.out.size
        by_cases hxl : x < Q.length
        · obtain ⟨b5, o5, rfl, -, p5⟩ := pcs_at (HC5.out.below HBI.out) hxl
          have HST := hide (nums_step Q x hxl)
          have hqs := HQS.out Q[x] (List.getElem_mem hxl)
          generalize Q[x] = q5 at *
          go_wp2_with fail
          (with_reducible refine (rNum_l q5 _ (by omega)).mono ?_)
          rintro e w6 ⟨rfl, hb6⟩
          have hs6 := hb6.size
          have HR6 := hide (own_below HR.out hb6)
          generalize numN q5 = y5 at *
          go_wp2_with (at_builtin; refine wpList_append_own _ rfl _ _ 53 rfl w5.heap.size 3 j0 (.int .i64 0) 1 8 Tryd.underlying53 hj jz0 jz1 jz2 rfl (by decide) _ _ _ rfl (HR6.out.alloc _) ⟨_, 0, none⟩ 1 1 [.int .i64 y5] rfl rfl (row_at _ _ _ (by simp)) (by simp [Value.oneCell']) (by simp only [maxLen]; omega) (by omega) (by simp; omega) ?_; intro v7 w7 hown7 hgrow7 _)
          go_roundw
          case rel => exact ⟨x + 1, by omega, by go_num, hide (by rw [HST.out]; exact hown7), hide (((HBI.out.trans (hb6.mono hsi)).alloc (by omega) _).grown hgrow7 (by simp; omega) (own_ge HR6.out))⟩
          case measure => simp [Go.RowKit.intOf]; omega
        · have hR := HR.out
          rw [List.take_of_length_le (show Q.length ≤ x by omega), ← HLQ.out] at hR
          have hxQ : x = l.length := by have := congrArg List.length HLQ.out; simp at this; omega
          rw [hxQ] at hR
          obtain ⟨B, d, rfl, hd3, hd4⟩ := own_form hR
          unfold maxLen at hd4
          have hb52 := bcall hb5 HBI.out
          have HU := hide hR
          have x2 := keepf hb52 x0 x2
          have x3 := keepf hb52 x1 x3
          have x0 := keepc hb52 x0
          have x1 := keepc hb52 x1
          obtain ⟨vs, hO⟩ := HV.out
          have hvl : vs.length = k := by have := hO.len; rw [List.length_take, Nat.min_eq_left (by omega)] at this; exact this
          have HOLD := hide (show ∀ (i : Nat) (u' : Value) (g : Nat), vs[i]? = some u' → u'.ownBlock = some g → g < w5.heap.size from fun i u' g hi hg => by
            have hil : i < (RR.take k).length := by rw [← hO.len]; exact (List.getElem?_eq_some_iff.1 hi).1
            have := ((hO.rows i u' _ hi (List.getElem?_eq_getElem hil)).lt g hg).2
            omega)
          have HO2 := hide (hO.below hb52)
          have HTOP := hide (show wr.ownsRow (w3.heap.size + 1) 53 1 (.slice A' k c') k vs by have := HO2.out.top; rwa [hvl] at this)
          have HVL := hide hvl
          have VB := hide (show ∀ b, (Value.slice A' k c').ownBlock = some b → w3.heap.size + 1 ≤ b from fun b hb => (HTOP.out.lt b hb).1)
          have hne : (Value.slice A' k c').ownBlock ≠ some w3.heap.size := fun h => by have := VB.out _ h; omega
          have KX := hide (show ∀ (o : Obj) (W : World), (wr.alloc o).grownBy W (Value.slice A' k c').ownBlock → Bh w3.heap.size n0 (.slice A' k c') W from fun o W hg =>
            ⟨keepg hg (keepc (bal _ _) x0) hne, keepg hg (keepc (bal _ _) x1) hne, keepgf hg (keepc (bal _ _) x0) (keepf (bal _ _) x0 x2) hne, keepgf hg (keepc (bal _ _) x1) (keepf (bal _ _) x1 x3) hne⟩)
          have hBall := hide (HBW.out.trans (hb52.mono (by omega)))
          obtain ⟨i0, hi, hz0, hz1, hz2⟩ := info_parts infoRow
          clear hR hO hvl hne hx hxQ
          have x1a : ∀ o, (wr.alloc o).cell? ⟨w3.heap.size, 1, none⟩ = some (.slice A' k c') := fun o => keepc (bal _ _) x1
          go_wp2_with (at_builtin; refine wpList_append_own _ rfl _ _ 22 rfl (w3.heap.size + 1) 53 i0 (.slice none 0 0) 1 24 Tryd.underlying22 hi hz0 hz1 hz2 rfl (by decide) _ k vs rfl (HTOP.out.alloc _) ⟨_, 0, none⟩ 1 1 [.slice B l.length d] rfl rfl (row_at _ _ _ (by simp)) (by simp [Value.oneCell']) (by simp only [maxLen]; omega) (by omega) (by simp; omega) ?_; intro v7 w7 hown7 hgrow7 _; obtain ⟨A7, c7, rfl, hc7, hm7⟩ := own_form hown7; obtain ⟨g0, g1, g2, g3⟩ := KX.out _ _ hgrow7)
          have hs7 := hgrow7.size
          unfold maxLen at hm7
          have hG := OwnGrid.snoc (H := w5.heap.size) (l := l) (HO2.out.alloc _) (by decide) (by omega) HOLD.out (HU.out.alloc _) (by rw [HVL.out]; exact hown7) hgrow7
          rw [← HT.out] at hG
          have hB7 := (hBall.out.alloc (by omega) _).grown hgrow7 (by simp; omega) (fun b e => by have := VB.out b e; omega)
          go_roundw
          case rel =>
            refine ⟨k + 1, A7, c7, by omega, by go_num, by omega, by omega, hide ⟨by simp [go_sem, g0], by simp [go_sem, g1], by simp [go_sem, g2], by simp [go_sem, g3]⟩, hide ⟨_, hG.setCell_below (by simp) _⟩, hide (hB7.setCell (by simp) _), hide (by simp at hs7 ⊢; omega)⟩
          case measure => simp [Go.RowKit.intOf]; omega
    · obtain ⟨x0, x1, x2, x3⟩ := HX.out
      obtain rfl : k = RR.length := by have := HRl.out; omega
      obtain ⟨vs, hO⟩ := HV.out
      rw [List.take_of_length_le (Nat.le_refl _)] at hO
      have HG := hide hO.grid
      have hO8 := hO
      have z0 := keepf HBW.out r0 z0
      have z1 := keepf HBW.out r1 z1
      have r0 := keepc HBW.out r0
      have r1 := keepc HBW.out r1
      clear hO
      have HOO := hide hO8
      clear hO8
      go_wp2_with fail
      (with_reducible refine (rText_any n0 _ RR _ HG.out).mono ?_)
      rintro e w8 ⟨rfl, hb8⟩
      have z0 := keepf hb8 r0 z0
      have z1 := keepf hb8 r1 z1
      have r0 := keepc hb8 r0
      have r1 := keepc hb8 r1
      have x0 := keepc hb8 x0
      have x1 := keepc hb8 x1
      have hB8 := hide (bcall hB3 (bcall HBW.out hb8))
      have HO8 := hide (HOO.out.below hb8)
      by_cases heq : textF n0 RR = L
      · have hte : (⟨(textF n0 RR).toArray⟩ : ByteArray) = t := by rw [heq, ← HL.out]
        rw [hte]
        by_cases hqm : L = [63]
        · have hno := hide (HREAD.out.trans (if_neg (fun h => h.2 hqm)))
          have hq : (t.toList == [63]) = true := by rw [beq_iff_eq, ByteArray.toList_eq, HL.out]; exact hqm
          clear heq hte
          go_wp2
          refine bodyPost_ret (v := .tuple #[hv 0 (.slice none 0 0), .int .i64 2]) (by simp [results, Tryd.results13, go_sem, r0, r1]) rfl ⟨0, [], 2, .slice none 0 0, .inr ⟨hno.out, rfl, rfl, rfl⟩, rfl, Grid.nil_, ?_⟩
          exact (hB8.out.setCell (by simp) _).setCell (by simp) _
        · have hyes := hide (HREAD.out.trans (if_pos ⟨heq, hqm⟩))
          have hq : (t.toList == [63]) = false := by rw [beq_eq_false_iff_ne, ByteArray.toList_eq, HL.out]; exact hqm
          clear heq hte
          go_wp2
          refine bodyPost_ret (v := .tuple #[hv n0 (.slice A' RR.length c'), .int .i64 0]) (by simp [results, Tryd.results13, go_sem, r0, r1]) rfl ⟨n0, RR, 0, .slice A' RR.length c', .inl ⟨hyes.out, rfl⟩, rfl, ?_, ?_⟩
          · exact ((HO8.out.setCell_below (by simp; omega) _).setCell_below (by simp; omega) _).grid
          · exact (hB8.out.setCell (by simp) _).setCell (by simp) _
      · have hno := hide (HREAD.out.trans (if_neg (fun h => heq h.1)))
        obtain ⟨T, hT⟩ : ∃ T : ByteArray, (⟨(textF n0 RR).toArray⟩ : ByteArray) = T := ⟨_, rfl⟩
        have hne : (T.toList == t.toList) = false := by rw [beq_eq_false_iff_ne, ← hT, ByteArray.toList_eq, ByteArray.toList_eq, HL.out]; simpa using heq
        rw [hT]
        clear heq hT
        go_wp2
        refine bodyPost_ret (v := .tuple #[hv 0 (.slice none 0 0), .int .i64 2]) (by simp [results, Tryd.results13, go_sem, r0, r1]) rfl ⟨0, [], 2, .slice none 0 0, .inr ⟨hno.out, rfl, rfl, rfl⟩, rfl, Grid.nil_, ?_⟩
        exact (hB8.out.setCell (by simp) _).setCell (by simp) _
end Go.Proofs.YtofobjhlpgcdaaaDoor
