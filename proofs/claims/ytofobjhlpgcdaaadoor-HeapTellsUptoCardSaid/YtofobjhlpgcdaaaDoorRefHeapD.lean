/- Layer heap: the document's own answer: Text. -/
import Derived.Test.YtofobjhlpgcdaaaDoorRefHeapB
import Derived.Test.YtofobjhlpgcdaaaDoorHeapText
import Derived.Test.YtofobjhlpgcdaaaDoorDig
namespace Go.Proofs.YtofobjhlpgcdaaaDoor
open Go.RowKit Go.Shelf Go.Proofs

/-- of a row the first j slots, as the document writes them -/
def rowP (r : List Int) (j : Nat) : B8 := if j = 0 then [124] else slotsT 0 (r.take j)
theorem rowP_one (r : List Int) (h : 0 < r.length) : rowP r 1 = rowP r 0 ++ dec r[0] := by
  cases r with
  | nil => simp at h
  | cons x r => simp [rowP, slotsT, aheadF]
theorem rowP_more (r : List Int) (j : Nat) (h : j < r.length) (h0 : j ≠ 0) : rowP r (j + 1) = rowP r j ++ 44 :: dec r[j] := by
  unfold rowP
  rw [if_neg (by omega), if_neg h0, List.take_succ_eq_append_getElem h, slotsT_snoc, List.length_take]
  congr 2
  unfold aheadF
  rw [if_neg (by omega)]
theorem rowP_end (r : List Int) (j : Nat) (h : r.length ≤ j) (h0 : r ≠ []) : rowP r j = slotsT 0 r := by
  unfold rowP
  rw [if_neg (by rintro rfl; exact h0 (List.eq_nil_of_length_eq_zero (by omega))), List.take_of_length_le h]
theorem rowP_len (r : List Int) (j : Nat) (h : ∀ v ∈ r, 0 ≤ v ∧ v ≤ 64) (h4 : r.length ≤ 4) : (rowP r j).length ≤ 12 := by
  unfold rowP
  split
  · simp
  · have h1 := slotsT_len (r.take j) 0 fun v hv => h v (List.mem_of_mem_take hv)
    rw [List.length_take] at h1
    omega
/-- of a heap the first k objects, as the document writes them -/
def headP (n : Int) (ls : Rws) (k : Nat) : B8 := dec n ++ (ls.take k).flatMap (slotsT 0)
theorem headP_more (n : Int) (ls : Rws) (k : Nat) (h : k < ls.length) : headP n ls (k + 1) = headP n ls k ++ slotsT 0 ls[k] := by
  unfold headP
  rw [List.take_succ_eq_append_getElem h, List.flatMap_append, List.append_assoc]; simp
theorem headP_len {n : Int} {ls : Rws} (hR : rightF n ls = true) (k : Nat) : (headP n ls k).length ≤ 800 := by
  have hr := right_len hR
  have h1 := rows_len (ls.take k) fun l hl => by
    have := right_rows hR l (List.mem_of_mem_take hl)
    exact ⟨by omega, fun v hv => by have := this.2 v hv; omega⟩
  have h2 := dec_len (v := n) (by omega) (by omega)
  unfold headP
  rw [List.length_append]
  rw [List.length_take] at h1
  omega
theorem rDigits_c (n : Int) (w : World) (h0 : 0 ≤ n) (h1 : n ≤ 9223372036854775807) :
    Calls Tryd.prog 37 #[.int .u64 n] w fun e w' => e = .returned (.string ⟨(dec n).toArray⟩) ∧ Below w.heap.size w w' := by
  obtain ⟨N, rfl⟩ : ∃ N : Nat, n = N := ⟨n.toNat, by omega⟩
  have := rDigits_all N w (by omega)
  unfold dec
  rw [Int.toNat_natCast]; exact this
set_option maxRecDepth 100000 in
set_option maxHeartbeats 4000000 in
theorem rText_any (n : Int) (v : Value) (ls : Rws) (w : World) (h : Grid w v ls) :
    Calls Tryd.prog 20 #[hv n v] w fun e w' => e = .returned (.string ⟨(textF n ls).toArray⟩) ∧ Below w.heap.size w w' := by
  have HG := hide h
  obtain ⟨A, c, rfl, h1, h2⟩ := h.form
  unfold maxLen at h2
  clear h
  obtain ⟨w1, ew, hB1, hlt1, hold, k0, k1⟩ := box1 w (.int .i64 n) (.slice A ls.length c) 26
  have HE := hide ew
  have HG1 := hide (HG.out.below hB1)
  clear ew
  go_enter Tryd.func20, Tryd.ntmps20
  go_wp2_with fail
  rw [HE.out]
  (with_reducible refine (rRight_any _ _ ls _ HG1.out).mono ?_)
  rintro e w2 ⟨rfl, hb2⟩
  have x0 := keepc hb2 k0
  have x1 := keepc hb2 k1
  have hb02 := bcall hB1 hb2
  by_cases hR : rightF n ls = true
  · rw [hR]
    obtain ⟨r1, r2, r3⟩ := right_len hR
    have HRT := hide hR
    have HTX := hide (show textF n ls = headP n ls ls.length by unfold textF headP; rw [if_pos hR, List.take_length])
    clear hR
    go_wp2_with fail
    (with_reducible refine (rDigits_c n _ (by omega) (by omega)).mono ?_)
    rintro e w3 ⟨rfl, hb3⟩
    have x0 := keepc hb3 x0
    have x1 := keepc hb3 x1
    have hb03 := bcall hb02 hb3
    go_wp2_with fail
    go_loopw [3, 4] (fun t i wi => ∃ k : Nat, k ≤ ls.length ∧ i = .int .i64 k ∧ t = .string ⟨(headP n ls k).toArray⟩ ∧ Below w3.heap.size w3 wi) (fun _ i _ => ls.length - (Go.RowKit.intOf i).toNat)
    case atStart => exact ⟨0, Nat.zero_le _, rfl, by simp [headP], Below.refl _ _⟩
    case round =>
      obtain ⟨k, hk, rfl, rfl, hb⟩ := hrel
      have x0 := keepc hb x0
      have x1 := keepc hb x1
      have hbw := bcall hb03 hb
      by_cases hlt : k < ls.length
      · obtain ⟨gb, goff, uu, rfl, -, hgc, hgi⟩ := grid_at (HG.out.below hbw) hlt
        have hrr := right_rows HRT.out ls[k] (List.getElem_mem hlt)
        have HM := hide (headP_more n ls k hlt)
        have hpl := headP_len HRT.out k
        obtain ⟨row, hrw⟩ : ∃ row, ls[k] = row := ⟨_, rfl⟩
        rw [hrw] at hgi hrr HM
        obtain ⟨P, hP⟩ : ∃ P, headP n ls k = P := ⟨_, rfl⟩
        rw [hP] at HM hpl
        rw [hP]
        have HI := hide hgi
        have HV := hide hrr.2
        obtain ⟨Ar, cr, rfl, hr3, hr4, -⟩ := id hgi
        unfold maxLen at hr4
        have hrl := hrr.1
        clear hrw hP hgi hrr
        go_wp2_with fail
        obtain ⟨M, hM⟩ : ∃ M, row.length = M := ⟨_, rfl⟩
        rw [hM] at hr3 hrl hgc HI
        have HMl := hide hM
        clear hM
        go_loopw [3, 5] (fun t i wi => ∃ j : Nat, j ≤ M ∧ i = .int .i64 j ∧ t = .string ⟨(P ++ rowP row j).toArray⟩ ∧ Below wr.heap.size wr wi) (fun _ i _ => M - (Go.RowKit.intOf i).toNat)
        case atStart => exact ⟨0, Nat.zero_le _, rfl, by rw [← ba_append]; rfl, Below.refl _ _⟩
        case round =>
          obtain ⟨j, hj, rfl, rfl, hbj⟩ := hrel
          have x0 := keepc hbj x0
          have x1 := keepc hbj x1
          have xg := keepc hbj hgc
          by_cases hlj : j < M
          · have hjl : j < row.length := by rw [HMl.out]; exact hlj
            obtain ⟨b2, o2, rfl, -, hx⟩ := ints_at (HI.out.below hbj) hjl
            have hxv := HV.out row[j] (List.getElem_mem hjl)
            have hq1 := rowP_one row (by omega)
            have hq2 := rowP_more row j hjl
            have hql := rowP_len row j (fun v hv => by have := HV.out v hv; omega) (by rw [HMl.out]; omega)
            have hQl : (P ++ rowP row j).length ≤ 812 := by rw [List.length_append]; omega
            have hQ1 : j = 0 → P ++ rowP row (j + 1) = (P ++ rowP row j) ++ dec row[j] := fun h => by
              subst h; rw [hq1, List.append_assoc]
            have hQ2 : j ≠ 0 → P ++ rowP row (j + 1) = ((P ++ rowP row j) ++ [44]) ++ dec row[j] := fun h => by
              rw [hq2 h]; simp
            obtain ⟨x, hxx⟩ : ∃ x, row[j] = x := ⟨_, rfl⟩
            rw [hxx] at hx hxv hQ1 hQ2
            have hdl := dec_len (v := x) (by omega) (by omega)
            obtain ⟨Q, hQ⟩ : ∃ Q, P ++ rowP row j = Q := ⟨_, rfl⟩
            rw [hQ] at hQl hQ1 hQ2
            rw [hQ]
            have HQ1 := hide hQ1
            have HQ2 := hide hQ2
            clear hq1 hq2 hql hQ1 hQ2 hxx hQ hjl
            by_cases hj0 : j = 0
            · have HK := hide (HQ1.out hj0)
              have q1 : ¬ 0 < j := by omega
              clear hj0
              go_wp2_with fail
              (with_reducible refine (rDigits_c x _ (by omega) (by omega)).mono ?_)
              rintro e w8 ⟨rfl, hb8⟩
              go_wp2
              go_roundw
              case rel => exact ⟨j + 1, by omega, by go_num, by rw [HK.out, ← ba_append], bcall hbj hb8⟩
              case measure => simp [Go.RowKit.intOf]; omega
            · have HK := hide (HQ2.out hj0)
              have q1 : 0 < j := by omega
              clear hj0
              go_wp2_with fail
              (with_reducible refine (rDigits_c x _ (by omega) (by omega)).mono ?_)
              rintro e w8 ⟨rfl, hb8⟩
              go_wp2
              go_roundw
              case rel => exact ⟨j + 1, by omega, by go_num, by rw [HK.out, ← ba_append, ← ba_append], bcall hbj hb8⟩
              case measure => simp [Go.RowKit.intOf]; omega
          · have HK := hide (show P ++ rowP row j = headP n ls (k + 1) by
              rw [HM.out, rowP_end row j (by rw [HMl.out]; omega) (by intro h; have := HMl.out; rw [h] at this; simp at this; omega)])
            rw [HK.out]
            go_wp2
            go_roundw
            case rel => exact ⟨k + 1, by omega, by go_num, rfl, bcall hb hbj⟩
            case measure => simp [Go.RowKit.intOf]; omega
      · have HK := hide (show headP n ls k = textF n ls by rw [HTX.out, show k = ls.length by omega])
        rw [HK.out]
        go_wp2
        go_ret
        exact ⟨rfl, hbw⟩
  · have hF : rightF n ls = false := by simpa using hR
    have HTX := hide (show textF n ls = [63] by unfold textF; rw [hF]; rfl)
    rw [hF]
    clear hR hF
    go_wp2
    go_ret
    exact ⟨by rw [HTX.out]; rfl, hb02⟩
end Go.Proofs.YtofobjhlpgcdaaaDoor
