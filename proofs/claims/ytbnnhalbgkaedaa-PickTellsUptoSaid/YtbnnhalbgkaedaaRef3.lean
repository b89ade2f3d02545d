/- Layer pick: the document's own answer: Known, Fair, Round; samePicks. -/
import Derived.Test.YtbnnhalbgkaedaaRef2
namespace Go.Proofs.Ytbnnhalbgkaedaa
open Go.RowKit

set_option maxRecDepth 100000 in
set_option maxHeartbeats 4000000 in
theorem rKnown_any (v : Value) (l : List PP) (n m : Int) (w : World) (hl : Picks w v l) :
    Calls Try.prog 20 #[v, .int .i64 n, .int .i64 m] w fun e w' => e = .returned (.bool (l.all fun p => there p n m)) ∧ Below w.heap.size w w' := by
  have hlen := hl.len
  have hl' := hl
  obtain ⟨A, c, rfl, h1, h2, -⟩ := hl'
  unfold maxLen at h2 hlen
  have HL := hide hl
  clear hl
  go_enter Try.func20, Try.ntmps20
  go_wp2
  go_loopw [7] (fun i wr => ∃ k : Nat, k ≤ l.length ∧ i = .int .i64 k ∧ Below w.heap.size w wr ∧ Hid ((l.take k).all (fun p => there p n m) = true)) (fun i _ => l.length - (intOf i).toNat)
  case atStart => exact ⟨0, Nat.zero_le _, rfl, Below.refl _ _, hide (by simp)⟩
  case round =>
    obtain ⟨k, hk, rfl, hb, HALL⟩ := hrel
    by_cases hlt : k < l.length
    · obtain ⟨b, off, rfl, hbl, c0, c1⟩ := picks_at (HL.out.below hb) hlt
      have hsn : ∀ t, there (l[k].1, l[k].2) n m = t → (l.take (k + 1)).all (fun p => there p n m) = t := by
        rintro t rfl
        rw [List.take_succ_eq_append_getElem hlt, List.all_append, HALL.out]; simp
      have hno : there (l[k].1, l[k].2) n m = false → l.all (fun p => there p n m) = false := fun h => List.all_eq_false.2 ⟨l[k], List.getElem_mem hlt, by simpa using h⟩
      have HS := hide hsn
      have HNO := hide hno
      clear hsn hno
      have hth : there (l[k].1, l[k].2) n m = (right (l[k].1, l[k].2) && ((l[k].1 != 1 || decide (l[k].2 ≤ n)) && (l[k].1 != 2 || decide (l[k].2 ≤ m)))) := by unfold there; rw [Bool.and_assoc]
      have HTH := hide hth
      clear hth
      cases hR : right (l[k].1, l[k].2)
      · have HF := hide (HNO.out (by rw [HTH.out, hR]; rfl))
        have HR := hide hR
        clear hR
        go_wp2_with fail
        (with_reducible refine (rRight_any _ _ _).mono ?_)
        rintro e w2 ⟨rfl, hb2⟩
        rw [HR.out]
        go_wp2
        go_ret
        exact ⟨ret_bool HF.out.symm, bcall hb hb2⟩
      · have HR := hide hR
        have hHL := hide (fun w2 (h : Below wr.heap.size wr w2) => picks_cells (HL.out.below (bcall hb h)) hlt)
        clear hR
        by_cases a1 : l[k].1 = 1
        · have q1 : (l[k].1 == 1) = true := by simpa using a1
          have q2 : (l[k].1 == 2) = false := by rw [a1]; rfl
          by_cases a2 : l[k].2 ≤ n
          · have HK := hide (HS.out true (by rw [HTH.out, HR.out, a1]; simp [a2]))
            clear a1
            go_wp2_with fail
            (with_reducible refine (rRight_any _ _ _).mono ?_)
            rintro e w2 ⟨rfl, hb2⟩
            rw [HR.out]
            obtain ⟨d0, d1⟩ := hHL.out w2 hb2
            go_wp2
            go_roundw
            case rel => exact ⟨k + 1, by omega, by go_num, bcall hb hb2, HK⟩
            case measure => simp [intOf]; omega
          · have HF := hide (HNO.out (by rw [HTH.out, HR.out, a1]; simp [a2]))
            clear a1
            go_wp2_with fail
            (with_reducible refine (rRight_any _ _ _).mono ?_)
            rintro e w2 ⟨rfl, hb2⟩
            rw [HR.out]
            obtain ⟨d0, d1⟩ := hHL.out w2 hb2
            go_wp2
            go_ret
            exact ⟨ret_bool HF.out.symm, bcall hb hb2⟩
        · have q1 : (l[k].1 == 1) = false := by simpa using a1
          by_cases b1 : l[k].1 = 2
          · have q2 : (l[k].1 == 2) = true := by simpa using b1
            by_cases b2 : l[k].2 ≤ m
            · have HK := hide (HS.out true (by rw [HTH.out, HR.out, b1]; simp [b2]))
              clear a1 b1
              go_wp2_with fail
              (with_reducible refine (rRight_any _ _ _).mono ?_)
              rintro e w2 ⟨rfl, hb2⟩
              rw [HR.out]
              obtain ⟨d0, d1⟩ := hHL.out w2 hb2
              go_wp2
              go_roundw
              case rel => exact ⟨k + 1, by omega, by go_num, bcall hb hb2, HK⟩
              case measure => simp [intOf]; omega
            · have HF := hide (HNO.out (by rw [HTH.out, HR.out, b1]; simp [b2]))
              clear a1 b1
              go_wp2_with fail
              (with_reducible refine (rRight_any _ _ _).mono ?_)
              rintro e w2 ⟨rfl, hb2⟩
              rw [HR.out]
              obtain ⟨d0, d1⟩ := hHL.out w2 hb2
              go_wp2
              go_ret
              exact ⟨ret_bool HF.out.symm, bcall hb hb2⟩
          · have q2 : (l[k].1 == 2) = false := by simpa using b1
            have HK := hide (HS.out true (by rw [HTH.out, HR.out]; simp [a1, b1]))
            clear a1 b1
            go_wp2_with fail
            (with_reducible refine (rRight_any _ _ _).mono ?_)
            rintro e w2 ⟨rfl, hb2⟩
            rw [HR.out]
            obtain ⟨d0, d1⟩ := hHL.out w2 hb2
            go_wp2
            go_roundw
            case rel => exact ⟨k + 1, by omega, by go_num, bcall hb hb2, HK⟩
            case measure => simp [intOf]; omega
    · have HF := hide (show l.all (fun p => there p n m) = true by have := HALL.out; rwa [List.take_of_length_le (by omega)] at this)
      go_wp2
      go_ret
      exact ⟨ret_bool HF.out.symm, hb⟩
end Go.Proofs.Ytbnnhalbgkaedaa
