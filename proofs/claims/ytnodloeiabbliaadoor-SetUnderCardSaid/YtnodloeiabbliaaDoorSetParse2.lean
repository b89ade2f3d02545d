/- Layer set: numbers, Parse. -/
import Derived.Test.YtnodloeiabbliaaDoorSetParse
namespace Go.Proofs.YtnodloeiabbliaaDoor
open Go.RowKit Go.Shelf Go.Proofs

theorem numsB_snoc (P : List ByteArray) (k : Nat) (h : k < P.length) : numsB (P.take (k + 1)) = numsB (P.take k) ++ [atoi0 (P[k]).data.toList] := by
  unfold numsB; rw [List.take_succ_eq_append_getElem h, List.map_append]; rfl
theorem numsB_len (P : List ByteArray) (k : Nat) (h : k ≤ P.length) : (numsB (P.take k)).length = k := by
  simp [numsB]; omega
set_option maxHeartbeats 4000000 in
theorem numbers_any (t : ByteArray) (w : World) (ht : t.size < 4294967281) (hE : Env w) :
    Calls Tryd.prog 31 #[.string t] w fun e w' => ∃ v, e = .returned v ∧ w'.ownsRow w.heap.size 3 1 v (numsF t.data.toList).length ((numsF t.data.toList).flatMap ic) ∧ Below w.heap.size w w' := by
  obtain ⟨i0, hi, hz0, hz1, hz2⟩ := info_parts info3
  have hSp := hide (Split_any t w ht hE)
  obtain ⟨P, hP⟩ : ∃ P, pieces t = P := ⟨_, rfl⟩
  rw [hP] at hSp
  have hnum : numsB P = numsF t.data.toList := by rw [← hP]; exact nums_pieces t
  have hPl : P.length ≤ t.size + 1 := by rw [← hP, pieces_len]; have := Go.Lib.countB_le ⟨#[44]⟩ (by decide) t.size t (Nat.le_refl _); omega
  have hsz : ∀ p ∈ P, p.size ≤ t.size := fun p hp => piece_size (by rw [hP]; exact hp)
  have HN := hide hnum
  have HZ := hide hsz
  have HE := hide hE
  clear hP hnum hsz hE
  go_enter Tryd.func31, Tryd.ntmps31
  go_wp2_with fail
  refine hSp.out.mono ?_
  rintro e w1 ⟨rfl, hw1⟩
  have hb1 : Below w.heap.size w w1 := by rw [hw1]; exact (Below.refl _ _).alloc (Nat.le_refl _) _
  have hs1 : w1.heap.size = w.heap.size + 1 := by rw [hw1]; simp
  have hc1 : ∀ k, (h : k < P.length) → w1.cell? ⟨w.heap.size, k, none⟩ = some (.string P[k]) := fun k h => by
    have := row_new w (P.map Value.string) 9 k (.string P[k]) (by simp [h])
    rw [hw1]
    rw [add_none, Nat.zero_add] at this
    exact this
  have HC := hide hc1
  have HS1 := hide hs1
  have HE1 := hide (HE.out.below hb1)
  have hlt1 : w.heap.size < w1.heap.size := by omega
  clear hw1 hc1 hs1
  go_wp2
  go_loopw [3, 11] (fun v i wr => ∃ k : Nat, k ≤ P.length ∧ i = .int .i64 k ∧ wr.ownsRow w1.heap.size 3 1 v k ((numsB (P.take k)).flatMap ic) ∧ Below w1.heap.size w1 wr) (fun _ i _ => P.length - (Go.RowKit.intOf i).toNat)
  case atStart => exact ⟨0, Nat.zero_le _, rfl, World.ownsRow_nil _ _ _ _, Below.refl _ _⟩
  case round =>
    obtain ⟨k, hk, rfl, hown, hb⟩ := hrel
    obtain ⟨A, cp, rfl, hcp, hcm⟩ := own_form hown
    have hsz := hb.size
    by_cases hlt : k < P.length
    · have hcell : wr.cell? ⟨w.heap.size, k, none⟩ = some (.string P[k]) := (hb.cell (p := ⟨w.heap.size, k, none⟩) hlt1).trans (HC.out k hlt)
      have hps := HZ.out _ (List.getElem_mem hlt)
      have HS := hide (numsB_snoc P k hlt)
      have hEr := HE1.out.below hb
      generalize P[k] = p at *
      by_cases hok : ∃ v, Go.Lib.atoiAll p.data.toList = .ok v
      · obtain ⟨v, hv⟩ := hok
        have hA := hide (Atoi_ok p (by omega) v hv)
        have hv0 := hide (show atoi0 p.data.toList = v by unfold atoi0; rw [hv])
        clear hv hEr
        go_wp2_with (first
          | (go_at_call 43; refine (hA.out _).mono ?_; rintro e w2 ⟨rfl, hb2⟩; have hsz2 := hb2.size)
          | (at_builtin; refine wpList_append_own _ rfl _ _ 24 rfl w1.heap.size 3 i0 (.int .i64 0) 1 8 Tryd.underlying24 hi hz0 hz1 hz2 rfl (by decide) _ _ _ rfl ((own_below hown hb2).alloc _) ⟨_, 0, none⟩ 1 1 [.int .i64 v] rfl rfl (row_at _ _ _ (by simp)) (by simp [Value.oneCell']) (by simp only [maxLen]; omega) (by omega) (by simp; omega) ?_; intro v' w3 hown' hgrow _))
        go_roundw
        case rel => exact ⟨k + 1, by omega, by go_num, by rw [HS.out, hv0.out, List.flatMap_append]; exact hown', ((hb.trans (hb2.mono hsz)).alloc (by omega) _).grown hgrow (by simp; omega) (own_ge hown)⟩
        case measure => simp [Go.RowKit.intOf]; omega
      · have hA := hide (Atoi_bad p (by omega) (fun v h => hok ⟨v, h⟩) wr hEr)
        have hv0 := hide (show atoi0 p.data.toList = 0 by
          unfold atoi0
          split
          · rename_i v h; exact absurd ⟨v, h⟩ hok
          · rfl)
        clear hok hEr
        go_wp2_with (first
          | (go_at_call 43; refine hA.out.mono ?_; rintro e w2 ⟨n, N, rfl, hb2⟩; have hsz2 := hb2.size)
          | (at_builtin; refine wpList_append_own _ rfl _ _ 24 rfl w1.heap.size 3 i0 (.int .i64 0) 1 8 Tryd.underlying24 hi hz0 hz1 hz2 rfl (by decide) _ _ _ rfl ((own_below hown hb2).alloc _) ⟨_, 0, none⟩ 1 1 [.int .i64 0] rfl rfl (row_at _ _ _ (by simp)) (by simp [Value.oneCell']) (by simp only [maxLen]; omega) (by omega) (by simp; omega) ?_; intro v' w3 hown' hgrow _))
        go_roundw
        case rel => exact ⟨k + 1, by omega, by go_num, by rw [HS.out, hv0.out, List.flatMap_append]; exact hown', ((hb.trans (hb2.mono hsz)).alloc (by omega) _).grown hgrow (by simp; omega) (own_ge hown)⟩
        case measure => simp [Go.RowKit.intOf]; omega
    · go_wp2
      go_ret
      have hkk : k = P.length := by omega
      refine ⟨_, rfl, ?_, bcall hb1 hb⟩
      rw [hkk, List.take_length, HN.out] at hown
      have hln : P.length = (numsF t.data.toList).length := by rw [← HN.out]; simp [numsB]
      rw [hkk, hln]
      rw [hln] at hown
      exact own_base hown (by omega)
end Go.Proofs.YtnodloeiabbliaaDoor
