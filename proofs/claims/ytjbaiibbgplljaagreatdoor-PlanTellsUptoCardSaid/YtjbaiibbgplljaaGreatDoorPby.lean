import Derived.Test.YtjbaiibbgplljaaGreatDoorPbo
import Derived.Test.YtjbaiibbgplljaaGreatDoorPbo
import Derived.Test.YtjbaiibbgplljaaGreatDoorPbi
set_option maxRecDepth 100000
set_option maxHeartbeats 40000000
namespace Go.Proofs.YtjbaiibbgplljaaGreatDoor
open Go.RowKit Go.Shelf Go.Proofs Go.Joins
theorem refHeap12_any (n : Int) (A : Option Addr) (L c : Nat) (w : World) :
 Calls Tryz.prog 34 #[hv n (.slice A L c)] w fun e w' => e = .returned (hv n (.slice A L c)) ∧ Below w.heap.size w w' := by
 go_enter Tryz.func34, Tryz.ntmps34
 go_wp2; refine bodyPost_ret (v := hv n (.slice A L c)) (by simp [results, Tryz.results34, go_sem]) rfl ⟨rfl, ?_⟩; exact (balHp _ _).alloc (by simp) _
theorem refPicks12_any (v : Value) (l : List PP) (w : World) (hl : Picks w v l) (hlen : l.length ≤ 8796093022208) :
 Calls Tryz.prog 35 #[v] w fun e w' => ∃ r, e = .returned r ∧ w'.ownsRow w.heap.size 83 2 r l.length (l.flatMap pc) ∧ Below w.heap.size w w' := by
 obtain ⟨i0, hi, hz0, hz1, hz2⟩ := info_parts info83; have hl' := hl; obtain ⟨A, c, rfl, h1, h2, -⟩ := hl'; unfold maxLen at h2; have HL := hide hl; clear hl; go_enter Tryz.func35, Tryz.ntmps35
 go_wp2; go_loopw [3, 4] (fun r i wr => ∃ k : Nat, k ≤ l.length ∧ i = .int .i64 k ∧ wr.ownsRow w.heap.size 83 2 r k ((l.take k).flatMap pc) ∧ Below w.heap.size w wr) (fun _ i _ => l.length - (intOf i).toNat)
 case atStart => exact ⟨0, Nat.zero_le _, rfl, World.ownsRow_nil _ _ _ _, Below.refl _ _⟩
 case round =>
  obtain ⟨k, hk, rfl, hown, hb⟩ := hrel; by_cases hlt : k < l.length
  · obtain ⟨b, off, rfl, hbl, c0, c1⟩ := picks_at (HL.out.below hb) hlt
    have HS := hide (show (l.take (k + 1)).flatMap pc = (l.take k).flatMap pc ++ [.int .i64 (l[k]).1, .int .i64 (l[k]).2] by
     rw [List.take_succ_eq_append_getElem hlt, List.flatMap_append]; simp [pc])
    have hbs := hb.size; go_wp2; go_region_law (refine step_append_own rfl _ _ 38 rfl w.heap.size 83 i0 (.agg #[.int .i64 0, .int .i64 0]) 2 16 Tryz.underlying38 hi hz0 hz1 hz2 rfl (by decide) _ _ _ rfl (hown.drew.alloc _) ⟨_, 0, none⟩ 1 1 [.int .i64 (l[k]).1, .int .i64 (l[k]).2] rfl rfl (row_at _ _ _ (by simp)) (by simp [Value.oneCell']) (by simp only [maxLen]; omega) (by omega) (by simp; omega) ?_; intro v' w1 hown' hb1)
    all_goals
     go_wp2; go_roundw
     case rel => exact ⟨k + 1, by omega, by go_num, by rw [HS.out]; exact hown', (((bdrewN hb 1).alloc (by simp; omega) _).trans hb1)⟩
     case measure => simp [intOf]; omega
  · obtain rfl : k = l.length := by omega
    rw [List.take_length] at hown; have HO := hide hown; clear hown; go_wp2; go_returns
    exact ⟨_, rfl, HO.out, hb⟩
theorem refOps12_any (v : Value) (l : List Oq) (w : World) (h : Oqs w v l) (hlen : l.length ≤ 1048577) :
 Calls Tryz.prog 36 #[v] w fun e w' => ∃ r, e = .returned r ∧ w'.ownsRow w.heap.size 81 4 r l.length (l.flatMap oq) ∧ Below w.heap.size w w' := by
 obtain ⟨i0, hi, hz0, hz1, hz2⟩ := info_parts infoOpCd; have HO := hide h; obtain ⟨A, c, rfl, h1, h2, -⟩ := id h; unfold maxLen at h2; clear h; go_enter Tryz.func36, Tryz.ntmps36
 go_wp2; go_loopw [3, 4] (fun r i wr => ∃ k : Nat, k ≤ l.length ∧ i = .int .i64 k ∧ wr.ownsRow w.heap.size 81 4 r k ((l.take k).flatMap oq) ∧ Below w.heap.size w wr) (fun _ i _ => l.length - (intOf i).toNat)
 case atStart => exact ⟨0, Nat.zero_le _, rfl, World.ownsRow_nil _ _ _ _, Below.refl _ _⟩
 case round =>
  obtain ⟨k, hk, rfl, hown, hb⟩ := hrel; by_cases hlt : k < l.length
  · obtain ⟨⟨kk, r, a, z⟩, hd⟩ : ∃ d : Oq, l[k] = d := ⟨_, rfl⟩
    obtain ⟨g, off, rfl, -, d0, d1, d2, d3⟩ := oq_at (HO.out.below hb) hlt hd; have HSN := hide (show (l.take (k + 1)).flatMap oq = (l.take k).flatMap oq ++ oq ⟨kk, r, a, z⟩ by rw [List.take_succ_eq_append_getElem hlt, List.flatMap_append, hd]; simp); have hbs := hb.size; obtain ⟨A3, cp3, rfl, hc31, hc32⟩ := own_form hown; have HOW := hide hown; have HD := hide (show l[k]? = some ⟨kk, r, a, z⟩ by rw [← hd]; exact List.getElem?_eq_getElem hlt); clear hd hown; go_wp2; refine wp_region_held_drew (S := fun w' => w'.cell? ⟨g, off + k * 4, none⟩ = some (.int .i64 kk) ∧ w'.cell? ⟨g, off + k * 4 + 1, none⟩ = some (.int .i64 r) ∧ w'.cell? ⟨g, off + k * 4 + 2, none⟩ = some (.int .i64 a) ∧ w'.cell? ⟨g, off + k * 4 + 3, none⟩ = some (.int .i64 z)) (by kernel_rfl) ?_ (fun hHeld => ?_)
    · exact (by first | (with_reducible exact ⟨d0, d1, d2, d3⟩) | (with_reducible exact ⟨ckeep (below_drewCd (cbal _ _)) d0, ckeep (below_drewCd (cbal _ _)) d1, ckeep (below_drewCd (cbal _ _)) d2, ckeep (below_drewCd (cbal _ _)) d3⟩) | (with_reducible exact oq_cells (HO.out.below hB2) rfl HD.out rfl) | exact ⟨d0, d1, d2, d3⟩ | exact oq_cells (HO.out.below hB2) rfl HD.out rfl | trace_state)
    refine tk 0 ?_; refine tk 1 ?_; refine tk 2 ?_; refine tk 3 ?_; refine tk 4 ?_; refine tk 5 ?_; refine tk 6 ?_; refine tk 7 ?_; refine tk 8 ?_; refine tk 9 ?_; refine tk 10 ?_; refine tk 11 ?_; refine tk 12 ?_; refine tk 13 ?_; refine tk 14 ?_; refine tk 15 ?_; refine tk 16 ?_; refine tk 17 ?_; refine tk 18 ?_; refine tk 19 ?_; refine tk 20 ?_; refine tk 21 ?_; refine r1 22 (fun K hK => ?_); go_simp; (try go_simp); refine go_ hK (by first | (with_reducible exact ⟨d0, d1, d2, d3⟩) | (with_reducible exact ⟨ckeep (below_drewCd (cbal _ _)) d0, ckeep (below_drewCd (cbal _ _)) d1, ckeep (below_drewCd (cbal _ _)) d2, ckeep (below_drewCd (cbal _ _)) d3⟩) | (with_reducible exact oq_cells (HO.out.below hB2) rfl HD.out rfl) | exact ⟨d0, d1, d2, d3⟩ | exact oq_cells (HO.out.below hB2) rfl HD.out rfl | trace_state) (fun hHeld => ?_); refine r1 23 (fun K hK => ?_); refine step_append_own_g (by rfl) _ _ 79 (by rfl) w.heap.size 81 i0 (.agg #[.int .i64 0, .int .i64 0, .int .i64 0, .int .i64 0]) 4 32 Tryz.underlying79 hi hz0 hz1 hz2 rfl (by decide) (.slice A3 k cp3) k _ (by go_simp) (show World.ownsRow _ _ _ _ _ _ _ from HOW.out.alloc (.cells #[.int .i64 kk, .int .i64 r, .int .i64 a, .int .i64 z] 81)) ⟨wr.heap.size, 0, none⟩ 1 1 [.int .i64 kk, .int .i64 r, .int .i64 a, .int .i64 z] (by go_simp) rfl (fun j u h => row_at wr [.int .i64 kk, .int .i64 r, .int .i64 a, .int .i64 z] 81 rfl j u h) (by simp [Value.oneCell']) (by simp only [maxLen]; omega) (by omega) (show w.heap.size ≤ (wr.alloc (.cells #[.int .i64 kk, .int .i64 r, .int .i64 a, .int .i64 z] 81)).heap.size by simp; omega) ?_; intro v2 w2 hown2 hgrow2; have hB2 : Below w.heap.size w w2 := (below_drewCd (hb.alloc hbs (.cells #[.int .i64 kk, .int .i64 r, .int .i64 a, .int .i64 z] 81))).grown hgrow2 (show w.heap.size ≤ (wr.alloc (.cells #[.int .i64 kk, .int .i64 r, .int .i64 a, .int .i64 z] 81)).heap.size by simp; omega) (own_ge HOW.out); (try go_simp); refine go_ hK (by first | (with_reducible exact ⟨d0, d1, d2, d3⟩) | (with_reducible exact ⟨ckeep (below_drewCd (cbal _ _)) d0, ckeep (below_drewCd (cbal _ _)) d1, ckeep (below_drewCd (cbal _ _)) d2, ckeep (below_drewCd (cbal _ _)) d3⟩) | (with_reducible exact oq_cells (HO.out.below hB2) rfl HD.out rfl) | exact ⟨d0, d1, d2, d3⟩ | exact oq_cells (HO.out.below hB2) rfl HD.out rfl | trace_state) (fun hHeld => ?_); refine tk 24 ?_; refine wpAnyH_done (by kernel_rfl) ?_ _; obtain ⟨A9, c9, rfl, hc91, hc92⟩ := own_form hown2; have HO2 := hide hown2; clear hown2 hgrow2 hHeld d0 d1 d2 d3; go_wp2; go_roundw
    case rel => exact ⟨k + 1, by omega, by go_num, by rw [HSN.out]; exact HO2.out, hB2⟩
    case measure => simp [intOf]; omega
  · obtain rfl : k = l.length := by omega
    rw [List.take_length] at hown; have HO1 := hide hown; clear hown; go_wp2; go_returns
    exact ⟨_, rfl, HO1.out, hb⟩
