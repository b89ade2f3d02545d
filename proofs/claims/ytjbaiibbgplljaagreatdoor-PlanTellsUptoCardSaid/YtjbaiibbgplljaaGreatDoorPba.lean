import Derived.Deep.LoopGhost
import Derived.Test.YtjbaiibbgplljaaGreatDoorPaw
import Derived.Test.YtjbaiibbgplljaaGreatDoorPaz
set_option maxRecDepth 100000
set_option maxHeartbeats 40000000
namespace Go.Proofs.YtjbaiibbgplljaaGreatDoor
open Go.RowKit
theorem own_intsRc {w : World} {base : Nat} {v : Value} {l : List Int} (h : w.ownsRow base 3 1 v l.length (l.flatMap ic)) :
 ∃ A c, v = .slice A l.length c ∧ l.length ≤ c ∧ c ≤ 9223372036854775807 ∧ ∀ (k : Nat) (hk : k < l.length), ∃ g, A = some ⟨g, 0, none⟩ ∧ base ≤ g ∧ g < w.heap.size ∧ w.cell? ⟨g, k, none⟩ = some (.int .i64 l[k]) := by
 obtain ⟨A, c, rfl, h1, h2⟩ := own_form h; unfold maxLen at h2; refine ⟨A, c, rfl, h1, by omega, fun k hk => ?_⟩; obtain ⟨b, off, rfl, hb, hc⟩ := ints_at (Sl.of_own ic_len h) hk; have h3 := h.lt b rfl; rcases h.2 with ⟨h4, _⟩ | ⟨g, cap, cur, h4, _⟩
 · cases h4
 · injection h4 with h5
   injection h5 with h5; injection h5 with h5 h6; subst h5; subst h6; exact ⟨b, rfl, h3.1, h3.2, by simpa using hc⟩
theorem new_row (w : World) (y cs : Array Value) (t : TypeId) : ∃ w3, (w.alloc (.cells y t)).setRow w.heap.size cs = w3 ∧ w3.heap[w.heap.size]? = some (.cells cs t (0, 0)) ∧ Below w.heap.size w w3 ∧ w3.heap.size = w.heap.size + 1 :=
 ⟨_, rfl, setRow_heap _ _ _ _ _ _ (heap_alloc_new w _), below_setRow (balHp _ _) (Nat.le_refl _) _, by simp⟩
theorem meet_sum {ls : Rws} {far q : List Int} {o d : Int} (hl : far.length = 64) (hd : d ≠ -1) : unmetN (meetFar ls far o d) + (meetQ ls far q o).length = unmetN far + q.length := by
 by_cases hok : meetOk ls far o = true
 · obtain ⟨hin, hun⟩ := meetOk_iff.1 hok
   have := unmet_set far (o - 1).toNat d ((getD_far hl ⟨hin.1, hin.2.1⟩).trans hun) hd; unfold meetFar meetQ; rw [if_pos hok, if_pos hok, List.length_append, List.length_singleton]; omega
 · unfold meetFar meetQ
   rw [if_neg hok, if_neg hok]
def farF (ls : Rws) (opn r : Nat) : List Int := (List.range 64).map fun (i : Nat) => dstF ls opn r ((i : Int) + 1)
theorem St.pop {B Bh Bf Bw : Nat} {n : Int} {u v' : Value} {w : World} {far q q' : List Int} (hBw : Bw < B) (n2 : Bh ≠ Bw) (n3 : Bf ≠ Bw) (h : St B Bh Bf Bw n u w far q) (hq : OwnsQ w B 3 v' (q'.map (Value.int .i64))) :
 St B Bh Bf Bw n u (w.setCell ⟨Bw, 0, none⟩ v') far q' := by
 obtain ⟨a, b, c, ⟨v, d, e⟩, f⟩ := h; refine ⟨?_, ?_, ?_, ⟨v', one_setCell d, hq.setCell_other hBw _⟩, by simpa [World.setCell] using f⟩
 · rw [cell_block (heap_setCell_other _ _ _ _ n2)]; exact a
 · rw [cell_block (heap_setCell_other _ _ _ _ n2)]; exact b
 · show _ = _
   rw [heap_setCell_other _ _ _ _ n3]; exact c
theorem Kp.pop {B Bf Bw : Nat} {w w' : World} (h : Kp B Bf Bw w w') (v : Value) : Kp B Bf Bw w (w'.setCell ⟨Bw, 0, none⟩ v) :=
 ⟨h.os, h.tape, h.output, by simpa [World.setCell] using h.size, fun k a b c => by rw [heap_setCell_other _ _ _ _ c]; exact h.block k a b c⟩
theorem walk_any (fo : FuncId) (caps : Array Value) (opn : Nat) (n : Int) (u : Value) (ls : Rws) (r : Nat) (w : World) (hr : r < 18446744073709551616) (hG : Grid w u ls) (hE : EnvT w)
 (hcf : ∀ (xs : Array Value) (wx : World), (callFunc fo xs).run Tryz.prog wx = .ok (.enter fo xs) wx)
 (hop : ∀ (o : Int) (w' : World), 1 ≤ o → o ≤ 64 → Below w.heap.size w w' → Calls Tryz.prog fo (#[.int .i64 o] ++ caps) w' fun e w'' => e = .returned (.bool (hasF opn o)) ∧ w'' = w') :
 Calls Tryz.prog 91 #[hv n u, .int .u64 r, .func (.func fo) #[] caps] w fun e w' => e = .returned (.agg (fa (farF ls opn r))) ∧ Below w.heap.size w w' := by
 have hmf : ∀ (fn : Fn) (first cap : Array Value) (w : World), (Instr.makeFunc fn first cap).run Tryz.prog w = .ok (.func fn first cap) w := fun _ _ _ _ => rfl
 have HOP := hide hop; have HG := hide hG; have HE := hide hE; obtain ⟨w1, ew, b0, b1, hB1, hS1⟩ := two_new w #[.int .i64 n, u] #[.int .i64 0, .int .i64 0, .int .i64 0, .int .i64 0, .int .i64 0, .int .i64 0, .int .i64 0, .int .i64 0, .int .i64 0, .int .i64 0, .int .i64 0, .int .i64 0, .int .i64 0, .int .i64 0, .int .i64 0, .int .i64 0, .int .i64 0, .int .i64 0, .int .i64 0, .int .i64 0, .int .i64 0, .int .i64 0, .int .i64 0, .int .i64 0, .int .i64 0, .int .i64 0, .int .i64 0, .int .i64 0, .int .i64 0, .int .i64 0, .int .i64 0, .int .i64 0, .int .i64 0, .int .i64 0, .int .i64 0, .int .i64 0, .int .i64 0, .int .i64 0, .int .i64 0, .int .i64 0, .int .i64 0, .int .i64 0, .int .i64 0, .int .i64 0, .int .i64 0, .int .i64 0, .int .i64 0, .int .i64 0, .int .i64 0, .int .i64 0, .int .i64 0, .int .i64 0, .int .i64 0, .int .i64 0, .int .i64 0, .int .i64 0, .int .i64 0, .int .i64 0, .int .i64 0, .int .i64 0, .int .i64 0, .int .i64 0, .int .i64 0, .int .i64 0] 24 146; have HW := hide ew; have BB0 := hide b0; have BB1 := hide b1; clear hop hG hE ew b0 b1; go_enter Tryz.func91, Tryz.ntmps91
 go_wp2_with fail
 rw [HW.out]; (with_reducible refine (nothingMet_any _).mono ?_); rintro e w2 ⟨rfl, hb2⟩; obtain ⟨f0, hf0⟩ : ∃ f0 : List Int, List.replicate 64 (-1) = f0 := ⟨_, rfl⟩; have hl0 : f0.length = 64 := by rw [← hf0]; simp
 have HR0 := hide (rinv_start ls opn r); rw [hf0] at HR0 ⊢; clear hf0; obtain ⟨w3, e3, hF3, hb3, hS3⟩ := new_row w2 #[.int .i64 0, .int .i64 0, .int .i64 0, .int .i64 0, .int .i64 0, .int .i64 0, .int .i64 0, .int .i64 0, .int .i64 0, .int .i64 0, .int .i64 0, .int .i64 0, .int .i64 0, .int .i64 0, .int .i64 0, .int .i64 0, .int .i64 0, .int .i64 0, .int .i64 0, .int .i64 0, .int .i64 0, .int .i64 0, .int .i64 0, .int .i64 0, .int .i64 0, .int .i64 0, .int .i64 0, .int .i64 0, .int .i64 0, .int .i64 0, .int .i64 0, .int .i64 0, .int .i64 0, .int .i64 0, .int .i64 0, .int .i64 0, .int .i64 0, .int .i64 0, .int .i64 0, .int .i64 0, .int .i64 0, .int .i64 0, .int .i64 0, .int .i64 0, .int .i64 0, .int .i64 0, .int .i64 0, .int .i64 0, .int .i64 0, .int .i64 0, .int .i64 0, .int .i64 0, .int .i64 0, .int .i64 0, .int .i64 0, .int .i64 0, .int .i64 0, .int .i64 0, .int .i64 0, .int .i64 0, .int .i64 0, .int .i64 0, .int .i64 0, .int .i64 0] (fa f0) 146; have HE3 := hide e3; have HF3 := hide hF3; clear e3 hF3; go_wp2_with (refine wpList_store_row rfl 146 (.tmp 7) (.tmp 15) rfl w2.heap.size rfl (fa f0) rfl #[.int .i64 0, .int .i64 0, .int .i64 0, .int .i64 0, .int .i64 0, .int .i64 0, .int .i64 0, .int .i64 0, .int .i64 0, .int .i64 0, .int .i64 0, .int .i64 0, .int .i64 0, .int .i64 0, .int .i64 0, .int .i64 0, .int .i64 0, .int .i64 0, .int .i64 0, .int .i64 0, .int .i64 0, .int .i64 0, .int .i64 0, .int .i64 0, .int .i64 0, .int .i64 0, .int .i64 0, .int .i64 0, .int .i64 0, .int .i64 0, .int .i64 0, .int .i64 0, .int .i64 0, .int .i64 0, .int .i64 0, .int .i64 0, .int .i64 0, .int .i64 0, .int .i64 0, .int .i64 0, .int .i64 0, .int .i64 0, .int .i64 0, .int .i64 0, .int .i64 0, .int .i64 0, .int .i64 0, .int .i64 0, .int .i64 0, .int .i64 0, .int .i64 0, .int .i64 0, .int .i64 0, .int .i64 0, .int .i64 0, .int .i64 0, .int .i64 0, .int .i64 0, .int .i64 0, .int .i64 0, .int .i64 0, .int .i64 0, .int .i64 0, .int .i64 0] 146 (heap_alloc_new w2 _) (met_info' _ hl0) (by rw [fa_size, hl0]; rfl) (fa_one _) ?_; rw [HE3.out])
 obtain ⟨w4, e4⟩ : ∃ w4, w3.alloc (.cells #[.slice none 0 0] 67) = w4 := ⟨_, rfl⟩; have hb4 : Below w3.heap.size w3 w4 := by rw [← e4]; exact balHp _ _
 have hS4 : w4.heap.size = w2.heap.size + 2 := by rw [← e4]; simp [hS3]
 have hW4 : w4.heap[w2.heap.size + 1]? = some (.cells #[.slice none 0 0] 67 (0, 0)) := by rw [← e4, ← hS3]; exact heap_alloc_new _ _
 rw [e4]; have HW4 := hide hW4; clear e4 hW4; have hb24 := bcall hb3 hb4; have hs2 := hb2.size; have hb14 := bcall hb2 hb24; have hb04 := btr hB1 hb14 (by omega); (with_reducible refine (List_tab r hr _ (HE.out.below hb04)).mono ?_); rintro e w5 ⟨v5, rfl, hown, hb5⟩; have hs5 := hb5.size; obtain ⟨A5, c5, rfl, h51, h52, h53⟩ := own_intsRc hown; have HC5 := hide h53; clear hown h53; have hlr := objs_len r; have HST := hide (show St w5.heap.size w.heap.size w2.heap.size (w2.heap.size + 1) n u w5 f0 [] from
  ⟨by rw [cell_block ((hb5.block _ (by omega)).trans (hb14.block _ (by omega)))]; rw [cell_of_row _ _ _ _ _ _ BB0.out]; rfl, by rw [cell_block ((hb5.block _ (by omega)).trans (hb14.block _ (by omega)))]; rw [cell_of_row _ _ _ _ _ _ BB0.out]; rfl,
   (hb5.block _ (by omega)).trans ((hb4.block _ (by omega)).trans HF3.out), ⟨_, (hb5.block _ (by omega)).trans HW4.out, OwnsQ.nil_⟩, Nat.le_refl _⟩)
 have HB6 := hide ((hb5.block (w.heap.size + 1) (by omega)).trans ((hb14.block (w.heap.size + 1) (by omega)).trans BB1.out)); have hb05 := btr hb04 hb5 (by omega); obtain ⟨B, hB⟩ : ∃ B, w5.heap.size = B := ⟨_, rfl⟩; rw [hB] at HST; have hGw : ∀ wr, Kp B w2.heap.size (w2.heap.size + 1) w5 wr → Below w.heap.size w wr := fun wr hk => hb05.trans (hk.to_below (b := w.heap.size) (by omega) (by omega) (by omega))
 have HGW := hide hGw; clear hGw; go_wp2_with fail
 go_loopw [20] (fun i wr => ∃ k : Nat, k ≤ (objs r).length ∧ i = .int .i64 k ∧ Hid (∃ far q, RInv ls opn r ((objs r).take k) far q ∧ St B w.heap.size w2.heap.size (w2.heap.size + 1) n u wr far q) ∧ Hid (Kp B w2.heap.size (w2.heap.size + 1) w5 wr)) (fun i _ => (objs r).length - (intOf i).toNat)
 case atStart => exact ⟨0, Nat.zero_le _, rfl, hide ⟨f0, [], HR0.out, HST.out⟩, hide (Kp.of_below (Below.refl _ _) (by omega))⟩
 case round =>
  obtain ⟨k, hk, rfl, HI, HK⟩ := hrel; by_cases hlt : k < (objs r).length
  · obtain ⟨far, q, hRI, hSt⟩ := HI.out
    obtain ⟨g, rfl, hg1, hg2, hg3⟩ := HC5.out k hlt; obtain ⟨o, ho⟩ : ∃ o, (objs r)[k] = o := ⟨_, rfl⟩; rw [ho] at hg3; have hor : hasF r o = true := mem_objs.1 (ho ▸ List.getElem_mem hlt); have ctk : (objs r).take (k + 1) = (objs r).take k ++ [o] := by rw [List.take_succ_eq_append_getElem hlt, ho]
    have hgb := (HK.out.block g (by omega) (by omega) (by omega)); have cg : wr.cell? ⟨g, k, none⟩ = some (.int .i64 o) := (cell_block hgb).trans hg3; have HRI := hide hRI; have HSt := hide hSt; have HOr := hide hor; have HTk := hide ctk; have hg64 := HRI.out.1.room; have hl64 := hRI.1.len; have hnn : Kp B w2.heap.size (w2.heap.size + 1) w5 wr := HK.out; have HGr := hide (HG.out.below (HGW.out wr hnn)); clear hRI hSt hor ctk hgb hg3 ho hnn; go_wp2_with fail
    (with_reducible refine (meet_any B w.heap.size w2.heap.size (w2.heap.size + 1) n u ls far q o 0 wr (by omega) (by omega) (by omega) (by omega) (by omega) (by omega) HSt.out hl64 (by omega) HGr.out).mono ?_); rintro e w6 ⟨rfl, hst6, hk6⟩; have HS6 := hide hst6; have HK6 := hide hk6; clear hst6 hk6; go_wp2; go_roundw
    case rel => exact ⟨k + 1, by omega, by go_num, hide ⟨_, _, by rw [HTk.out]; exact rinv_step HRI.out HOr.out, HS6.out⟩, hide (HK.out.trans HK6.out)⟩
    case measure => simp [intOf]; omega
  · have hke : k = (objs r).length := by omega
    have HI2 := hide (show ∃ far q, InvRc ls opn r (objs r) far q ∧ St B w.heap.size w2.heap.size (w2.heap.size + 1) n u wr far q from by
     obtain ⟨far, q, a, b⟩ := HI.out; rw [hke, List.take_length] at a; exact ⟨far, q, a.1, b⟩)
    clear HI hke; go_wp2_with fail
    go_loopg [] 64 (fun gk wr => Hid (∃ far q, InvRc ls opn r (objs r) far q ∧ unmetN far + q.length ≤ gk ∧ St B w.heap.size w2.heap.size (w2.heap.size + 1) n u wr far q) ∧ Hid (Kp B w2.heap.size (w2.heap.size + 1) w5 wr))
    case atStart =>
     obtain ⟨far, q, a, b⟩ := HI2.out; exact ⟨hide ⟨far, q, a, a.room, b⟩, HK⟩
    case round =>
     clear HI2 HK; obtain ⟨HI, HK⟩ := hrel; obtain ⟨far, q, hI, hs, hSt⟩ := HI.out; obtain ⟨v, hW, hQ⟩ := hSt.wait; have hl64 := hI.len; have HInv := hide hI; have HSt := hide hSt; have HW := hide hW; have HQ := hide hQ; have cw := cell_of_one hW; have fw := free_of_one hW; clear hI hSt hW hQ HI; rcases q with _ | ⟨o, q⟩
     · obtain ⟨A, c, rfl, -, -⟩ := HQ.out.form
       have hF := HSt.out.far; have hb6 := (HK.out.block (w.heap.size + 1) (by omega) (by omega) (by omega)).trans HB6.out; have HF := hide hF; have H6 := hide hb6; clear hF hb6; go_wp2_with (first
        | (refine wpList_load_row rfl 146 (.tmp 7) rfl w2.heap.size rfl _ _ _ _ HF.out Tryz.underlying146 rfl (met_info' _ hl64) ?_)
        | (refine wpList_store_row rfl 146 (.tmp 6) (.tmp 60) rfl (w.heap.size + 1) rfl (fa far) rfl _ _ H6.out (met_info' _ hl64) (by rw [fa_size, hl64]; rfl) (fa_one _) ?_))
       have hr6 := setRow_heap wr (w.heap.size + 1) _ (fa far) _ _ H6.out; have he := inv_end HInv.out; have HR := hide (HGW.out wr HK.out); have hfin : fa far = fa (farF ls opn r) := by rw [he]; rfl
       refine bodyPost_ret (results_row rfl (w.heap.size + 1) rfl _ _ _ _ hr6 Tryz.underlying146 rfl (met_info' _ hl64)) rfl ⟨by rw [hfin], below_setRow HR.out (by omega) _⟩
     · obtain ⟨A, c, rfl, hc1, hc2⟩ := HQ.out.form
       obtain ⟨g, off, rfl, hg⟩ := HQ.out.cell (k := 0) (x := .int .i64 o) rfl; simp only [List.map_cons, List.length_cons, List.length_map, Nat.add_zero] at hc1 hg HQ HW cw ⊢; have hmo := HInv.out.qmet o (by simp); obtain ⟨ho1, ho2, ho3⟩ := hmo; unfold maxLen at hc2; have key : ∃ v', OwnsQ wr B 3 v' (q.map (Value.int .i64)) ∧ ((q = [] ∧ c = 1 ∧ v' = .slice (some ⟨g, off, none⟩) 0 0) ∨ (c ≠ 1 ∧ v' = .slice (some ⟨g, off + 1, none⟩) q.length (c - 1))) := by
        by_cases hc : c = 1
        · subst hc; obtain rfl : q = [] := List.eq_nil_of_length_eq_zero (by omega); exact ⟨_, HQ.out.tail0, .inl ⟨rfl, rfl, rfl⟩⟩
        · refine ⟨_, HQ.out.tail, .inr ⟨hc, ?_⟩⟩
          simp [add_none]
       obtain ⟨v', hQ', hv'⟩ := key; have HSp := hide (St.pop (by omega) (by omega) (by omega) HSt.out hQ'); have HKp := hide (HK.out.pop v'); have HBp := hide (HGW.out _ HKp.out); obtain ⟨j, rfl⟩ : ∃ j : Nat, o = (j : Int) + 1 := ⟨(o - 1).toNat, by omega⟩; have hj64 : j < 64 := by omega
       have hops := HOP.out ((j : Int) + 1) _ (by omega) (by omega) HBp.out; have HOPS := hide hops; clear hQ' hops; rw [List.length_cons] at hs; rcases hv' with ⟨rfl, hc, rfl⟩ | ⟨hc, rfl⟩
       · subst hc
         go_wp2_with fail
         (with_reducible refine HOPS.out.mono ?_); rintro e w7 ⟨rfl, rfl⟩; obtain ⟨wp, hwp⟩ : ∃ wp, wr.setCell ⟨w2.heap.size + 1, 0, none⟩ (.slice (some ⟨g, off, none⟩) 0 0) = wp := ⟨_, rfl⟩; rw [hwp] at HSp HKp HBp ⊢; clear hwp HOPS cw fw hg; by_cases ho : hasF opn ((j : Int) + 1) = true
         · obtain ⟨A0, c0, rfl, h01, h02⟩ := HG.out.form
           unfold maxLen at h02; have hin := (HInv.out.sound _ ⟨ho1, ho2, ho3⟩).2.1; have hjl : j < ls.length := by omega
           obtain ⟨gb, goff, uu, rfl, hgb, hgc, hgi⟩ := grid_at HG.out hjl; have hrow : rowF ls ((j : Int) + 1) = ls[j] := by rw [rowF_mem (by omega)]; simp
           obtain ⟨row, hrw⟩ : ∃ row, ls[j] = row := ⟨_, rfl⟩; rw [hrw] at hgi hrow; obtain ⟨Ar, cr, rfl, hr1, hr2, -⟩ := id hgi; unfold maxLen at hr2; have HRow := hide hgi; have HRw := hide hrow; have cu := HSp.out.h1; have cgp := ((bcell HBp.out).1 gb (goff + j) hgb).trans hgc; have HO := hide ho; rw [ho]; clear hgi hrow hrw hgc ho; go_wp2_with fail
           go_loopw [47] (fun i wr => ∃ k : Nat, k ≤ row.length ∧ i = .int .i64 k ∧ Hid (∃ far q, MInv ls opn r (objs r) far q ((j : Int) + 1) k ∧ unmetN far + q.length + 1 ≤ gk ∧ St B w.heap.size w2.heap.size (w2.heap.size + 1) n (.slice (some ⟨gb, goff, none⟩) ls.length c0) wr far q) ∧ Hid (Kp B w2.heap.size (w2.heap.size + 1) w5 wr)) (fun i _ => row.length - (intOf i).toNat)
           case atStart => exact ⟨0, Nat.zero_le _, rfl, hide ⟨far, _, ⟨HInv.out, by simp⟩, hs, HSp.out⟩, HKp⟩
           case round =>
            clear cu cgp; obtain ⟨k3, hk3, rfl, HI3, HK3⟩ := hrel; by_cases hlt3 : k3 < row.length
            · obtain ⟨far3, q3, hM, hs3, hSt3⟩ := HI3.out
              have hB3 := HGW.out _ HK3.out; obtain ⟨v3, hv3⟩ : ∃ v3, row[k3] = v3 := ⟨_, rfl⟩; obtain ⟨rb, roff, rfl, hrb, hrc⟩ := ints_at HRow.out hlt3; rw [hv3] at hrc; have cr3 := ((bcell hB3).1 rb (roff + k3) hrb).trans hrc; have hl3 := hM.1.len; obtain ⟨s0, s1, s2, s3⟩ := hM.1.sound ((j : Int) + 1) (hM.1.qmet ((j : Int) + 1) (List.mem_cons_self ..)); have hfj : farA far3 ((j : Int) + 1) = far3[j] := by
               unfold farA; rw [List.getD_eq_getElem?_getD, show ((j : Int) + 1 - 1).toNat = j by omega, List.getElem?_eq_getElem (by omega)]; rfl
              have cf3 := far_cell hSt3.far j (by omega); rw [← hfj] at cf3; obtain ⟨dj, hdj⟩ : ∃ dj, farA far3 ((j : Int) + 1) = dj := ⟨_, rfl⟩; rw [hdj] at cf3 s0 s3; have hnx := minv_step (v := v3) hM HO.out (by rw [HRw.out, List.getElem?_eq_getElem hlt3, hv3]); rw [hdj] at hnx; have HNX := hide hnx.1; have hsum := meet_sum (ls := ls) (far := far3) (q := q3) (o := v3) (d := dj + 1) hl3 (by omega); have HSum := hide hsum; have HSt3 := hide hSt3; have HG3 := hide (HG.out.below hB3); have hq3 := hM.1.room; rw [List.length_cons] at hq3; clear hM hSt3 hfj hdj hnx hsum hv3 hrc s1 s2 HI3; go_wp2_with fail
              (with_reducible refine (meet_any B w.heap.size w2.heap.size (w2.heap.size + 1) n (.slice (some ⟨gb, goff, none⟩) ls.length c0) ls far3 q3 v3 (dj + 1) wr (by omega) (by omega) (by omega) (by omega) (by omega) (by omega) HSt3.out hl3 (by omega) HG3.out).mono ?_); rintro e w8 ⟨rfl, hst8, hk8⟩; have HS8 := hide hst8; have HK8 := hide hk8; clear hst8 hk8; go_wp2; go_roundw
              case rel => exact ⟨k3 + 1, by omega, by go_num, hide ⟨_, _, HNX.out, by have := HSum.out; omega, HS8.out⟩, hide (HK3.out.trans HK8.out)⟩
              case measure => simp [intOf]; omega
            · have HE3 := hide (show ∃ far q, InvRc ls opn r (objs r) far q ∧ unmetN far + q.length ≤ gk - 1 ∧ St B w.heap.size w2.heap.size (w2.heap.size + 1) n (.slice (some ⟨gb, goff, none⟩) ls.length c0) wr far q from by
               obtain ⟨far3, q3, hM, hs3, hSt3⟩ := HI3.out; refine ⟨far3, q3, inv_shut hM.1 fun _ v hv hi => hM.2 v ?_ hi, by omega, hSt3⟩; rw [HRw.out, List.take_of_length_le (by omega), ← HRw.out]; exact hv)
              clear HI3; go_wp2; go_roundg (gk - 1)
              case measure => omega
              case rel => exact ⟨HE3, HK3⟩
         · have hof : hasF opn ((j : Int) + 1) = false := by simpa using ho
           rw [hof]; have HO := hide ho; clear ho hof; go_wp2; go_roundg (gk - 1)
           case measure => omega
           case rel => exact ⟨hide ⟨far, _, inv_shut HInv.out (fun h => absurd h HO.out), by omega, HSp.out⟩, HKp⟩
       · go_wp2_with fail
         (with_reducible refine HOPS.out.mono ?_); rintro e w7 ⟨rfl, rfl⟩; obtain ⟨wp, hwp⟩ : ∃ wp, wr.setCell ⟨w2.heap.size + 1, 0, none⟩ (.slice (some ⟨g, off + 1, none⟩) q.length (c - 1)) = wp := ⟨_, rfl⟩; rw [hwp] at HSp HKp HBp ⊢; clear hwp HOPS cw fw hg; by_cases ho : hasF opn ((j : Int) + 1) = true
         · obtain ⟨A0, c0, rfl, h01, h02⟩ := HG.out.form
           unfold maxLen at h02; have hin := (HInv.out.sound _ ⟨ho1, ho2, ho3⟩).2.1; have hjl : j < ls.length := by omega
           obtain ⟨gb, goff, uu, rfl, hgb, hgc, hgi⟩ := grid_at HG.out hjl; have hrow : rowF ls ((j : Int) + 1) = ls[j] := by rw [rowF_mem (by omega)]; simp
           obtain ⟨row, hrw⟩ : ∃ row, ls[j] = row := ⟨_, rfl⟩; rw [hrw] at hgi hrow; obtain ⟨Ar, cr, rfl, hr1, hr2, -⟩ := id hgi; unfold maxLen at hr2; have HRow := hide hgi; have HRw := hide hrow; have cu := HSp.out.h1; have cgp := ((bcell HBp.out).1 gb (goff + j) hgb).trans hgc; have HO := hide ho; rw [ho]; clear hgi hrow hrw hgc ho; go_wp2_with fail
           go_loopw [47] (fun i wr => ∃ k : Nat, k ≤ row.length ∧ i = .int .i64 k ∧ Hid (∃ far q, MInv ls opn r (objs r) far q ((j : Int) + 1) k ∧ unmetN far + q.length + 1 ≤ gk ∧ St B w.heap.size w2.heap.size (w2.heap.size + 1) n (.slice (some ⟨gb, goff, none⟩) ls.length c0) wr far q) ∧ Hid (Kp B w2.heap.size (w2.heap.size + 1) w5 wr)) (fun i _ => row.length - (intOf i).toNat)
           case atStart => exact ⟨0, Nat.zero_le _, rfl, hide ⟨far, _, ⟨HInv.out, by simp⟩, hs, HSp.out⟩, HKp⟩
           case round =>
            clear cu cgp; obtain ⟨k3, hk3, rfl, HI3, HK3⟩ := hrel; by_cases hlt3 : k3 < row.length
            · obtain ⟨far3, q3, hM, hs3, hSt3⟩ := HI3.out
              have hB3 := HGW.out _ HK3.out; obtain ⟨v3, hv3⟩ : ∃ v3, row[k3] = v3 := ⟨_, rfl⟩; obtain ⟨rb, roff, rfl, hrb, hrc⟩ := ints_at HRow.out hlt3; rw [hv3] at hrc; have cr3 := ((bcell hB3).1 rb (roff + k3) hrb).trans hrc; have hl3 := hM.1.len; obtain ⟨s0, s1, s2, s3⟩ := hM.1.sound ((j : Int) + 1) (hM.1.qmet ((j : Int) + 1) (List.mem_cons_self ..)); have hfj : farA far3 ((j : Int) + 1) = far3[j] := by
               unfold farA; rw [List.getD_eq_getElem?_getD, show ((j : Int) + 1 - 1).toNat = j by omega, List.getElem?_eq_getElem (by omega)]; rfl
              have cf3 := far_cell hSt3.far j (by omega); rw [← hfj] at cf3; obtain ⟨dj, hdj⟩ : ∃ dj, farA far3 ((j : Int) + 1) = dj := ⟨_, rfl⟩; rw [hdj] at cf3 s0 s3; have hnx := minv_step (v := v3) hM HO.out (by rw [HRw.out, List.getElem?_eq_getElem hlt3, hv3]); rw [hdj] at hnx; have HNX := hide hnx.1; have hsum := meet_sum (ls := ls) (far := far3) (q := q3) (o := v3) (d := dj + 1) hl3 (by omega); have HSum := hide hsum; have HSt3 := hide hSt3; have HG3 := hide (HG.out.below hB3); have hq3 := hM.1.room; rw [List.length_cons] at hq3; clear hM hSt3 hfj hdj hnx hsum hv3 hrc s1 s2 HI3; go_wp2_with fail
              (with_reducible refine (meet_any B w.heap.size w2.heap.size (w2.heap.size + 1) n (.slice (some ⟨gb, goff, none⟩) ls.length c0) ls far3 q3 v3 (dj + 1) wr (by omega) (by omega) (by omega) (by omega) (by omega) (by omega) HSt3.out hl3 (by omega) HG3.out).mono ?_); rintro e w8 ⟨rfl, hst8, hk8⟩; have HS8 := hide hst8; have HK8 := hide hk8; clear hst8 hk8; go_wp2; go_roundw
              case rel => exact ⟨k3 + 1, by omega, by go_num, hide ⟨_, _, HNX.out, by have := HSum.out; omega, HS8.out⟩, hide (HK3.out.trans HK8.out)⟩
              case measure => simp [intOf]; omega
            · have HE3 := hide (show ∃ far q, InvRc ls opn r (objs r) far q ∧ unmetN far + q.length ≤ gk - 1 ∧ St B w.heap.size w2.heap.size (w2.heap.size + 1) n (.slice (some ⟨gb, goff, none⟩) ls.length c0) wr far q from by
               obtain ⟨far3, q3, hM, hs3, hSt3⟩ := HI3.out; refine ⟨far3, q3, inv_shut hM.1 fun _ v hv hi => hM.2 v ?_ hi, by omega, hSt3⟩; rw [HRw.out, List.take_of_length_le (by omega), ← HRw.out]; exact hv)
              clear HI3; go_wp2; go_roundg (gk - 1)
              case measure => omega
              case rel => exact ⟨HE3, HK3⟩
         · have hof : hasF opn ((j : Int) + 1) = false := by simpa using ho
           rw [hof]; have HO := hide ho; clear ho hof; go_wp2; go_roundg (gk - 1)
           case measure => omega
           case rel => exact ⟨hide ⟨far, _, inv_shut HInv.out (fun h => absurd h HO.out), by omega, HSp.out⟩, HKp⟩
open Go.Shelf
theorem dst_ne (ls : Rws) (opn r : Nat) (x : Int) : dstF ls opn r x ≠ -1 ↔ hasF (levF ls opn r 64) x = true := by
 unfold dstF; rcases hf : (List.range 65).find? fun k => hasF (levF ls opn r k) x with _ | k
 · simp only [ne_eq, not_true_eq_false, false_iff]
   intro h; exact List.find?_eq_none.1 hf 64 (by simp) h
 · have h1 := List.find?_some hf
   have h2 := List.mem_range.1 (List.mem_of_find?_eq_some hf); simp only [ne_eq]; exact ⟨fun _ => lev_mono _ _ _ _ h1 64 (by omega), fun _ => by omega⟩
theorem far_len (ls : Rws) (opn r : Nat) : (farF ls opn r).length = 64 := by simp [farF]
theorem farA_far (ls : Rws) (opn r : Nat) (x : Int) (hx : 1 ≤ x ∧ x ≤ 64) : farA (farF ls opn r) x = dstF ls opn r x := by
 obtain ⟨i, rfl⟩ : ∃ i : Nat, x = (i : Int) + 1 := ⟨(x - 1).toNat, by omega⟩; unfold farA farF; rw [List.getD_eq_getElem?_getD, show ((i : Int) + 1 - 1).toNat = i by omega, List.getElem?_map, List.getElem?_range (by omega)]; rfl
theorem metS_far (ls : Rws) (opn : Nat) {r : Nat} (hr : r < 18446744073709551616) : metS (farF ls opn r) 64 = levF ls opn r 64 := by
 refine has_extRc (metS_lt _ _) (lev_lt _ _ hr _) fun x => ?_
 rw [has_metS _ _ 64 (Nat.le_refl _)]; constructor
 · rintro ⟨a, b, c⟩
   rw [farA_far _ _ _ _ ⟨a, by omega⟩] at c; exact (dst_ne ..).1 c
 · intro h
   have hx := has_rng h; exact ⟨hx.1, by omega, by rw [farA_far _ _ _ _ hx]; exact (dst_ne ..).2 h⟩
theorem every_walk (n : Int) (u : Value) (ls : Rws) (r : Nat) (w : World) (hr : r < 18446744073709551616) (hG : Grid w u ls) (hE : EnvT w) :
 Calls Tryz.prog 91 #[hv n u, .int .u64 r, .func (.func 92) #[] #[]] w fun e w' => e = .returned (.agg (fa (farF ls allNRc r))) ∧ Below w.heap.size w w' :=
 walk_any 92 #[] allNRc n u ls r w hr hG hE (enters_of Tryz.func92 (by kernel_rfl) rfl)
  (fun o w' h1 h2 _ => by rw [has_all o ⟨h1, h2⟩]; exact every_any o w')
theorem From_any (n : Int) (u : Value) (ls : Rws) (r : Nat) (w : World) (hr : r < 18446744073709551616) (hG : Grid w u ls) (hE : EnvT w) :
 Calls Tryz.prog 60 #[hv n u, .int .u64 r] w fun e w' => e = .returned (.int .u64 (fromF ls r : Nat)) ∧ Below w.heap.size w w' := by
 have HG := hide hG; have HE := hide hE; obtain ⟨F, hF⟩ : ∃ F, farF ls allNRc r = F := ⟨_, rfl⟩; have hFl : F.length = 64 := by rw [← hF]; exact far_len _ _ _
 have hm := metS_far ls allNRc hr; rw [hF] at hm; have HM := hide hm; have HF := hide hF; clear hG hE hm hF; go_enter Tryz.func60, Tryz.ntmps60
 go_wp2_with fail
 (with_reducible refine (every_walk n u ls r _ hr (HG.out.alloc _) (HE.out.alloc _)).mono ?_); rintro e w1 ⟨rfl, hb1⟩; rw [HF.out]; go_wp2_with fail
 (with_reducible refine (metset_any F hFl _).mono ?_); rintro e w2 ⟨rfl, hb2⟩; rw [HM.out]; go_wp2; go_ret
 exact ⟨rfl, bcall (bcall (balHp _ _) hb1) hb2⟩
end Go.Proofs.YtjbaiibbgplljaaGreatDoor
namespace Go.Proofs.YtjbaiibbgplljaaGreatDoor
open Go.RowKit
def nextI (ls : Rws) (s k : Nat) : Nat := ((objs s).take k).foldl (fun a o => a ||| (ofF (rowF ls o) &&& ownFRc ls)) 0
theorem nextI_lt (ls : Rws) (s k : Nat) : nextI ls s k < 18446744073709551616 := fold_lt _ (fun _ => land_lt _ (ofF_lt _)) _ _ (by decide)
theorem nextI_succ (ls : Rws) (s k : Nat) (h : k < (objs s).length) : nextI ls s (k + 1) = nextI ls s k ||| (ofF (rowF ls (objs s)[k]) &&& ownFRc ls) := by
 unfold nextI; rw [List.take_succ_eq_append_getElem h, List.foldl_append]; rfl
theorem nextI_end (ls : Rws) (s k : Nat) (h : (objs s).length ≤ k) : nextI ls s k = nextF ls s := by
 unfold nextI nextF; rw [List.take_of_length_le h]
theorem rown_any (n : Int) (v : Value) (ls : Rws) (w : World) (h : Grid w v ls) :
 Calls Tryz.prog 94 #[hv n v] w fun e w' => e = .returned (.int .u64 (ownFRc ls : Nat)) ∧ Below w.heap.size w w' := by
 obtain ⟨A, c, rfl, h1, h2⟩ := h.form; unfold maxLen at h2; clear h; go_enter Tryz.func94, Tryz.ntmps94
 go_wp2_with fail
 (with_reducible refine (rFirst_any _ _ (by omega) (by omega)).mono ?_); rintro e w' ⟨rfl, rfl⟩; go_wp2; go_ret
 exact ⟨rfl, balHp _ _⟩
theorem rown_c (n : Int) (v : Value) (ls : Rws) (w : World) (h : Grid w v ls) (O : Nat) (hO : ownFRc ls = O) :
 Calls Tryz.prog 94 #[hv n v] w fun e w' => e = .returned (.int .u64 (O : Nat)) ∧ Below w.heap.size w w' := by
 subst hO; exact rown_any n v ls w h
theorem rOf_b (v : Value) (l : List Int) (w : World) (hl : Ints w v l) (hr : ∀ o ∈ l, -9223372036854775808 ≤ o ∧ o ≤ 9223372036854775807) (O : Nat) (hO : ofF l = O) :
 Calls Tryz.prog 59 #[v] w fun e w' => e = .returned (.int .u64 (O : Nat)) ∧ Below w.heap.size w w' := by
 subst hO; exact (rOf_anySt v l w hl hr).mono fun e w' ⟨h1, h2⟩ => ⟨h1, by rw [h2]; exact Below.refl _ _⟩
theorem rnext_any (n : Int) (v : Value) (ls : Rws) (s : Nat) (w : World) (hs : s < 18446744073709551616) (h : Grid w v ls) (hr : Rng ls) (hin : ∀ o, hasF s o = true → o ≤ ls.length) :
 Calls Tryz.prog 136 #[hv n v, .int .u64 s] w fun e w' => e = .returned (.int .u64 (nextF ls s : Nat)) ∧ Below w.heap.size w w' := by
 have HG := hide h; have HR := hide hr; have HIn := hide hin; obtain ⟨A, c, rfl, h1, h2⟩ := h.form; unfold maxLen at h2; obtain ⟨w1, e1, hb1, -, -, x0, x1⟩ := box1Hp w (.int .i64 n) (.slice A ls.length c) 36; have H1 := hide e1; have hs1 : w1.heap.size = w.heap.size + 1 := by rw [← e1]; simp
 obtain ⟨O, hO⟩ : ∃ O, ownFRc ls = O := ⟨_, rfl⟩; have hOl : O < 18446744073709551616 := hO ▸ own_lt ls; have HO := hide hO; clear h hr hin e1 hO; go_enter Tryz.func136, Tryz.ntmps136
 go_wp2_with fail
 rw [H1.out]; (with_reducible refine (rList_any s _ hs).mono ?_); rintro e w2 ⟨vl, rfl, hown, hb2⟩; have hI := Sl.of_own ic_len hown; obtain ⟨Al, cl, rfl, hl1, hl2, -⟩ := id hI; unfold maxLen at hl2; have HI := hide hI; have hol := objs_len s; clear hown hI; have X0 := hide (keepcHp hb2 x0); have X1 := hide (keepcHp hb2 x1); have hb02 := bcall hb1 hb2; clear x0 x1; go_wp2; go_loopw [5, 7] (fun t i wr => ∃ k : Nat, k ≤ (objs s).length ∧ i = .int .i64 k ∧ t = .int .u64 (nextI ls s k : Nat) ∧ Below w2.heap.size w2 wr) (fun _ i _ => (objs s).length - (intOf i).toNat)
 case atStart => exact ⟨0, Nat.zero_le _, rfl, rfl, Below.refl _ _⟩
 case round =>
  obtain ⟨k, hk, rfl, rfl, hb⟩ := hrel; have hbw := bcall hb02 hb; by_cases hlt : k < (objs s).length
  · have HN := hide (nextI_succ ls s k hlt)
    obtain ⟨lb, loff, rfl, hlb, hlc⟩ := ints_at HI.out hlt; obtain ⟨o, ho⟩ : ∃ o, (objs s)[k] = o := ⟨_, rfl⟩; rw [ho] at HN hlc; have hmo : hasF s o = true := mem_objs.1 (ho ▸ List.getElem_mem hlt); have hor := has_rng hmo; have hol2 := HIn.out o hmo; obtain ⟨j, rfl⟩ : ∃ j : Nat, o = (j : Int) + 1 := ⟨(o - 1).toNat, by omega⟩; have hjl : j < ls.length := by omega
    obtain ⟨gb, goff, uu, rfl, hgb, hgc, hgi⟩ := grid_at HG.out hjl; have hrow : rowF ls ((j : Int) + 1) = ls[j] := by rw [rowF_mem (by omega)]; simp
    rw [hrow] at HN; have hrr := HR.out ls[j] (List.getElem_mem hjl); obtain ⟨row, hrw⟩ : ∃ row, ls[j] = row := ⟨_, rfl⟩; rw [hrw] at hgi hrr HN; obtain ⟨Ar, cr, rfl, -, -, -⟩ := id hgi; have HRow := hide hgi; have HRR := hide hrr; have HNl := nextI_lt ls s k; obtain ⟨T, hT⟩ : ∃ T, nextI ls s k = T := ⟨_, rfl⟩; rw [hT] at HN HNl; rw [hT]; obtain ⟨V, hV⟩ : ∃ V, ofF row = V := ⟨_, rfl⟩; have hVl : V < 18446744073709551616 := hV ▸ ofF_lt row; rw [hV, HO.out] at HN; have HV := hide hV; have hand := bits_and_u64_nat V O hVl hOl; have hor := bits_or_u64_nat T (V &&& O) HNl (land_lt _ hVl); have clq : ∀ p : BW wr, p.w.cell? ⟨lb, loff + k, none⟩ = some (.int .i64 ((j : Int) + 1)) := fun p => ((bcell (bcall hb p.b)).1 lb (loff + k) hlb).trans hlc
    have cgq : ∀ p : BW wr, p.w.cell? ⟨gb, goff + j, none⟩ = some (.slice Ar row.length cr) := fun p => ((bcell (bcall hbw p.b)).1 gb (goff + j) hgb).trans hgc
    have x0q : ∀ p : BW wr, p.w.cell? ⟨w.heap.size, 0, none⟩ = some (.int .i64 n) := fun p => keepcHp (bcall hb p.b) X0.out
    have x1q : ∀ p : BW wr, p.w.cell? ⟨w.heap.size, 1, none⟩ = some (.slice (some ⟨gb, goff, none⟩) ls.length c) := fun p => keepcHp (bcall hb p.b) X1.out
    have HGq := hide (fun p : BW wr => HG.out.below (bcall hbw p.b)); have HRq := hide (fun p : BW wr => HRow.out.below (bcall hbw p.b)); clear hlc hgc hgi hrow hrw hT hV ho hmo hrr; go_wp2; refine wp_region_below (by kernel_rfl) (by kernel_rfl) ?_; repeat (go_big_quiet_step (first | (with_reducible refine below_of (rOf_b _ row _ (HRq.out _) HRR.out V HV.out)) | (with_reducible refine below_of (rown_c n _ ls _ (HGq.out _) O HO.out))))
    refine wpQuiet_nil ?_; intro _ hw'; obtain ⟨⟨wq, bq⟩, hw''⟩ := hw'; subst hw''; go_wp2; go_roundw
    case rel => exact ⟨k + 1, by omega, by go_num, by rw [HN.out], bcall hb bq⟩
    case measure => simp [intOf]; omega
  · have HE := hide (nextI_end ls s k (by omega))
    go_wp2; go_ret
    exact ⟨by rw [← HE.out]; rfl, hbw⟩
theorem rnext_c (n : Int) (v : Value) (ls : Rws) (s : Nat) (w : World) (hs : s < 18446744073709551616) (h : Grid w v ls) (hr : Rng ls) (hin : ∀ o, hasF s o = true → o ≤ ls.length) (O : Nat) (hO : nextF ls s = O) :
 Calls Tryz.prog 136 #[hv n v, .int .u64 s] w fun e w' => e = .returned (.int .u64 (O : Nat)) ∧ Below w.heap.size w w' := by
 subst hO; exact rnext_any n v ls s w hs h hr hin
theorem lev_ref (ls : Rws) (r o k : Nat) (hr : r < 18446744073709551616) : levF ls (r ||| o) r k &&& ((r &&& ownFRc ls) ||| o) = levF ls (r ||| o) r k &&& (r ||| o) := by
 have hl := lev_lt ls (r ||| o) hr k; refine has_extRc (land_lt _ hl) (land_lt _ hl) fun x => ?_
 rw [has_andRc, has_andRc, has_orRc, has_orRc, has_andRc, has_own]; constructor
 · intro h
   rw [Bool.and_eq_true, Bool.or_eq_true, Bool.and_eq_true] at h; rw [Bool.and_eq_true, Bool.or_eq_true]; exact ⟨h.1, h.2.imp (·.1) id⟩
 · intro h
   rw [Bool.and_eq_true, Bool.or_eq_true] at h; rw [Bool.and_eq_true, Bool.or_eq_true, Bool.and_eq_true, decide_eq_true_iff]; exact ⟨h.1, h.2.imp (fun a => ⟨a, lev_in _ _ _ _ _ h.1⟩) id⟩
theorem lev_stop (ls : Rws) (opn k : Nat) {r : Nat} (hr : r < 18446744073709551616) (h : levF ls opn r (k + 1) = levF ls opn r k) : levF ls opn r k = levF ls opn r 64 := by
 by_cases hk : k ≤ 64
 · exact (lev_stable ls opn r k h 64 hk).symm
 · exact lev_64 ls opn hr k (by omega)
theorem via_own (ls : Rws) {r : Nat} (hr : r < 18446744073709551616) : viaF ls r (ownFRc ls) = fromF ls r := by
 refine has_extRc (via_lt ls _ hr) (from_lt ls hr) fun x => ?_
 rw [via_has hr, from_has hr]; constructor
 · exact fun h => h.mono (fun y hy => has_all y (has_rng hy)) fun y hy hi => .root hy hi
 · intro h
   induction h with
   | root h hx => exact .root h hx
   | step hy _ hm hx ih => exact .step ih (by rw [has_orRc, has_own, decide_eq_true hy.inO, Bool.or_true]) hm hx
theorem rVia_any (n : Int) (v : Value) (ls : Rws) (r o : Nat) (w : World) (hr : r < 18446744073709551616) (ho : o < 18446744073709551616) (h : Grid w v ls) (hR : Rng ls) :
 Calls Tryz.prog 93 #[hv n v, .int .u64 r, .int .u64 o] w fun e w' => e = .returned (.int .u64 (viaF ls r o : Nat)) ∧ Below w.heap.size w w' := by
 have HG := hide h; have HR := hide hR; obtain ⟨w1, e1, hb1, -, -, x0, x1⟩ := box1Hp w (.int .i64 n) v 36; have H1 := hide e1; obtain ⟨O, hO⟩ : ∃ O, ownFRc ls = O := ⟨_, rfl⟩; have hOl : O < 18446744073709551616 := hO ▸ own_lt ls; have HL0 := hide (show levF ls (r ||| o) r 0 = r &&& O by rw [← hO]; rfl); have hrO := land_lt O hr; have HLR := hide (fun k => lev_ref ls r o k hr); rw [hO] at HLR; have HO := hide hO; obtain ⟨P, hP⟩ : ∃ P, (r &&& O) ||| o = P := ⟨_, rfl⟩
 have hPl : P < 18446744073709551616 := hP ▸ lor_lt hrO ho; rw [hP] at HLR; have hand := bits_and_u64_nat r O hr hOl; have hor := bits_or_u64_nat (r &&& O) o hrO ho; rw [hP] at hor; clear h hR e1 hO hP; go_enter Tryz.func93, Tryz.ntmps93
 go_wp2_with fail
 rw [H1.out]; (with_reducible refine (rown_c n v ls _ (HG.out.below hb1) O HO.out).mono ?_); rintro e w2 ⟨rfl, hb2⟩; have x0 := keepcHp hb2 x0; have x1 := keepcHp hb2 x1; have hb02 := bcall hb1 hb2; go_wp2_with fail
 go_loopw [7] (fun t wr => ∃ k : Nat, t = .int .u64 (levF ls (r ||| o) r k : Nat) ∧ Below w2.heap.size w2 wr) (fun t _ => 64 - cntF (intOf t).toNat)
 case atStart => exact ⟨0, by rw [HL0.out], Below.refl _ _⟩
 case round =>
  obtain ⟨k, rfl, hb⟩ := hrel; have hbw := bcall hb02 hb; have x0 := keepcHp hb x0; have x1 := keepcHp hb x1; have hSl := lev_lt ls (r ||| o) hr k; have hS1l := lev_lt ls (r ||| o) hr (k + 1); have hst := lev_stop ls (r ||| o) k hr; have hin : ∀ y, hasF (levF ls (r ||| o) r k &&& P) y = true → y ≤ ls.length := fun y hy => by
   rw [has_andRc, Bool.and_eq_true] at hy; exact (lev_in _ _ _ _ _ hy.1).2.2
  have hnx : levF ls (r ||| o) r k ||| nextF ls (levF ls (r ||| o) r k &&& P) = levF ls (r ||| o) r (k + 1) := by rw [HLR.out k]; rfl
  have hgrow := cnt_more hSl hS1l (fun y hy => (has_levS ..).2 (.inl hy)); have hcle := cnt_le (levF ls (r ||| o) r (k + 1)); obtain ⟨S, hS⟩ : ∃ S, levF ls (r ||| o) r k = S := ⟨_, rfl⟩; obtain ⟨S1, hS1⟩ : ∃ S, levF ls (r ||| o) r (k + 1) = S := ⟨_, rfl⟩; rw [hS] at hSl hin hnx hgrow hst ⊢; rw [hS1] at hS1l hnx hgrow hst hcle; have hand2 := bits_and_u64_nat S P hSl hPl; have hSPl := land_lt P hSl; obtain ⟨X, hX⟩ : ∃ X, nextF ls (S &&& P) = X := ⟨_, rfl⟩; have hXl : X < 18446744073709551616 := hX ▸ next_lt _ _; rw [hX] at hnx; have hor2 := bits_or_u64_nat S X hSl hXl; rw [hnx] at hor2; have HX := hide hX; have HI := hide hin; have HS1 := hide hS1; have HST := hide hst; have HGr := hide hgrow; clear hX hin hnx hS hS1 hst hgrow; by_cases he : S1 = S
  · have hv := hide (show viaF ls r o = S from (HST.out he).symm)
    subst he; go_wp2_with fail
    (with_reducible refine (rnext_c n v ls (S1 &&& P) _ hSPl (HG.out.below hbw) HR.out HI.out X HX.out).mono ?_); rintro e w3 ⟨rfl, hb3⟩; go_wp2; go_ret
    exact ⟨by rw [hv.out]; rfl, bcall hbw hb3⟩
  · have hlt : cntF S < cntF S1 := by
     rcases HGr.out with h | h
     · exact absurd h.symm he
     · exact h
    have hne : ((S1 : Int) == (S : Int)) = false := by rw [beq_eq_false_iff_ne]; omega
    go_wp2_with fail
    (with_reducible refine (rnext_c n v ls (S &&& P) _ hSPl (HG.out.below hbw) HR.out HI.out X HX.out).mono ?_); rintro e w3 ⟨rfl, hb3⟩; go_wp2; go_roundw
    case rel => exact ⟨k + 1, by rw [HS1.out], bcall hb hb3⟩
    case measure => simp [intOf]; omega
theorem rVia_c (n : Int) (v : Value) (ls : Rws) (r o : Nat) (w : World) (hr : r < 18446744073709551616) (ho : o < 18446744073709551616) (h : Grid w v ls) (hR : Rng ls) (O : Nat) (hO : viaF ls r o = O) :
 Calls Tryz.prog 93 #[hv n v, .int .u64 r, .int .u64 o] w fun e w' => e = .returned (.int .u64 (O : Nat)) ∧ Below w.heap.size w w' := by
 subst hO; exact rVia_any n v ls r o w hr ho h hR
theorem rFrom_any (n : Int) (v : Value) (ls : Rws) (r : Nat) (w : World) (hr : r < 18446744073709551616) (h : Grid w v ls) (hR : Rng ls) :
 Calls Tryz.prog 61 #[hv n v, .int .u64 r] w fun e w' => e = .returned (.int .u64 (fromF ls r : Nat)) ∧ Below w.heap.size w w' := by
 have HG := hide h; have HR := hide hR; obtain ⟨w1, e1, hb1, -, -, x0, x1⟩ := box1Hp w (.int .i64 n) v 36; have H1 := hide e1; obtain ⟨O, hO⟩ : ∃ O, ownFRc ls = O := ⟨_, rfl⟩; have hOl : O < 18446744073709551616 := hO ▸ own_lt ls; have HV := hide (show viaF ls r O = fromF ls r by rw [← hO]; exact via_own ls hr); have HO := hide hO; have HG1 := hide (HG.out.below hb1); clear h hR e1 hO; have x0q : ∀ p : BW w1, p.w.cell? ⟨w.heap.size, 0, none⟩ = some (.int .i64 n) := fun p => keepcHp p.b x0
 have x1q : ∀ p : BW w1, p.w.cell? ⟨w.heap.size, 1, none⟩ = some v := fun p => keepcHp p.b x1
 have HGq := hide (fun p : BW w1 => HG1.out.below p.b); go_enter Tryz.func61, Tryz.ntmps61
 go_wp2; rw [H1.out]; refine wp_region_below (by kernel_rfl) (by kernel_rfl) ?_; repeat (go_big_quiet_step (first | (with_reducible refine below_of (rVia_c n v ls r O _ hr hOl (HGq.out _) HR.out _ HV.out)) | (with_reducible refine below_of (rown_c n v ls _ (HGq.out _) O HO.out))))
 refine wpQuiet_nil ?_; intro _ hw'; obtain ⟨⟨wq, bq⟩, hw''⟩ := hw'; subst hw''; go_wp2; go_ret
 exact ⟨rfl, bcall hb1 bq⟩
