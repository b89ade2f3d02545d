import Derived.Test.YtjbaiibbgplljaaGreatDoorPav
import Derived.Test.YtjbaiibbgplljaaGreatDoorPag
set_option maxRecDepth 100000
set_option maxHeartbeats 40000000
namespace Go.Proofs.YtjbaiibbgplljaaGreatDoor
open Go.RowKit
structure St (B Bh Bf Bw : Nat) (n : Int) (u : Value) (w : World) (far q : List Int) : Prop where
 h0 : w.cell? ⟨Bh, 0, none⟩ = some (.int .i64 n)
 h1 : w.cell? ⟨Bh, 1, none⟩ = some u
 far : FarAt w Bf far
 wait : ∃ v, w.heap[Bw]? = some (.cells #[v] 67 (0, 0)) ∧ OwnsQ w B 3 v (q.map (Value.int .i64))
 size : B ≤ w.heap.size
structure Kp (B Bf Bw : Nat) (w w' : World) : Prop where
 os : w'.os = w.os
 tape : w'.tape = w.tape
 output : w'.output = w.output
 size : w.heap.size ≤ w'.heap.size
 block : ∀ k, k < B → k ≠ Bf → k ≠ Bw → w'.heap[k]? = w.heap[k]?
section
variable {B Bh Bf Bw : Nat} {n : Int} {u : Value} {w w' w'' : World} {far q : List Int}
theorem St.below (h : St B Bh Bf Bw n u w far q) (hb : Below w.heap.size w w') : St B Bh Bf Bw n u w' far q := by
 obtain ⟨a, b, c, ⟨v, d, e⟩, f⟩ := h; exact ⟨keepcHp hb a, keepcHp hb b, (hb.block _ (lt_of_block c)).trans c, ⟨v, (hb.block _ (lt_of_block d)).trans d, e.below hb⟩, Nat.le_trans f hb.size⟩
theorem Kp.of_below (hb : Below w.heap.size w w') (hB : B ≤ w.heap.size) : Kp B Bf Bw w w' := ⟨hb.os, hb.tape, hb.output, hb.size, fun k hk _ _ => hb.block k (by omega)⟩
theorem Kp.trans (h : Kp B Bf Bw w w') (k : Kp B Bf Bw w' w'') : Kp B Bf Bw w w'' :=
 ⟨k.os.trans h.os, k.tape.trans h.tape, k.output.trans h.output, Nat.le_trans h.size k.size, fun i a b c => (k.block i a b c).trans (h.block i a b c)⟩
theorem Kp.to_below {b : Nat} (h : Kp B Bf Bw w w') (h1 : b ≤ Bf) (h2 : b ≤ Bw) (h3 : b ≤ B) : Below b w w' := ⟨h.os, h.tape, h.output, h.size, fun k hk => h.block k (by omega) (by omega) (by omega)⟩
end
theorem new_cell {w : World} {b : Nat} {x : Value} {t : TypeId} (h : w.heap.size = b) : (w.alloc (.cells #[x] t)).cell? ⟨b, 0, none⟩ = some x := by
 subst h; exact cell_of_one (t := t) (heap_alloc_new w _)
theorem cell_block {w w' : World} {b o : Nat} (h : w'.heap[b]? = w.heap[b]?) : w'.cell? ⟨b, o, none⟩ = w.cell? ⟨b, o, none⟩ := by simp [World.cell?, h]
section
variable {B Bh Bf Bw : Nat} {n : Int} {u v v' : Value} {w1 w3 : World} {far q : List Int} {k : Nat} {o d : Int} {ob : Obj}
theorem meet_blk (hsz : B ≤ w1.heap.size) (hQ1 : OwnsQ w1 B 3 v (q.map (Value.int .i64))) (hg : ((w1.setCell ⟨Bf, k, none⟩ (.int .i64 d)).alloc ob).grownBy w3 v.ownBlock) : ∀ j, j < B → j ≠ Bf → w3.heap[j]? = w1.heap[j]? := fun j hj hne => by
 rw [hg.block j (by simp [World.setCell]; omega) (fun e => by have := hQ1.ge j e.symm; omega), Go.heap_alloc_old (h := by simp [World.setCell]; omega)]; exact heap_setCell_other _ _ _ _ hne
theorem meet_far (hsz : B ≤ w1.heap.size) (hBf : Bf < B) (hF : FarAt w1 Bf far) (hQ1 : OwnsQ w1 B 3 v (q.map (Value.int .i64))) (hg : ((w1.setCell ⟨Bf, k, none⟩ (.int .i64 d)).alloc ob).grownBy w3 v.ownBlock) : FarAt w3 Bf (far.set k d) := by
 show _ = _
 rw [hg.block Bf (by simp [World.setCell]; omega) (fun e => by have := hQ1.ge Bf e.symm; omega), Go.heap_alloc_old (h := by simp [World.setCell]; omega)]; exact far_set hF k d
theorem meet_end (hBh : Bh < B) (hBf : Bf < B) (hBw : Bw < B) (n1 : Bh ≠ Bf) (n2 : Bh ≠ Bw) (n3 : Bf ≠ Bw) (hst : St B Bh Bf Bw n u w1 far q) (hQ1 : OwnsQ w1 B 3 v (q.map (Value.int .i64))) (hW1 : w1.heap[Bw]? = some (.cells #[v] 67 (0, 0)))
 (hg : ((w1.setCell ⟨Bf, k, none⟩ (.int .i64 d)).alloc ob).grownBy w3 v.ownBlock) (hQ3 : OwnsQ w3 B 3 v' (q.map (Value.int .i64) ++ [.int .i64 o])) :
 St B Bh Bf Bw n u (w3.setCell ⟨Bw, 0, none⟩ v') (far.set k d) (q ++ [o]) ∧ Kp B Bf Bw w1 (w3.setCell ⟨Bw, 0, none⟩ v') := by
 have hb := meet_blk hst.size hQ1 hg; have hsz3 : w1.heap.size ≤ w3.heap.size := by have := hg.size; simp [World.setCell] at this; omega
 refine ⟨⟨?_, ?_, ?_, ⟨v', ?_, ?_⟩, ?_⟩, ⟨hg.os, hg.tape, hg.output, by simpa [World.setCell] using hsz3, fun j hj a b => ?_⟩⟩
 · rw [cell_block (heap_setCell_other _ _ _ _ n2), cell_block (hb _ hBh n1)]; exact hst.h0
 · rw [cell_block (heap_setCell_other _ _ _ _ n2), cell_block (hb _ hBh n1)]; exact hst.h1
 · show _ = _
   rw [heap_setCell_other _ _ _ _ n3]; exact meet_far hst.size hBf hst.far hQ1 hg
 · exact one_setCell ((hb _ hBw n3.symm).trans hW1)
 · rw [List.map_append]; exact hQ3.setCell_other hBw _
 · have := hst.size; simp [World.setCell]; omega
 · rw [heap_setCell_other _ _ _ _ b]; exact hb j hj a
end
theorem meet_any (B Bh Bf Bw : Nat) (n : Int) (u : Value) (ls : Rws) (far q : List Int) (o d : Int) (w : World) (hBh : Bh < B) (hBf : Bf < B) (hBw : Bw < B) (n1 : Bh ≠ Bf) (n2 : Bh ≠ Bw) (n3 : Bf ≠ Bw)
 (hst : St B Bh Bf Bw n u w far q) (hl : far.length = 64) (hq : q.length ≤ 64) (hG : Grid w u ls) :
 Calls Tryz.prog 133 #[.int .i64 o, .int .i64 d, .pointer (some ⟨Bh, 0, none⟩), .pointer (some ⟨Bf, 0, none⟩), .pointer (some ⟨Bw, 0, none⟩)] w fun e w' =>
  e = .returned (.tuple #[]) ∧ St B Bh Bf Bw n u w' (meetFar ls far o d) (meetQ ls far q o) ∧ Kp B Bf Bw w w' := by
 have HST := hide hst; have HG := hide hG; obtain ⟨hh0, hh1, hF, ⟨v, hW, hQ⟩, hsz⟩ := hst; have no : meetOk ls far o = false → meetFar ls far o d = far ∧ meetQ ls far q o = q := fun h => by unfold meetFar meetQ; rw [h]; exact ⟨rfl, rfl⟩
 by_cases hA : o < 1
 · have hno := hide (no (by unfold meetOk; rw [decide_eq_false (by omega)]; rfl))
   have HK := hide (Kp.of_below (B := B) (Bf := Bf) (Bw := Bw) (Below.refl w.heap.size w) hsz); clear no hF hW hQ hG hh0 hh1; go_enter Tryz.func133, Tryz.ntmps133
   go_wp2; refine bodyPost_ret (results_none rfl _ _ _) rfl ⟨rfl, ?_, HK.out⟩; rw [hno.out.1, hno.out.2]; exact HST.out
 · obtain ⟨k, rfl⟩ : ∃ k : Nat, o = (k : Int) + 1 := ⟨(o - 1).toNat, by omega⟩
   by_cases hB : min (ls.length : Int) 64 < (k : Int) + 1
   · have hno := hide (no (by unfold meetOk; rw [decide_eq_false (by omega)]; rfl))
     clear no hF hW hQ hG; go_enter Tryz.func133, Tryz.ntmps133
     go_wp2_with fail
     (with_reducible refine (count_any n u ls _ HG.out).mono ?_); rintro e w1 ⟨rfl, hb⟩; go_wp2; refine bodyPost_ret (results_none rfl _ _ _) rfl ⟨rfl, ?_, Kp.of_below hb hsz⟩; rw [hno.out.1, hno.out.2]; exact HST.out.below hb
   · have hk64 : k < 64 := by omega
     have hkl : k < ls.length := by omega
     have hfk : farA far ((k : Int) + 1) = far[k] := by
      unfold farA; rw [List.getD_eq_getElem?_getD, show ((k : Int) + 1 - 1).toNat = k by omega, List.getElem?_eq_getElem (by omega)]; rfl
     by_cases hC : far[k] = -1
     · have hok := hide (show meetOk ls far ((k : Int) + 1) = true from meetOk_iff.2 ⟨by omega, by rw [hfk]; exact hC⟩)
       have HCk := hide hC; clear no hF hW hQ hG hfk hC; go_enter Tryz.func133, Tryz.ntmps133
       go_wp2_with fail
       (with_reducible refine (count_any n u ls _ HG.out).mono ?_); rintro e w1 ⟨rfl, hb⟩; have HS1 := hide (HST.out.below hb); obtain ⟨v1, hW1, hQ1⟩ := HS1.out.wait; have HW1 := hide hW1; have HQ1 := hide hQ1; have HB := hide hb; have c1 := far_cell HS1.out.far k (by omega); rw [HCk.out] at c1; have f1 := far_free HS1.out.far k; have cw := cell_of_one hW1; have n3' := n3.symm; obtain ⟨i0, hi, hz0, hz1, hz2⟩ := info_parts infoInt; have hq1 : (q.map (Value.int .i64)).length = q.length := by simp
       have HQL := hide hq1; have hs1 := HS1.out.size; clear hW1 hQ1 hb hh0 hh1 hq1; go_wp2_with (at_builtin; refine wpList_append_q _ rfl _ _ 67 rfl B 3 i0 (.int .i64 0) 8 Tryz.underlying67 hi hz0 hz1 hz2 rfl v1 (q.map (Value.int .i64)) rfl ((HQ1.out.setCell_other (p := ⟨Bf, k, none⟩) hBf (.int .i64 d)).below (balHp _ _)) _ 1 (.int .i64 ((k : Int) + 1)) rfl (new_cell (by simp [World.setCell])) rfl (by rw [HQL.out]; unfold maxLen; omega) (by rw [HQL.out]; omega) (by simp [World.setCell]; omega) ?_; intro v' w3 hQ3 hg3; obtain ⟨A3, c3, rfl, -, -⟩ := hQ3.form; rw [show (q.map (Value.int .i64) ++ [Value.int .i64 ((k : Int) + 1)]).length = q.length + 1 by simp] at hQ3; have HQ3 := hide hQ3; have HG3 := hide hg3; have hW3 := (meet_blk HS1.out.size HQ1.out hg3 Bw hBw n3').trans HW1.out; have cw3 := cell_of_one hW3; have fw3 := free_of_one hW3; clear hW3 hQ3 hg3)
       obtain ⟨a, b⟩ := meet_end hBh hBf hBw n1 n2 n3 HS1.out HQ1.out HW1.out HG3.out HQ3.out; go_end0
       refine ⟨rfl, ?_, (Kp.of_below HB.out hsz).trans b⟩; unfold meetFar meetQ; rw [hok.out, if_pos rfl, if_pos rfl, show ((k : Int) + 1 - 1).toNat = k by omega]; exact a
     · have hno := hide (no (by
        cases h : meetOk ls far ((k : Int) + 1) with
        | false => rfl
        | true => exact absurd (hfk ▸ (meetOk_iff.1 h).2) hC))
       obtain ⟨x, hx⟩ : ∃ x, far[k] = x := ⟨_, rfl⟩; rw [hx] at hC; have HX := hide hx; have hxb : (x != -1) = true := by simpa using hC
       clear no hF hW hQ hG hfk hx; go_enter Tryz.func133, Tryz.ntmps133
       go_wp2_with fail
       (with_reducible refine (count_any n u ls _ HG.out).mono ?_); rintro e w1 ⟨rfl, hb⟩; have c1 := far_cell (HST.out.below hb).far k (by omega); rw [HX.out] at c1; go_wp2; refine bodyPost_ret (results_none rfl _ _ _) rfl ⟨rfl, ?_, Kp.of_below hb hsz⟩; rw [hno.out.1, hno.out.2]; exact HST.out.below hb
