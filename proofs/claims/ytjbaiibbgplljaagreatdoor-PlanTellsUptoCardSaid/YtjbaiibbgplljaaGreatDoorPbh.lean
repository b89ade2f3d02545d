import Derived.Deep.RegionWith
import Derived.Deep.LoopGhost
import Derived.RegionDies
import Derived.Recover
import Derived.Defers
import Derived.Test.YtjbaiibbgplljaaGreatDoorPbe
import Derived.Test.YtjbaiibbgplljaaGreatDoorPag
set_option maxRecDepth 100000
set_option maxHeartbeats 40000000
namespace Go.Proofs.YtjbaiibbgplljaaGreatDoor
open Go.RowKit Go.Shelf Go.Proofs
def RestAt (g : Nat) (l : B8) (w : World) : Prop := w.heap[g]? = some (.cells #[.string ⟨l.toArray⟩] 216 (0, 0))
theorem RestAt.cell {g : Nat} {l : B8} {w : World} (h : RestAt g l w) : w.cell? ⟨g, 0, none⟩ = some (.string ⟨l.toArray⟩) := cell_of_one h
theorem RestAt.free {g : Nat} {l : B8} {w : World} (h : RestAt g l w) : w.frozen? ⟨g, 0, none⟩ = false := free_of_one h
theorem RestAt.lt {g : Nat} {l : B8} {w : World} (h : RestAt g l w) : g < w.heap.size := lt_of_block h
theorem RestAt.below {g : Nat} {l : B8} {w w' : World} (h : RestAt g l w) (hb : Below w.heap.size w w') : RestAt g l w' := (hb.block g h.lt).trans h
theorem RestAt.set {g : Nat} {l l' : B8} {w : World} (h : RestAt g l w) : RestAt g l' (w.setCell ⟨g, 0, none⟩ (.string ⟨l'.toArray⟩)) := one_setCell h
theorem gset {w : World} {g : Nat} (v : Value) : w.grownBy (w.setCell ⟨g, 0, none⟩ v) (some g) :=
 ⟨rfl, rfl, rfl, by simp, fun k _ hk => heap_setCell_other w ⟨g, 0, none⟩ k v (fun e => hk (by simp [e]))⟩
theorem firstF_num {l : B8} {n : Int} (h : hFirstF l = some (.num n)) : 0 ≤ n ∧ n ≤ 9223372036854775807 ∧ (dec n).length ≤ l.length := by
 unfold hFirstF at h; split at h
 · cases h
 · split at h
   · rename_i m hm
     split at h
     · rename_i hd
       cases h
       refine ⟨atoi_pos (take_digits l) hm, (Go.Lib.atoiAll_bounds hm).2, ?_⟩; rw [hd]; have h2 := congrArg List.length (take_drop_while l); rw [List.length_append] at h2; omega
     · cases h
   · cases h
theorem firstF_mrk {l m : B8} (h : hFirstF l = some (.mrk m)) : m = l.take 1 := by
 unfold hFirstF at h; split at h
 · cases h; rfl
 · split at h
   · split at h <;> cases h
   · cases h
def Prt.len : Prt → Nat
 | .num n => (dec n).length
 | .mrk m => m.length
def Prt.val : Prt → Value
 | .num n => .iface 199 (.int .i64 n)
 | .mrk m => .iface 200 (.string ⟨m.toArray⟩)
def Pan (e : Ending) : Prop := ∃ u v, e = .panicked [{ v := .iface u v, recovered := false }]
theorem told_eq (p : Option Prt) (e : Ending) : Told p e ↔ match p with | some p => e = .returned p.val | none => Pan e := by
 cases p with
 | none => exact Iff.rfl
 | some p => cases p <;> exact Iff.rfl
theorem ext_drop (l : B8) (k : Nat) : (⟨l.toArray⟩ : ByteArray).extract k l.length = ⟨(l.drop k).toArray⟩ := by
 apply ByteArray.ext
 apply Array.ext'
 rw [ByteArray.data_extract, Array.toList_extract]; show (l.drop k).take (l.length - k) = l.drop k
 rw [List.take_of_length_le (by rw [List.length_drop]; omega)]
theorem next_any (g : Nat) (l : B8) (w : World) (hl : l.length ≤ 140737488351232) (hE : EnvH w) (hR : RestAt g l w) :
 Calls Tryz.prog 203 #[.pointer (some ⟨g, 0, none⟩)] w fun e w' =>
  (match hFirstF l with | some p => e = .returned p.val ∧ RestAt g (l.drop p.len) w' | none => Pan e) ∧ w.grownBy w' (some g) := by
 have hF := first_any l w hl hE; have HR := hide hR; have HE := hide hE; have c0 := hR.cell; rcases hf : hFirstF l with _ | p
 · rw [hf] at hF
   have HF := hide hF; clear hf hF hR hE; go_enter Tryz.func203, Tryz.ntmps203
   go_wp2_with fail
   (with_reducible refine HF.out.mono ?_); rintro e w1 ⟨⟨u, v, rfl⟩, hb⟩; go_wp2; exact ⟨rfl, ⟨_, _, rfl⟩, grown_of_below hb _⟩
 · rw [hf] at hF
   have HF := hide hF; obtain ⟨x, hx⟩ : ∃ x : ByteArray, (⟨l.toArray⟩ : ByteArray) = x := ⟨_, rfl⟩; have hxs : x.size = l.length := by rw [← hx, ba_size]
   obtain ⟨M, hM⟩ : ∃ M, l.length = M := ⟨_, rfl⟩; cases p with
   | num n =>
     obtain ⟨n0, n1, n2⟩ := firstF_num hf; have hx2 : x.extract (dec n).length M = ⟨(l.drop (dec n).length).toArray⟩ := by rw [← hx, ← hM]; exact ext_drop l _
     obtain ⟨y, hy⟩ : ∃ y : ByteArray, (⟨(l.drop (dec n).length).toArray⟩ : ByteArray) = y := ⟨_, rfl⟩; obtain ⟨f, hf2⟩ : ∃ f : ByteArray, (⟨(dec n).toArray⟩ : ByteArray) = f := ⟨_, rfl⟩; obtain ⟨K, hK⟩ : ∃ K, (dec n).length = K := ⟨_, rfl⟩; have hfs : f.size = K := by rw [← hf2, ba_size, hK]
     have hN := hide (fun w => number_text n n0 n1 w); rw [hf2] at hN; rw [hy, hK] at hx2; rw [hx] at c0 HF; rw [hM] at hxs hl n2; rw [hK] at n2; have HY := hide hy; have HK := hide hK; clear hf hF hR hE hx hM hy hf2 hK; go_enter Tryz.func203, Tryz.ntmps203
     go_wp2_with fail
     (with_reducible refine HF.out.mono ?_); rintro e w1 ⟨he, hb⟩; have he : e = .returned (.iface 199 (.int .i64 n)) := he; subst he; have c1 := keepcHp hb c0; have f1 := keepfHp hb c0 HR.out.free; have HE1 := hide ((HE.out.below hb).below ((Below.refl _ w1).drew)); have HD1 := hide (show Below w1.heap.size w1 w1.drew from (Below.refl _ w1).drew); have hm : ∀ w, (method 252 199 (.int .i64 n) "besom/heap.text").run Tryz.prog w = .ok (140, .int .i64 n) w := fun _ => by kernel_rfl
     go_wp2_with fail
     go_region_with (go_at_call 140; (with_reducible refine (hN.out _ HE1.out).mono ?_); rintro e w3 ⟨rfl, hb3⟩; have c3 := keepcHp (bcall HD1.out hb3) c1; have f3 := keepfHp (bcall HD1.out hb3) c1 f1)
     all_goals
      have hZ := hide (show RestAt g (l.drop (Prt.num n).len) (w3.setCell ⟨g, 0, none⟩ (.string y)) ∧ w.grownBy (w3.setCell ⟨g, 0, none⟩ (.string y)) (some g) from
       ⟨by rw [← HY.out]; exact (((HR.out.below hb).below HD1.out).below hb3).set, (grown_of_below (bcall (bcall hb HD1.out) hb3) (some g)).trans (gset _)⟩)
      clear hb3; go_wp2; go_ret
      exact ⟨⟨rfl, hZ.out.1⟩, hZ.out.2⟩
   | mrk m =>
     have hmm := firstF_mrk hf; have n2 : m.length ≤ l.length := by rw [hmm, List.length_take]; omega
     have hx2 : x.extract m.length M = ⟨(l.drop m.length).toArray⟩ := by rw [← hx, ← hM]; exact ext_drop l _
     obtain ⟨y, hy⟩ : ∃ y : ByteArray, (⟨(l.drop m.length).toArray⟩ : ByteArray) = y := ⟨_, rfl⟩; obtain ⟨f, hf2⟩ : ∃ f : ByteArray, (⟨m.toArray⟩ : ByteArray) = f := ⟨_, rfl⟩; obtain ⟨K, hK⟩ : ∃ K, m.length = K := ⟨_, rfl⟩; have hfs : f.size = K := by rw [← hf2, ba_size, hK]
     rw [hy, hK] at hx2; rw [hx] at c0 HF; rw [hM] at hxs hl n2; rw [hK] at n2; have HY := hide hy; have HK := hide hK; have HF2 := hide hf2; clear hf hF hR hE hx hM hy hf2 hK hmm; go_enter Tryz.func203, Tryz.ntmps203
     go_wp2_with fail
     (with_reducible refine HF.out.mono ?_); rintro e w1 ⟨he, hb⟩; have he : e = .returned (.iface 200 (.string f)) := by rw [← HF2.out]; exact he
     subst he; have c1 := keepcHp hb c0; have f1 := keepfHp hb c0 HR.out.free; have HD1 := hide (show Below w1.heap.size w1 w1.drew from (Below.refl _ w1).drew); have hm : ∀ w, (method 252 200 (.string f) "besom/heap.text").run Tryz.prog w = .ok (142, .string f) w := fun _ => by kernel_rfl
     go_wp2_with fail
     go_region_with (go_at_call 142; (with_reducible refine (mark_text _ _).mono ?_); rintro e w3 ⟨rfl, rfl⟩)
     all_goals
      have hZ := hide (show RestAt g (l.drop (Prt.mrk m).len) (w1.drew.setCell ⟨g, 0, none⟩ (.string y)) ∧ w.grownBy (w1.drew.setCell ⟨g, 0, none⟩ (.string y)) (some g) from
       ⟨by rw [← HY.out]; exact ((HR.out.below hb).below HD1.out).set, (grown_of_below (bcall hb HD1.out) (some g)).trans (gset _)⟩)
      go_wp2; go_ret
      exact ⟨⟨by rw [← HF2.out]; rfl, hZ.out.1⟩, hZ.out.2⟩
theorem as_nn (n : Int) (w : World) : (Instr.typeAssert (.iface 199 (.int .i64 n)) 252 199 true).run Tryz.prog w = .ok (.tuple #[.int .i64 n, .bool true]) w := by kernel_rfl
theorem as_mn (f : ByteArray) (w : World) : (Instr.typeAssert (.iface 200 (.string f)) 252 199 true).run Tryz.prog w = .ok (.tuple #[.int .i64 0, .bool false]) w := by kernel_rfl
theorem as_mm (f : ByteArray) (w : World) : (Instr.typeAssert (.iface 200 (.string f)) 252 200 true).run Tryz.prog w = .ok (.tuple #[.string f, .bool true]) w := by kernel_rfl
theorem as_nm (n : Int) (w : World) : (Instr.typeAssert (.iface 199 (.int .i64 n)) 252 200 true).run Tryz.prog w = .ok (.tuple #[.string .empty, .bool false]) w := by kernel_rfl
theorem rnumber_any (g : Nat) (l : B8) (w : World) (hl : l.length ≤ 140737488351232) (hE : EnvH w) (hR : RestAt g l w) :
 Calls Tryz.prog 182 #[.pointer (some ⟨g, 0, none⟩)] w fun e w' =>
  (match numF l with | some p => e = .returned (.int .i64 p.1) ∧ RestAt g p.2 w' | none => Pan e) ∧ w.grownBy w' (some g) := by
 have hN := next_any g l w hl hE hR; rcases hf : hFirstF l with _ | p
 · have hn : numF l = none := by unfold numF; rw [hf]
   rw [hf] at hN; rw [hn]; have HN := hide hN; clear hf hN hR hE hn; go_enter Tryz.func182, Tryz.ntmps182
   go_wp2_with fail
   (with_reducible refine HN.out.mono ?_); rintro e w1 ⟨⟨u, v, rfl⟩, hb⟩; go_wp2; exact ⟨rfl, ⟨_, _, rfl⟩, hb⟩
 · rw [hf] at hN
   cases p with
   | num n =>
     have hn : numF l = some (n, l.drop (dec n).length) := by unfold numF; rw [hf]
     rw [hn]; have HN := hide hN; obtain ⟨y, hy⟩ : ∃ y, l.drop (dec n).length = y := ⟨_, rfl⟩; have HY := hide hy; rw [hy]; clear hf hN hR hE hn hy; go_enter Tryz.func182, Tryz.ntmps182
     go_wp2_with fail
     (with_reducible refine HN.out.mono ?_); rintro e w1 ⟨⟨he, hr⟩, hb⟩; have he : e = .returned (.iface 199 (.int .i64 n)) := he; subst he; have hr2 := hide (show RestAt g y w1 by rw [← HY.out]; exact hr); clear hr HN HY he; have ha := as_nn n; go_wp2; go_ret
     exact ⟨⟨rfl, hr2.out⟩, hb⟩
   | mrk m =>
     have hn : numF l = none := by unfold numF; rw [hf]
     rw [hn]; have HN := hide hN; obtain ⟨f, hf2⟩ : ∃ f : ByteArray, (⟨m.toArray⟩ : ByteArray) = f := ⟨_, rfl⟩; have HF2 := hide hf2; clear hf hN hR hE hn hf2; go_enter Tryz.func182, Tryz.ntmps182
     go_wp2_with fail
     (with_reducible refine HN.out.mono ?_); rintro e w1 ⟨⟨he, hr⟩, hb⟩; have he : e = .returned (.iface 200 (.string f)) := by rw [← HF2.out]; exact he
     subst he; clear hr HN HF2 he; have ha := as_mn f; go_wp2; exact ⟨rfl, ⟨_, _, rfl⟩, hb⟩
theorem pass_any (c : UInt8) (g : Nat) (l : B8) (w : World) (hl : l.length ≤ 140737488351232) (hE : EnvH w) (hR : RestAt g l w) :
 Calls Tryz.prog 204 #[.pointer (some ⟨g, 0, none⟩), .string ⟨[c].toArray⟩] w fun e w' =>
  (match passF c l with | some l' => e = .returned (.tuple #[]) ∧ RestAt g l' w' | none => Pan e) ∧ w.grownBy w' (some g) := by
 have hN := next_any g l w hl hE hR; obtain ⟨k, hk⟩ : ∃ k : ByteArray, (⟨[c].toArray⟩ : ByteArray) = k := ⟨_, rfl⟩; have hkl : k.toList = [c] := by rw [← hk, ba_toList]
 rw [hk]; rcases hf : hFirstF l with _ | p
 · have hn : passF c l = none := by unfold passF; rw [hf]
   rw [hf] at hN; rw [hn]; have HN := hide hN; clear hf hN hR hE hn hk hkl; go_enter Tryz.func204, Tryz.ntmps204
   go_wp2_with fail
   (with_reducible refine HN.out.mono ?_); rintro e w1 ⟨⟨u, v, rfl⟩, hb⟩; go_wp2; exact ⟨rfl, ⟨_, _, rfl⟩, hb⟩
 · rw [hf] at hN
   cases p with
   | mrk m =>
     have hn : passF c l = if m = [c] then some (l.drop 1) else none := by unfold passF; rw [hf]
     rw [hn]; have HN := hide hN; obtain ⟨f, hf2⟩ : ∃ f : ByteArray, (⟨m.toArray⟩ : ByteArray) = f := ⟨_, rfl⟩; have hfl : f.toList = m := by rw [← hf2, ba_toList]
     have HF2 := hide hf2; by_cases he : m = [c]
     · rw [if_pos he]
       have hq : (f.toList == k.toList) = true := by rw [hfl, hkl, he]; simp
       have HM := hide he; obtain ⟨y, hy⟩ : ∃ y, l.drop 1 = y := ⟨_, rfl⟩; have HY := hide hy; rw [hy]; clear hf hN hR hE hn hf2 hk hkl hfl he hy; go_enter Tryz.func204, Tryz.ntmps204
       go_wp2_with fail
       (with_reducible refine HN.out.mono ?_); rintro e w1 ⟨⟨he, hr⟩, hb⟩; have he : e = .returned (.iface 200 (.string f)) := by rw [← HF2.out]; exact he
       subst he; have hr2 := hide (show RestAt g y w1 by rw [← HY.out]; rw [HM.out] at hr; exact hr); clear hr HN HY HM HF2 he; have ha := as_mm f; go_wp2; go_end0
       exact ⟨⟨rfl, hr2.out⟩, hb⟩
     · rw [if_neg he]
       have hq : (f.toList == k.toList) = false := by rw [hfl, hkl, beq_eq_false_iff_ne]; exact he
       clear hf hN hR hE hn hf2 hk hkl hfl he; go_enter Tryz.func204, Tryz.ntmps204
       go_wp2_with fail
       (with_reducible refine HN.out.mono ?_); rintro e w1 ⟨⟨he, hr⟩, hb⟩; have he : e = .returned (.iface 200 (.string f)) := by rw [← HF2.out]; exact he
       subst he; clear hr HN HF2 he; have ha := as_mm f; go_wp2; exact ⟨rfl, ⟨_, _, rfl⟩, hb⟩
   | num n =>
     have hn : passF c l = none := by unfold passF; rw [hf]
     rw [hn]; have HN := hide hN; clear hf hN hR hE hn hk hkl; go_enter Tryz.func204, Tryz.ntmps204
     go_wp2_with fail
     (with_reducible refine HN.out.mono ?_); rintro e w1 ⟨⟨he, hr⟩, hb⟩; have he : e = .returned (.iface 199 (.int .i64 n)) := he; subst he; clear hr HN he; have ha := as_nm n; go_wp2; exact ⟨rfl, ⟨_, _, rfl⟩, hb⟩
theorem gown {a b c : World} {g : Nat} {row : Option Nat} (h : a.grownBy b (some g)) (k : b.grownBy c row) (hr : ∀ r, row = some r → a.heap.size ≤ r) : a.grownBy c (some g) :=
 ⟨k.os.trans h.os, k.tape.trans h.tape, k.output.trans h.output, Nat.le_trans h.size k.size, fun i hi hg => (k.block i (Nat.lt_of_lt_of_le hi h.size) (fun e => by have := hr i e.symm; omega)).trans (h.block i hi hg)⟩
def NG (g : Nat) : Prop := g ≠ 2 ∧ g ≠ 5 ∧ g ≠ 6
theorem EnvH.ng {w : World} {g : Nat} (h : EnvH w) (hg : w.heap.size ≤ g) : NG g := by
 obtain ⟨h1, ⟨te, pe, h2⟩, ⟨tr, pr, h3⟩⟩ := h; have b2 := World.block_lt_of_cell? _ _ h2; have b3 := World.block_lt_of_cell? _ _ h3; have b1 : 2 < w.heap.size := by
  unfold Lib.TabIs World.var? at h1; rw [show Tryz.prog.globalNamed "internal/strconv.uint64pow10" = some 2 by kernel_rfl] at h1; simp only [Option.bind_some] at h1; rcases Nat.lt_or_ge 2 w.heap.size with h' | h'
  · exact h'
  · rw [Array.getElem?_eq_none h'] at h1; cases h1
 simp only at b2 b3
 unfold NG; refine ⟨fun e => ?_, fun e => ?_, fun e => ?_⟩ <;> omega
theorem EnvH.grown {w w' : World} {g : Nat} (h : EnvH w) (hg : w.grownBy w' (some g)) (hn : NG g) : EnvH w' := by
 obtain ⟨n1, n2, n3⟩ := hn; obtain ⟨h1, ⟨te, pe, h2⟩, ⟨tr, pr, h3⟩⟩ := h; refine ⟨?_, ⟨te, pe, keepg hg h2 (fun e => n2 (by injection e))⟩, ⟨tr, pr, keepg hg h3 (fun e => n3 (by injection e))⟩⟩; unfold Lib.TabIs World.var? at *; rw [show Tryz.prog.globalNamed "internal/strconv.uint64pow10" = some 2 by kernel_rfl] at h1 ⊢; simp only [Option.bind_some] at h1 ⊢; have hlt : 2 < w.heap.size := by
  rcases Nat.lt_or_ge 2 w.heap.size with h' | h'
  · exact h'
  · rw [Array.getElem?_eq_none h'] at h1; cases h1
 rw [hg.block _ hlt (fun e => n1 (by injection e with e; exact e.symm))]; exact h1
theorem slotsF_step {k s : Nat} {l l1 l2 : B8} {v : Int} (hp : passF (aheadF s) l = some l1) (hn : numF l1 = some (v, l2)) : slotsF (k + 1) s l = (slotsF k (s + 1) l2).map fun x => (v :: x.1, x.2) := by
 rw [slotsF, hp]; simp only
 rw [hn]
theorem slotsF_pass {k s : Nat} {l : B8} (hp : passF (aheadF s) l = none) : slotsF (k + 1) s l = none := by rw [slotsF, hp]
theorem slotsF_num {k s : Nat} {l l1 : B8} (hp : passF (aheadF s) l = some l1) (hn : numF l1 = none) : slotsF (k + 1) s l = none := by
 rw [slotsF, hp]; simp only
 rw [hn]
theorem slots_any (N g : Nat) (hN : N ≤ 4) (l : B8) (w : World) (hl : l.length ≤ 140737488351232) (hE : EnvH w) (hR : RestAt g l w) (hg : NG g) :
 Calls Tryz.prog 183 #[.pointer (some ⟨g, 0, none⟩), .int .i64 N] w fun e w' =>
  (match slotsF N 0 l with | some p => ∃ v, e = .returned v ∧ w'.ownsRow w.heap.size 3 1 v p.1.length (p.1.flatMap ic) ∧ RestAt g p.2 w' | none => Pan e) ∧ w.grownBy w' (some g) := by
 obtain ⟨P, hP⟩ : ∃ P, slotsF N 0 l = P := ⟨_, rfl⟩; rw [hP]; have HP := hide hP; have HE := hide hE; have HR := hide hR; have hlt := hR.lt; have HL := hide hl; have HGG := hide hg; clear hP hE hR hl hg; obtain ⟨i0, hi, hz0, hz1, hz2⟩ := info_parts infoInt; go_enter Tryz.func183, Tryz.ntmps183
 go_wp2; go_loopw [5, 8] (fun v i wr => ∃ (k : Nat) (acc : List Int) (rest : B8), k ≤ N ∧ i = .int .i64 k ∧ wr.ownsRow w.heap.size 3 1 v k (acc.flatMap ic) ∧ Hid (RestAt g rest wr ∧ w.grownBy wr (some g) ∧ acc.length = k ∧ rest.length ≤ l.length ∧ P = (slotsF (N - k) k rest).map fun x => (acc ++ x.1, x.2))) (fun _ i _ => N - (intOf i).toNat)
 case atStart =>
  refine ⟨0, [], l, Nat.zero_le _, rfl, World.ownsRow_nil _ _ _ _, hide ⟨HR.out, World.grownBy.refl w _, rfl, Nat.le_refl _, ?_⟩⟩; rw [← HP.out, Nat.sub_zero]; simp
 case round =>
  obtain ⟨k, acc, rest, hk, rfl, hown, HH⟩ := hrel; by_cases hlk : k < N
  · obtain ⟨hra, hgw, hal, hrl, hPP⟩ := HH.out
    clear HH; have hEr := HE.out.grown hgw HGG.out; have hrl2 : rest.length ≤ 140737488351232 := Nat.le_trans hrl HL.out; obtain ⟨A, cp, rfl, hcp, hcm⟩ := own_form hown; rw [show N - k = (N - (k + 1)) + 1 by omega] at hPP; have hs0 := hgw.size; have HA := hide hal; have HPa := hide (fun w' => pass_any (aheadF k) g rest w' hrl2); have HER := hide hEr; have HRA := hide hra; have HGW := hide hgw; have HRL := hide hrl; rcases hp : passF (aheadF k) rest with _ | l1
    · have hPn : P = none := by rw [hPP, slotsF_pass hp]; rfl
      rw [hp] at HPa; subst hPn; clear hp hPP hra hgw hEr hrl hal hrl2; go_wp2_with fail
      (with_reducible refine (ahead_any k _).mono ?_); rintro e w1 ⟨rfl, rfl⟩; go_wp2_with fail
      (with_reducible refine (HPa.out _ HER.out HRA.out).mono ?_); rintro e w2 ⟨⟨u, v, rfl⟩, hg2⟩; go_wp2; exact ⟨rfl, ⟨_, _, rfl⟩, HGW.out.trans hg2⟩
    · rw [hp] at HPa
      have hl1 : l1.length ≤ 140737488351232 := by have := congrArg List.length (passF_eq hp); rw [List.length_cons] at this; omega
      have HL1 := hide (show l1.length ≤ rest.length by have := congrArg List.length (passF_eq hp); rw [List.length_cons] at this; omega); rcases hn : numF l1 with _ | ⟨x, l2⟩
      · have hPn : P = none := by rw [hPP, slotsF_num hp hn]; rfl
        have HNa := hide (fun w' => rnumber_any g l1 w' hl1); rw [hn] at HNa; subst hPn; clear hp hPP hra hgw hEr hrl hal hrl2 hl1 hn; go_wp2_with fail
        (with_reducible refine (ahead_any k _).mono ?_); rintro e w1 ⟨rfl, rfl⟩; go_wp2_with fail
        (with_reducible refine (HPa.out _ HER.out HRA.out).mono ?_); rintro e w2 ⟨⟨rfl, hr2⟩, hg2⟩; have hE2 := HER.out.grown hg2 HGG.out; go_wp2_with fail
        (with_reducible refine (HNa.out _ hE2 hr2).mono ?_); rintro e w3 ⟨⟨u, v, rfl⟩, hg3⟩; go_wp2; exact ⟨rfl, ⟨_, _, rfl⟩, (HGW.out.trans hg2).trans hg3⟩
      · have hPs : P = (slotsF (N - (k + 1)) (k + 1) l2).map fun y => ((acc ++ [x]) ++ y.1, y.2) := by
         rw [hPP, slotsF_step hp hn]; cases slotsF (N - (k + 1)) (k + 1) l2 <;> simp
        have HL2 := hide (show l2.length ≤ l1.length by have := congrArg List.length (numF_eq hn); rw [List.length_append] at this; omega); have HNa := hide (fun w' => rnumber_any g l1 w' hl1); rw [hn] at HNa; have HPs := hide hPs; clear hp hPs hPP hra hgw hEr hrl hal hrl2 hl1 hn; go_wp2_with fail
        (with_reducible refine (ahead_any k _).mono ?_); rintro e w1 ⟨rfl, rfl⟩; go_wp2_with fail
        (with_reducible refine (HPa.out _ HER.out HRA.out).mono ?_); rintro e w2 ⟨⟨rfl, hr2⟩, hg2⟩; have hE2 := HER.out.grown hg2 HGG.out; have own2 := hown.kept hg2 (.inr fun e => by have := (hown.lt g e).1; omega); go_wp2_with fail
        (with_reducible refine (HNa.out _ hE2 hr2).mono ?_); rintro e w3 ⟨⟨rfl, hr3⟩, hg3⟩; have own3 := own2.kept hg3 (.inr fun e => by have := (hown.lt g e).1; omega); have hs2 := hg2.size; have hs3 := hg3.size; have HG3 := hide ((HGW.out.trans hg2).trans hg3); have HR3 := hide hr3; have HO3 := hide own3; clear hown own2 own3 hg2 hg3 hr2 hr3 hE2; go_wp2_with (at_builtin; refine wpList_append_own _ rfl _ _ 67 rfl w.heap.size 3 i0 (.int .i64 0) 1 8 Tryz.underlying67 hi hz0 hz1 hz2 rfl (by decide) _ _ _ rfl (HO3.out.alloc _) ⟨_, 0, none⟩ 1 1 [.int .i64 x] rfl rfl (row_at _ _ _ (by simp)) (by simp [Value.oneCell']) (by simp only [maxLen]; omega) (by omega) (by simp; omega) ?_; intro v' w4 hown' hgrow _)
        have HG4 := hide hgrow; have HO4 := hide hown'; clear hgrow hown'; go_roundw
        case rel =>
         refine ⟨k + 1, acc ++ [x], l2, by omega, by go_num, by rw [List.flatMap_append]; exact HO4.out, hide ⟨?_, ?_, by rw [List.length_append, HA.out]; rfl, Nat.le_trans HL2.out (Nat.le_trans HL1.out HRL.out), HPs.out⟩⟩
         · exact (HG4.out.block g (by simp; have := HR3.out.lt; omega) (fun e => by have := (HO3.out.lt g e.symm).1; omega)).trans (HR3.out.below (balHp _ _))
         · exact gown (HG3.out.trans (grown_of_below (balHp _ _) (some g))) HG4.out (fun r hr => (HO3.out.lt r hr).1)
        case measure => simp [intOf]; omega
  · obtain ⟨hra, hgw, hal, hrl, hPP⟩ := HH.out
    have hkk : k = N := by omega
    have hPs : P = some (acc, rest) := by rw [hPP, hkk, Nat.sub_self]; simp [slotsF]
    subst hPs; have HO := hide hown; clear hPP; go_wp2; go_ret
    exact ⟨⟨_, rfl, by first | exact HO.out | (rw [hal]; exact HO.out) | (have h9 := HO.out; rw [hkk] at h9; exact h9), hra⟩, hgw⟩
def Boxes (H R : Nat) (n : Int) (v : Value) (w : World) : Prop :=
 (w.cell? ⟨H, 0, none⟩ = some (.int .i64 n) ∧ w.cell? ⟨H, 1, none⟩ = some v ∧ w.frozen? ⟨H, 0, none⟩ = false ∧ w.frozen? ⟨H, 1, none⟩ = false) ∧
 (w.cell? ⟨R, 0, none⟩ = some (.int .i64 0) ∧ w.cell? ⟨R, 1, none⟩ = some (.slice none 0 0) ∧ w.frozen? ⟨R, 0, none⟩ = false ∧ w.frozen? ⟨R, 1, none⟩ = false)
theorem Boxes.grown {H R : Nat} {n : Int} {v : Value} {w w' : World} {row : Option Nat} (h : Boxes H R n v w) (hg : w.grownBy w' row) (h1 : row ≠ some H) (h2 : row ≠ some R) : Boxes H R n v w' :=
 ⟨⟨keepg hg h.1.1 h1, keepg hg h.1.2.1 h1, keepgf hg h.1.1 h.1.2.2.1 h1, keepgf hg h.1.2.1 h.1.2.2.2 h1⟩, ⟨keepg hg h.2.1 h2, keepg hg h.2.2.1 h2, keepgf hg h.2.1 h.2.2.2.1 h2, keepgf hg h.2.2.1 h.2.2.2.2 h2⟩⟩
theorem Boxes.below {H R : Nat} {n : Int} {v : Value} {w w' : World} (h : Boxes H R n v w) (hb : Below w.heap.size w w') : Boxes H R n v w' :=
 h.grown (row := none) (grown_of_below hb none) (by simp) (by simp)
theorem gset2 {a b : World} {g : Nat} {p : Addr} (h : a.grownBy b (some g)) (hp : a.heap.size ≤ p.block) (v : Value) : a.grownBy (b.setCell p v) (some g) :=
 ⟨h.os, h.tape, h.output, by simpa using h.size, fun i hi hg => (Below.heap_setCell _ _ _ _ (by omega)).trans (h.block i hi hg)⟩
theorem objsF_nil (N f : Nat) : objsF N f [] = some ([], []) := by cases f <;> rfl
theorem objsF_step {N f : Nat} {l l1 : B8} {r : List Int} (hl : l ≠ []) (h : slotsF N 0 l = some (r, l1)) : objsF N (f + 1) l = (objsF N f l1).map fun x => (r :: x.1, x.2) := by
 rw [objsF, if_neg hl, h]
theorem objsF_fail {N f : Nat} {l : B8} (hl : l ≠ []) (h : slotsF N 0 l = none) : objsF N (f + 1) l = none := by
 rw [objsF, if_neg hl, h]
theorem rheap_any (g : Nat) (l : B8) (w : World) (hl : l.length ≤ 140737488351232) (hE : EnvH w) (hR : RestAt g l w) (hg : NG g) :
 Calls Tryz.prog 159 #[.pointer (some ⟨g, 0, none⟩)] w fun e w' =>
  (match heapF l with | some p => ∃ v, e = .returned (hv p.1 v) ∧ OwnRows 67 3 w.heap.size w' v p.2 | none => Pan e) ∧ w.grownBy w' (some g) := by
 have HE := hide hE; have HR := hide hR; have hlt := hR.lt; have HL := hide hl; have HGG := hide hg; have HNa := hide (fun w' => rnumber_any g l w' hl); clear hE hR hl hg; obtain ⟨w1, e1, hB1, hlt1, -, k0, k1⟩ := box1Hp w (.int .i64 0) (.slice none 0 0) 24; have hs1 : w1.heap.size = w.heap.size + 1 := by rw [← e1]; simp
 have k2 : ∀ j, w1.frozen? ⟨w.heap.size, j, none⟩ = false := fun j => by rw [← e1]; exact frozen_of_row _ _ j #[.int .i64 0, .slice none 0 0] _ (heap_alloc_new w _)
 have HE1 := hide e1; have HEE := hide (HE.out.below hB1); have HRR := hide (HR.out.below hB1); have hgs : w.heap.size ≠ g := by omega
 clear e1; rcases hn : numF l with _ | ⟨n, l1⟩
 · have hP : heapF l = none := by unfold heapF; rw [hn]
   rw [hP]; rw [hn] at HNa; clear hn hP; go_enter Tryz.func159, Tryz.ntmps159
   go_wp2_with fail
   rw [HE1.out]; (with_reducible refine (HNa.out _ HEE.out HRR.out).mono ?_); rintro e w2 ⟨⟨u, v, rfl⟩, hg2⟩; go_wp2; exact ⟨rfl, ⟨_, _, rfl⟩, (grown_of_below hB1 (some g)).trans hg2⟩
 · have hl1 : l1.length ≤ 140737488351232 := by have := congrArg List.length (numF_eq hn); rw [List.length_append] at this; have := HL.out; omega
   have hP : heapF l = if rightF n [] then (match objsF n.toNat 65 l1 with | none => none | some x => if rightF n x.1 then some (n, x.1) else none) else none := by
    unfold heapF; rw [hn]; simp only
    split
    · cases objsF n.toNat 65 l1 <;> rfl
    · rfl
   rw [hn] at HNa; obtain ⟨P, hPP⟩ : ∃ P, heapF l = P := ⟨_, rfl⟩; rw [hPP] at hP ⊢; have HP := hide hP; clear hn hP hPP; go_enter Tryz.func159, Tryz.ntmps159
   go_wp2_with fail
   rw [HE1.out]; (with_reducible refine (HNa.out _ HEE.out HRR.out).mono ?_); rintro e w2 ⟨⟨rfl, hr2⟩, hg2⟩; obtain ⟨w3, e3, hB3, hlt3, -, t0, t1⟩ := box1Hp w2 (.int .i64 n) (.slice none 0 0) 24; have t2 : ∀ j, w3.frozen? ⟨w2.heap.size, j, none⟩ = false := fun j => by rw [← e3]; exact frozen_of_row _ _ j #[.int .i64 n, .slice none 0 0] _ (heap_alloc_new w2 _)
   have HE3 := hide e3; have r0 := keepg hg2 k0 (fun e => hgs (by injection e with e; exact e.symm)); have r1 := keepg hg2 k1 (fun e => hgs (by injection e with e; exact e.symm)); have z0 := keepgf hg2 k0 (k2 0) (fun e => hgs (by injection e with e; exact e.symm)); have z1 := keepgf hg2 k1 (k2 1) (fun e => hgs (by injection e with e; exact e.symm)); have hs2 := hg2.size; have HE2 := hide (HEE.out.grown hg2 HGG.out); have HG2 := hide ((grown_of_below hB1 (some g)).trans hg2); have HR2 := hide hr2; clear e3 hg2 hr2 k0 k1 k2; go_wp2_with fail
   rw [HE3.out]; clear HE3; (with_reducible refine (Right_anyHp n _ [] _ Grid.nil_).mono ?_); rintro e w4 ⟨rfl, hb4⟩; have hb24 := bcall hB3 hb4; have hs4 := hb4.size; have u0 := keepcHp hb4 t0; have u1 := keepcHp hb4 t1; have y0 := keepfHp hb4 t0 (t2 0); have y1 := keepfHp hb4 t1 (t2 1); have q0 := keepcHp hb24 r0; have q1 := keepcHp hb24 r1; have x0 := keepfHp hb24 r0 z0; have x1 := keepfHp hb24 r1 z1; have HG4 := hide (HG2.out.trans (grown_of_below hb24 (some g))); have HE4 := hide (HE2.out.below hb24); have HR4 := hide (HR2.out.below hb24); have hHw : w2.heap.size ≠ w.heap.size := by omega
   have hHg : w2.heap.size ≠ g := by omega
   clear t0 t1 t2 r0 r1 z0 z1; by_cases hr : rightF n [] = true
   · have hrl := right_len hr
     obtain ⟨N, rfl⟩ : ∃ N : Nat, n = N := ⟨n.toNat, by omega⟩; have hN4 : N ≤ 4 := by omega
     rw [hr]; have hP := HP.out; rw [if_pos hr, Int.toNat_natCast] at hP; have HP2 := hide hP; clear hP HP hr hrl; go_wp2; have HL1 := hide hl1; have hHs : w2.heap.size < w4.heap.size := by omega
     have hws : w.heap.size < w4.heap.size := by omega
     have hgs4 : g < w4.heap.size := by omega
     go_loopg [] 65 (fun gk wr => ∃ (A : Option Addr) (c : Nat) (acc : Rws) (rest : B8), acc.length + gk = 65 ∧ c ≤ 9223372036854775807 ∧ acc.length ≤ c ∧
      wr.cell? ⟨w2.heap.size, 0, none⟩ = some (.int .i64 N) ∧ wr.cell? ⟨w2.heap.size, 1, none⟩ = some (.slice A acc.length c) ∧ wr.frozen? ⟨w2.heap.size, 0, none⟩ = false ∧ wr.frozen? ⟨w2.heap.size, 1, none⟩ = false ∧
      wr.cell? ⟨w.heap.size, 0, none⟩ = some (.int .i64 0) ∧ wr.cell? ⟨w.heap.size, 1, none⟩ = some (.slice none 0 0) ∧ wr.frozen? ⟨w.heap.size, 0, none⟩ = false ∧ wr.frozen? ⟨w.heap.size, 1, none⟩ = false ∧
      Hid (OwnRows 67 3 w4.heap.size wr (.slice A acc.length c) acc ∧ RestAt g rest wr ∧ w.grownBy wr (some g) ∧ rest.length ≤ l1.length ∧ w4.heap.size ≤ wr.heap.size ∧ objsF N 65 l1 = (objsF N gk rest).map fun x => (acc ++ x.1, x.2)))
     case atStart =>
      refine ⟨none, 0, [], l1, rfl, by omega, by simp, u0, u1, y0, y1, q0, q1, x0, x1, hide ⟨OwnRows.nil_, HR4.out, HG4.out, Nat.le_refl _, Nat.le_refl _, ?_⟩⟩; cases objsF N 65 l1 <;> simp
     case round =>
      obtain ⟨A, c, acc, rest, hgk, hc63, hac, u0, u1, y0, y1, q0, q1, x0, x1, HH⟩ := hrel; obtain ⟨hown, hra, hgw, hrl, hsr, hPP⟩ := HH.out; have c0 := hra.cell; obtain ⟨y, hy⟩ : ∃ y : ByteArray, (⟨rest.toArray⟩ : ByteArray) = y := ⟨_, rfl⟩; rw [hy] at c0; have hyl : y.toList = rest := by rw [← hy, ba_toList]
      have HO := hide hown; have HRA := hide hra; have HGW := hide hgw; have HRL := hide hrl; have HPP := hide hPP; have HER := hide (HE.out.grown hgw HGG.out); have hal : acc.length ≤ 65 := by omega
      clear hown hra hgw hrl hPP HH hy; by_cases hre : rest = [] ∨ gk = 0
      · have HP3 := hide (show P = if rightF N acc then some ((N : Int), acc) else none by
         have hPP := HPP.out; rcases hre with h | h
         · rw [h, objsF_nil] at hPP
           rw [HP2.out, hPP]; simp
         · rw [h, objsF] at hPP
           rw [HP2.out, hPP]; simp)
        have hq : (y.toList == []) = true ∨ ((y.toList == []) = false ∧ gk = 0) := by
         rw [hyl]; cases rest with
         | nil => exact .inl rfl
         | cons b r => exact .inr ⟨rfl, by rcases hre with h | h; cases h; exact h⟩
        clear hyl hre HPP HP2; rcases hq with hq | ⟨hq, rfl⟩
        all_goals
         go_wp2_with fail
         (with_reducible refine (Right_anyHp N _ acc _ HO.out.grid).mono ?_); rintro e w5 ⟨rfl, hb5⟩; have v0 := keepcHp hb5 u0; have v1 := keepcHp hb5 u1; have r0 := keepcHp hb5 q0; have r1 := keepcHp hb5 q1; have z0 := keepfHp hb5 q0 x0; have z1 := keepfHp hb5 q1 x1; by_cases hra : rightF N acc = true
         · have hP4 : P = some ((N : Int), acc) := by rw [HP3.out, if_pos hra]
           rw [hra]; subst hP4; clear hra; go_wp2; refine bodyPost_ret (v := hv N (.slice A acc.length c)) (by simp [results, Tryz.results159, go_sem, r0, r1]) rfl ⟨⟨.slice A acc.length c, rfl, ?_⟩, ?_⟩
           · exact (((HO.out.below hb5).setCell_below (by simp; omega) _).setCell_below (by simp; omega) _).le (by omega)
           · exact gset2 (gset2 (HGW.out.trans (grown_of_below hb5 (some g))) (by simp) _) (by simp) _
         · have hra1 : rightF N acc = false := by simpa using hra
           have hP4 : P = none := by rw [HP3.out, if_neg hra]
           rw [hra1]; subst hP4; clear hra hra1; go_wp2; exact ⟨rfl, ⟨_, _, rfl⟩, HGW.out.trans (grown_of_below hb5 (some g))⟩
      · obtain ⟨f, rfl⟩ : ∃ f, gk = f + 1 := ⟨gk - 1, by omega⟩
        have hre1 : rest ≠ [] := fun h => hre (.inl h)
        have hq : (y.toList == []) = false := by
         rw [hyl]; cases rest with
         | nil => exact absurd rfl hre1
         | cons b r => rfl
        have hl64 : acc.length ≤ 64 := by omega
        have HSl := hide (fun w' => slots_any N g hN4 rest w' (Nat.le_trans HRL.out HL1.out)); have HRE := hide hre1; clear hyl hre hre1; rcases hsl : slotsF N 0 rest with _ | ⟨r, l2⟩
        · have hPn : P = none := by
           have hPP := HPP.out; rw [objsF_fail HRE.out hsl] at hPP; rw [HP2.out, hPP]; rfl
          subst hPn; rw [hsl] at HSl; clear hsl HPP HP2; go_wp2; go_region_dies
          all_goals
           (with_reducible refine (HSl.out _ (HER.out.below ((Below.refl _ _).drew)) (HRA.out.below ((Below.refl _ _).drew)) HGG.out).mono ?_); rintro e w6 ⟨⟨u, v, rfl⟩, hg6⟩; go_wp2; exact ⟨rfl, ⟨_, _, rfl⟩, (HGW.out.trans (grown_of_below ((Below.refl _ _).drew) (some g))).trans hg6⟩
        · rw [hsl] at HSl
          have hPs : objsF N 65 l1 = (objsF N f l2).map fun x => ((acc ++ [r]) ++ x.1, x.2) := by
           rw [HPP.out, objsF_step HRE.out hsl]; cases objsF N f l2 <;> simp
          have hsq := slotsF_eq N 0 hsl; have hl2 : l2.length ≤ rest.length := by have := congrArg List.length hsq.1; rw [List.length_append] at this; omega
          have HPs := hide hPs; have HL2 := hide (Nat.le_trans hl2 HRL.out); have HRE2 := hide HRE.out; obtain ⟨i0, hi, hz0, hz1, hz2⟩ := info_parts infoRow; obtain ⟨vs, hvs1, hvs2, hvs3⟩ := HO.out; have HV2 := hide hvs2; have HV3 := hide hvs3; have HDR := hide (show Below wr.heap.size wr wr.drew from (Below.refl _ _).drew); have BX := hide (show Boxes w2.heap.size w.heap.size N (.slice A acc.length c) wr from ⟨⟨u0, u1, y0, y1⟩, ⟨q0, q1, x0, x1⟩⟩); have FX := hide (show ∀ w6, wr.grownBy w6 (some g) → Boxes w2.heap.size w.heap.size N (.slice A acc.length c) w6 from fun w6 hg => BX.out.grown hg (fun e => hHg (by injection e with e; exact e.symm)) (fun e => hgs (by injection e with e; exact e.symm))); have VB := hide (show ∀ b, (Value.slice A acc.length c).ownBlock = some b → w4.heap.size ≤ b from fun b hb => (hvs1.lt b hb).1); have FX2 := hide (show ∀ w6 o w7, Boxes w2.heap.size w.heap.size N (.slice A acc.length c) w6 → (w6.alloc o).grownBy w7 (Value.slice A acc.length c).ownBlock → Boxes w2.heap.size w.heap.size N (.slice A acc.length c) w7 from fun w6 o w7 h hg =>
           (h.below (balHp _ _)).grown hg (fun e => by have := VB.out _ e; omega) (fun e => by have := VB.out _ e; omega))
          have HTOP := hide (show ∀ w6, wr.grownBy w6 (some g) → w6.ownsRow w4.heap.size 67 1 (.slice A acc.length c) acc.length vs from fun w6 hg => by
           have := hvs1.kept hg (.inr fun e => by have := VB.out g e; omega); rwa [HV2.out] at this)
          clear hsl HPP hPs hsq hl2 hvs1 hvs2 hvs3; go_wp2; go_region_law (first
           | (refine step_append_own_g rfl _ _ 22 rfl w4.heap.size 67 i0 (.slice none 0 0) 1 24 Tryz.underlying22 hi hz0 hz1 hz2 rfl (by decide) _ _ _ rfl ((HTOP.out _ hgw6).alloc _) ⟨_, 0, none⟩ 1 1 [.slice A6 r.length c6] rfl rfl (row_at _ _ _ (by simp)) (by simp [Value.oneCell']) (by simp only [maxLen]; omega) (by omega) (by simp; omega) ?_; intro v7 w7 hown7 hgrow7; obtain ⟨⟨d0, d1, d2, d3⟩, ⟨e0, e1, e2, e3⟩⟩ := FX2.out _ _ _ bx6.out hgrow7; obtain ⟨A7, c7, rfl, hc7, hm7⟩ := own_form hown7)
           | (go_simp; go_at_call 183; (with_reducible refine (HSl.out _ (HER.out.below HDR.out) (HRA.out.below HDR.out) HGG.out).mono ?_); rintro e w6 ⟨⟨v6, rfl, hown6, hr6⟩, hg6⟩; have hgw6 := (grown_of_below HDR.out (some g)).trans hg6; have hs6 := hgw6.size; have bx6 := hide (FX.out _ hgw6); obtain ⟨⟨a0, a1, a2, a3⟩, ⟨b0, b1, b2, b3⟩⟩ := bx6.out; have a1a : ∀ o, (w6.alloc o).cell? ⟨w2.heap.size, 1, none⟩ = some (.slice A acc.length c) := fun o => keepcHp (balHp _ _) a1; obtain ⟨A6, c6, rfl, hc6, hm6⟩ := own_form hown6))
          all_goals
           unfold maxLen at hm7; have hlen : (acc ++ [r]).length = acc.length + 1 := by simp
           have hwa : w6.heap.size < (w6.alloc (.cells #[.slice A6 r.length c6] 67)).heap.size := by simp
           have hU : OwnRows 67 3 w4.heap.size w7 (.slice A7 (acc.length + 1) c7) (acc ++ [r]) :=
            OwnRows.snoc (w := w6.alloc (.cells #[.slice A6 r.length c6] 67)) (v := .slice A acc.length c) (u := .slice A6 r.length c6) (vs := vs) (by decide) HV2.out (by rw [HV2.out]; exact (HTOP.out _ hgw6).alloc _)
             (fun i u l hu hl => ((HV3.out i u l hu hl).kept hgw6 (.inr fun e => by have := ((HV3.out i u l hu hl).lt g e).1; omega)).alloc _) ((own_base hown6 (by show w4.heap.size ≤ wr.heap.size; exact hsr)).alloc _) (by rw [HV2.out]; exact hown7) hgrow7
           have hZ := hide (show OwnRows 67 3 w4.heap.size (w7.setCell ⟨w2.heap.size, 1, none⟩ (.slice A7 (acc.length + 1) c7)) (.slice A7 (acc ++ [r]).length c7) (acc ++ [r]) ∧ RestAt g l2 (w7.setCell ⟨w2.heap.size, 1, none⟩ (.slice A7 (acc.length + 1) c7)) ∧ w.grownBy (w7.setCell ⟨w2.heap.size, 1, none⟩ (.slice A7 (acc.length + 1) c7)) (some g) ∧ l2.length ≤ l1.length ∧ w4.heap.size ≤ (w7.setCell ⟨w2.heap.size, 1, none⟩ (.slice A7 (acc.length + 1) c7)).heap.size ∧ objsF N 65 l1 = (objsF N f l2).map fun x => ((acc ++ [r]) ++ x.1, x.2) from
            ⟨by rw [hlen]; exact hU.setCell_below (by simp; omega) _,
             (Below.heap_setCell _ _ _ _ (by show g ≠ w2.heap.size; omega)).trans ((hgrow7.block g (by have := hr6.lt; omega) (fun e => by have := VB.out g e.symm; omega)).trans (hr6.below (balHp _ _))),
             gset2 (gown ((HGW.out.trans hgw6).trans (grown_of_below (balHp _ _) (some g))) hgrow7 (fun b hb => by have := VB.out b hb; omega)) (by show w.heap.size ≤ w2.heap.size; omega) _,
             HL2.out, by have := hgrow7.size; simp; omega, HPs.out⟩)
           clear hU hown6 hown7 hgrow7 hg6 hgw6 hr6 bx6 a1a a0 a1 a2 a3 b0 b1 b2 b3 u0 u1 y0 y1 q0 q1 x0 x1 c0; have hwH : w.heap.size ≠ w2.heap.size := fun e => hHw e.symm
          all_goals
           go_wp2_with fail
           go_roundg f
           case rel =>
            exact ⟨A7, c7, acc ++ [r], l2, by rw [hlen]; omega, by omega, by rw [hlen]; exact hc7, by simp [go_sem, d0], by simp [go_sem, d1], by simp [go_sem, d2], by simp [go_sem, d3], by simp [go_sem, e0], by simp [go_sem, e1], by simp [go_sem, e2], by simp [go_sem, e3], hZ⟩
           case measure => omega
   · have hr1 : rightF n [] = false := by simpa using hr
     have hP := HP.out; rw [if_neg hr] at hP; subst hP; rw [hr1]; clear hr hr1; go_wp2; exact ⟨rfl, ⟨_, _, rfl⟩, HG4.out⟩
theorem catch_panicking (T E : Nat) (a b c : Value) (u : TypeId) (pv : Value) (older : List PanicEntry) (w : World) (h0 : w.cell? ⟨T, 0, none⟩ = some a) (h1 : w.cell? ⟨T, 1, none⟩ = some b) (h2 : w.cell? ⟨E, 0, none⟩ = some c)
 (f0 : w.frozen? ⟨T, 0, none⟩ = false) (f1 : w.frozen? ⟨T, 1, none⟩ = false) (f2 : w.frozen? ⟨E, 0, none⟩ = false) (_hTE : T ≠ E) (_hET : E ≠ T) :
 CallsD Tryz.prog 158 #[.pointer (some ⟨T, 0, none⟩), .pointer (some ⟨E, 0, none⟩)] (.panicking ({ v := .iface u pv, recovered := false } :: older)) w fun e u' w' =>
  e = .returned (.tuple #[]) ∧ u' = .panicking ({ v := .iface u pv, recovered := true } :: older) ∧ w' = ((w.setCell ⟨T, 0, none⟩ (.int .i64 0)).setCell ⟨T, 1, none⟩ (.slice none 0 0)).setCell ⟨E, 0, none⟩ (.int .i64 2) := by
 refine callsD_of_wpS Tryz.func158 rfl fun c₀ cs hu => ?_
 apply wpS_seq
 apply wpS_region
 simp [wpOpsS, go_sem, recoverD, hu, Tryz.ntmps158, Exit.thenS]
 refine wpS_cond (t := true) (by simp [Act.eval, Array.replicate]) ?_; simp only [if_true]; apply wpS_region
 simp [wpOpsS, go_sem, h0, h1, h2, f0, f1, f2, bodyPostS, results, Tryz.results158]
theorem catch_idle (T E : Nat) (w : World) :
 CallsD Tryz.prog 158 #[.pointer (some ⟨T, 0, none⟩), .pointer (some ⟨E, 0, none⟩)] .returning w fun e u' w' => e = .returned (.tuple #[]) ∧ u' = .returning ∧ w' = w := by
 refine callsD_of_wpS Tryz.func158 rfl fun c₀ cs hu => ?_
 apply wpS_seq
 apply wpS_region
 simp [wpOpsS, go_sem, recoverD, hu, Tryz.ntmps158, Exit.thenS]
 refine wpS_cond (t := false) (by simp [Act.eval, Array.replicate]) ?_; simp only [Bool.false_eq_true, if_false]; refine wpS_of_wp (wp_skip ?_); cases c₀
 simp_all [bodyPostS, results, Tryz.results158]
theorem Parse_anyHp (l : B8) (w : World) (hl : l.length ≤ 140737488351232) (hE : EnvH w) :
 Calls Tryz.prog 114 #[.string ⟨l.toArray⟩] w fun e w' =>
  (match heapF l with | some p => ∃ v, e = .returned (.tuple #[hv p.1 v, .int .i64 0]) ∧ OwnRows 67 3 w.heap.size w' v p.2 | none => e = .returned (.tuple #[hv 0 (.slice none 0 0), .int .i64 2])) ∧ Below w.heap.size w w' := by
 have hmf : ∀ (fn : Fn) (first cap : Array Value) (w : World), (Instr.makeFunc fn first cap).run Tryz.prog w = .ok (.func fn first cap) w := fun _ _ _ _ => rfl
 have HE := hide hE; have HL := hide hl; clear hE hl; obtain ⟨P, hP⟩ : ∃ P, heapF l = P := ⟨_, rfl⟩; have HP := hide hP; rw [hP]; clear hP; go_enter_defers Tryz.func114, Tryz.ntmps114
 go_wp2_with fail
 obtain ⟨wa, ea, hba, hla, -, a0, a1⟩ := box1Hp w (.int .i64 0) (.slice none 0 0) 24; have hsa : wa.heap.size = w.heap.size + 1 := by rw [← ea]; simp
 have a2 : ∀ j, wa.frozen? ⟨w.heap.size, j, none⟩ = false := fun j => by rw [← ea]; exact frozen_of_row _ _ j #[.int .i64 0, .slice none 0 0] _ (heap_alloc_new w _)
 rw [ea]; obtain ⟨wb, eb⟩ : ∃ wb, wa.alloc (.cells #[.int .i64 0] 33) = wb := ⟨_, rfl⟩; have hsb : wb.heap.size = w.heap.size + 2 := by rw [← eb]; simp [hsa]
 have hbb : Below wa.heap.size wa wb := by rw [← eb]; exact balHp _ _
 have hob : wb.heap[wa.heap.size]? = some (.cells #[.int .i64 0] 33 (0, 0)) := by rw [← eb]; exact heap_alloc_new wa _
 rw [eb]; obtain ⟨wc, ec⟩ : ∃ wc, wb.alloc (.cells #[.string ⟨l.toArray⟩] 216) = wc := ⟨_, rfl⟩; have hsc : wc.heap.size = w.heap.size + 3 := by rw [← ec]; simp [hsb]
 have hbc : Below wb.heap.size wb wc := by rw [← ec]; exact balHp _ _
 have hR : RestAt (w.heap.size + 1 + 1) l wc := by
  have : wc.heap[wb.heap.size]? = some (.cells #[.string ⟨l.toArray⟩] 216 (0, 0)) := by rw [← ec]; exact heap_alloc_new wb _
  rw [hsb] at this; exact this
 rw [ec]; have hBc : Below w.heap.size w wc := bcall (bcall hba hbb) hbc; have hoc : wc.heap[w.heap.size + 1]? = some (.cells #[.int .i64 0] 33 (0, 0)) := by rw [← hsa]; exact (hbc.block _ (by omega)).trans hob
 have e0 := cell_of_one hoc; have e1 := free_of_one hoc; have k0 := keepcHp hbc (keepcHp hbb a0); have k1 := keepcHp hbc (keepcHp hbb a1); have f0 := keepfHp hbc (keepcHp hbb a0) (keepfHp hbb a0 (a2 0)); have f1 := keepfHp hbc (keepcHp hbb a1) (keepfHp hbb a1 (a2 1)); clear a0 a1 a2 ea eb ec hob hoc; have hH := rheap_any (w.heap.size + 1 + 1) l wc HL.out (HE.out.below hBc) hR (HE.out.ng (by omega)); rw [HP.out] at hH; (with_reducible refine hH.mono ?_); rintro e w4 ⟨hp, hg4⟩; have n0 : some (w.heap.size + 1 + 1) ≠ some w.heap.size := fun e => by injection e with e; omega
 have n1 : some (w.heap.size + 1 + 1) ≠ some (w.heap.size + 1) := fun e => by injection e with e; omega
 have r0 := keepg hg4 k0 n0; have r1 := keepg hg4 k1 n0; have r2 := keepg hg4 e0 n1; have z0 := keepgf hg4 k0 f0 n0; have z1 := keepgf hg4 k1 f1 n0; have z2 := keepgf hg4 e0 e1 n1; have hB4 : Below w.heap.size w w4 := (hBc.trans (Below.grown (Below.refl _ _) hg4 (by omega) (fun k hk => by injection hk with hk; omega))); have hHB := hide hB4; clear n0 n1 k0 k1 e0 e1 f0 f1 hH hg4 hR HE HL HP; cases P with
 | none =>
   obtain ⟨u, v, rfl⟩ := hp; go_wp2; refine leaves_cons (f := 158) (args := #[.pointer (some ⟨w.heap.size, 0, none⟩), .pointer (some ⟨w.heap.size + 1, 0, none⟩)]) (by simp) (by simp [go_sem]) ?_; refine (catch_panicking w.heap.size (w.heap.size + 1) _ _ _ u v [] w4 r0 r1 r2 z0 z1 z2 (by omega) (by omega)).mono ?_; rintro e u' w'' ⟨rfl, rfl, rfl⟩; simp [Leaves, settle, results, Tryz.results114, go_sem, r0, r1, r2]
   exact ((hHB.out.setCell (by simp) _).setCell (by simp) _).setCell (by simp) _
 | some p =>
   obtain ⟨v, rfl, hG⟩ := hp; obtain ⟨A, c, rfl, h1, h2⟩ := hG.grid.form; rw [hsc] at hG; have HG := hide hG; clear hG; go_wp2; refine leaves_cons (f := 158) (args := #[.pointer (some ⟨w.heap.size, 0, none⟩), .pointer (some ⟨w.heap.size + 1, 0, none⟩)]) (by simp) (by simp [go_sem]) ?_; refine (catch_idle w.heap.size (w.heap.size + 1) _).mono ?_; rintro e u' w'' ⟨rfl, rfl, rfl⟩; simp [Leaves, settle, results, Tryz.results114, go_sem, r0, r1, r2]
   exact ⟨(((HG.out.setCell_below (by simp) _).setCell_below (by simp) _).setCell_below (by simp) _).le (by omega), ((hHB.out.setCell (by simp) _).setCell (by simp) _).setCell (by simp) _⟩
theorem Same_cHp (n m : Int) (va vb : Value) (a b : Rws) (w : World) (ha : Grid w va a) (hb : Grid w vb b) (r : Bool) (hr : sameF n a m b = r) :
 Calls Tryz.prog 38 #[hv n va, hv m vb] w fun e w' => e = .returned (.bool r) ∧ Below w.heap.size w w' := by
 subst hr; exact Same_anyHp n m va vb a b w ha hb
theorem Parse_cHp (t : ByteArray) (w : World) (hl : t.size ≤ 140737488351232) (hE : EnvH w) (n : Int) (R : Rws) (x : Int) (hx : (heapF t.data.toList = some (n, R) ∧ x = 0) ∨ (heapF t.data.toList = none ∧ n = 0 ∧ R = [] ∧ x = 2)) (k : Nat) (hk : R.length = k) :
 Calls Tryz.prog 114 #[.string t] w fun e w' => ∃ A c, e = .returned (.tuple #[hv n (.slice A k c), .int .i64 x]) ∧ k ≤ c ∧ c ≤ 9223372036854775807 ∧ Hid (OwnR w.heap.size w' (.slice A k c) R) ∧ Below w.heap.size w w' := by
 have hP := Parse_anyHp t.data.toList w (by rw [Array.length_toList]; exact hl) hE; rw [show (⟨t.data.toList.toArray⟩ : ByteArray) = t from rfl] at hP; rcases hx with ⟨h1, rfl⟩ | ⟨h1, rfl, rfl, rfl⟩
 · rw [h1] at hP
   refine hP.mono ?_; rintro e w' ⟨⟨v, rfl, hO⟩, hB⟩; have hO : OwnR w.heap.size w' v R := hO; obtain ⟨A, c, rfl, h2, h3⟩ := own_slice hO; rw [hk] at h2 hO ⊢; exact ⟨A, c, rfl, h2, h3, hide hO, hB⟩
 · rw [h1] at hP
   subst hk; refine hP.mono ?_; rintro e w' ⟨rfl, hB⟩; exact ⟨none, 0, rfl, Nat.le_refl _, by omega, hide OwnRows.nil_, hB⟩
