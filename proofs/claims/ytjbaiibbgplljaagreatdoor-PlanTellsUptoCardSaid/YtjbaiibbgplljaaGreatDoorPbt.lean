import Derived.Test.YtjbaiibbgplljaaGreatDoorPbq
import Derived.Test.YtjbaiibbgplljaaGreatDoorPbr
set_option maxRecDepth 100000
set_option maxHeartbeats 40000000
namespace Go.Proofs.YtjbaiibbgplljaaGreatDoor
open Go.Proofs.Tryz
open Go.RowKit Go.Shelf Go.Proofs Go.Joins
theorem l_ {n : Nat} : n ≤ n := Nat.le_refl n
abbrev zeroC : Array Value := planC 0 0 0 0 0 0 0 0 0 (.slice none 0 0) 0 (.slice none 0 0) (.slice none 0 0) (.slice none 0 0)
def ZeroAt (T : Nat) (w : World) : Prop := w.heap[T]? = some (.cells zeroC 30)
theorem ZeroAt.set {T i : Nat} {v : Value} {w : World} (h : ZeroAt T w) (e : zeroC.setIfInBounds i v = zeroC) : ZeroAt T (w.setCell ⟨T, i, none⟩ v) := by
 unfold ZeroAt; rw [block_setCell h v, e]
theorem ZeroAt.other {T E : Nat} {v : Value} {w : World} (h : ZeroAt T w) (e : T ≠ E) : ZeroAt T (w.setCell ⟨E, 0, none⟩ v) := (Below.heap_setCell w ⟨E, 0, none⟩ v T e).trans h
theorem as_errno (k : Int) (w : World) : (Instr.typeAssert (.iface 33 (.int .i64 k)) 20 33 true).run prog w = .ok (.tuple #[.int .i64 k, .bool true]) w := by kernel_rfl
theorem as_nothing (w : World) : (Instr.typeAssert .nilIface 20 33 true).run prog w = .ok (.tuple #[.int .i64 0, .bool false]) w := by kernel_rfl
theorem pl_idle (T E : Nat) (w : World) :
 CallsD prog 23 #[.pointer (some ⟨T, 0, none⟩), .pointer (some ⟨E, 0, none⟩)] .returning w fun e u' w' => e = .returned (.tuple #[]) ∧ u' = .returning ∧ w' = w := by
 have ta := as_nothing; refine callsD_of_wpS func23 rfl fun c₀ cs hu => ?_
 apply wpS_seq
 apply wpS_region
 simp [wpOpsS, go_sem, recoverD, hu, ntmps23, Exit.thenS, ta]
 apply wpS_seq
 apply wpS_region
 simp [wpOpsS, go_sem, Exit.thenS]
 refine wpS_cond (t := false) (by simp [Act.eval, Array.replicate]) ?_; simp only [Bool.false_eq_true, if_false]; refine wpS_of_wp (wp_skip ?_); cases c₀
 simp_all [bodyPostS, results, results23]
theorem pl_panicking (T E : Nat) (c : Value) (k : Int) (w : World) (hT : ZeroAt T w) (h2 : w.cell? ⟨E, 0, none⟩ = some c) (f2 : w.frozen? ⟨E, 0, none⟩ = false) (hTE : T ≠ E) (hET : E ≠ T) :
 CallsD prog 23 #[.pointer (some ⟨T, 0, none⟩), .pointer (some ⟨E, 0, none⟩)] (.panicking [{ v := .iface 33 (.int .i64 k), recovered := false }]) w fun e u' w' =>
  e = .returned (.tuple #[]) ∧ u' = .panicking [{ v := .iface 33 (.int .i64 k), recovered := true }] ∧ ZeroAt T w' ∧ w'.cell? ⟨E, 0, none⟩ = some (.int .i64 k) ∧ ∀ n, n ≤ T → n ≤ E → Below n w w' := by
 have ta := as_errno k; have y0 := cell_of_block hT 0; have f10 := unfrozen_of_block hT 0; have y1 := cell_of_block hT 1; have f11 := unfrozen_of_block hT 1; have y2 := cell_of_block hT 2; have f12 := unfrozen_of_block hT 2; have y3 := cell_of_block hT 3; have f13 := unfrozen_of_block hT 3; have y4 := cell_of_block hT 4; have f14 := unfrozen_of_block hT 4; have y5 := cell_of_block hT 5; have f15 := unfrozen_of_block hT 5; have y6 := cell_of_block hT 6; have f16 := unfrozen_of_block hT 6; have y7 := cell_of_block hT 7; have f17 := unfrozen_of_block hT 7; have y8 := cell_of_block hT 8; have f18 := unfrozen_of_block hT 8; have y9 := cell_of_block hT 9; have f19 := unfrozen_of_block hT 9; have y10 := cell_of_block hT 10; have f20 := unfrozen_of_block hT 10; have y11 := cell_of_block hT 11; have f21 := unfrozen_of_block hT 11; have y12 := cell_of_block hT 12; have f22 := unfrozen_of_block hT 12; have y13 := cell_of_block hT 13; have f23 := unfrozen_of_block hT 13; have HT := hide hT; clear hT; refine callsD_of_wpS func23 rfl fun c₀ cs hu => ?_
 apply wpS_seq
 apply wpS_region
 simp [wpOpsS, go_sem, recoverD, hu, ntmps23, Exit.thenS, ta]
 apply wpS_seq
 apply wpS_region
 simp [wpOpsS, go_sem, Exit.thenS]
 refine wpS_cond (t := true) (by simp [Act.eval, Array.replicate]) ?_; simp only [if_true]; apply wpS_region
 simp [wpOpsS, go_sem, h2, f2, bodyPostS, results, results23, y0, y1, y2, y3, y4, y5, y6, y7, y8, y9, y10, y11, y12, y13, f10, f11, f12, f13, f14, f15, f16, f17, f18, f19, f20, f21, f22, f23]
 refine ⟨?_, fun n h1 h3 => ?_⟩
 · exact ((((((((((((((HT.out.set rfl).set rfl).set rfl).set rfl).set rfl).set rfl).set rfl).set rfl).set rfl).set rfl).set rfl).set rfl).set rfl).set rfl).other hTE
 · exact (((((((((((((((Below.refl n w).setCell h1 _).setCell h1 _).setCell h1 _).setCell h1 _).setCell h1 _).setCell h1 _).setCell h1 _).setCell h1 _).setCell h1 _).setCell h1 _).setCell h1 _).setCell h1 _).setCell h1 _).setCell h1 _).setCell h3 _
theorem linesP_ro {L : List B8} {p : Pq} (h : linesP L = .ok p) : p.ro < 18446744073709551616 := by
 unfold linesP at h; split at h
 · cases h
 · split at h
   · split at h
     · cases h
     · rename_i hr
       injection h with h; subst h; exact restP_ro hr
   · cases h
def outQ : Except Int Pq → Pq × Int
 | .ok p => if pRight p = true then (p, 0) else (zeroQ, 1)
 | .error e => (zeroQ, e)
theorem pParse_out (t : B8) : pParse t = outQ (linesP (cut 10 t)) := by unfold pParse; cases linesP (cut 10 t) <;> rfl
def ParseQ (t : B8) (w : World) (e : Ending) (w' : World) : Prop :=
 ∃ (q : Pq) (k : Int) (ob rg pg pk : Value), pParse t = (q, k) ∧ e = .returned (.tuple #[planV q.wk q.mu q.cp q.bf q.bn q.mo q.pr q.li q.sl ob q.ro rg pg pk, .int .i64 k]) ∧ PlanR w' ob rg pg pk q ∧ Below w.heap.size w w'
theorem planR_zero (w : World) : PlanR w (.slice none 0 0) (.slice none 0 0) (.slice none 0 0) (.slice none 0 0) zeroQ := ⟨⟨[], Sl.nil_, rfl, by simp⟩, ⟨[], Sl.nil_, rfl, by simp⟩, ⟨[], Sl.nil_, rfl, by simp⟩, Sl.nil_⟩
theorem parseQ_err {t : B8} {w w' : World} {k : Int} (h : pParse t = (zeroQ, k)) (hb : Below w.heap.size w w') : ParseQ t w (.returned (.tuple #[planV 0 0 0 0 0 0 0 0 0 (.slice none 0 0) 0 (.slice none 0 0) (.slice none 0 0) (.slice none 0 0), .int .i64 k])) w' :=
 ⟨zeroQ, k, _, _, _, _, h, rfl, planR_zero w', hb⟩
theorem Parse_plan (s : ByteArray) (w : World) (hs : s.size ≤ 8796093022208) (hE : EnvP w) : Calls prog 5 #[.string s] w (ParseQ s.data.toList w) := by
 have hmf := makeFunc_ok; obtain ⟨wa, ea⟩ : ∃ wa, w.alloc (.cells #[.int .i64 0, .int .i64 0, .int .i64 0, .int .i64 0, .int .i64 0, .int .i64 0, .int .i64 0, .int .i64 0, .int .i64 0, .slice none 0 0, .int .u64 0, .slice none 0 0, .slice none 0 0, .slice none 0 0] 30) = wa := ⟨_, rfl⟩; have hsa : wa.heap.size = w.heap.size + 1 := by rw [← ea]; simp
 have hba : Below w.heap.size w wa := by rw [← ea]; exact balHp _ _
 have hza : ZeroAt w.heap.size wa := by rw [← ea]; exact heap_alloc_new w _
 obtain ⟨wb, eb⟩ : ∃ wb, wa.alloc (.cells #[.int .i64 0] 33) = wb := ⟨_, rfl⟩; have hsb : wb.heap.size = w.heap.size + 2 := by rw [← eb]; simp [hsa]
 have hbb : Below wa.heap.size wa wb := by rw [← eb]; exact balHp _ _
 have hob : wb.heap[w.heap.size + 1]? = some (.cells #[.int .i64 0] 33) := by rw [← eb, ← hsa]; exact heap_alloc_new wa _
 obtain ⟨wc, ec⟩ : ∃ wc, wb.alloc (.cells #[.string s] 59) = wc := ⟨_, rfl⟩; have hsc : wc.heap.size = w.heap.size + 3 := by rw [← ec]; simp [hsb]
 have hbc : Below wb.heap.size wb wc := by rw [← ec]; exact balHp _ _
 have hRc : RdAt (w.heap.size + 2) s wc := by
  unfold RdAt; rw [← ec, ← hsb]; exact heap_alloc_new wb _
 have hBc : Below w.heap.size w wc := bcall (bcall hba hbb) hbc; have hzc : ZeroAt w.heap.size wc := (hbc.block _ (by omega)).trans ((hbb.block _ (by omega)).trans hza); have hoc : wc.heap[w.heap.size + 1]? = some (.cells #[.int .i64 0] 33) := (hbc.block _ (by omega)).trans hob; have HPT := hide (parts_any (w.heap.size + 2) s wc hRc hs ⟨w, hE, by omega, hBc⟩); obtain ⟨o, ho⟩ : ∃ o, linesP (cut 10 s.data.toList) = o := ⟨_, rfl⟩; have HPP := hide (show pParse s.data.toList = outQ o by rw [pParse_out, ho]); have HO := hide ho; have HEA := hide ea; have HEB := hide eb; have HEC := hide ec; have HSC := hide hsc; have HBC := hide hBc; have HZC := hide hzc; have HOC := hide hoc; clear ea eb ec hsa hsb hsc hba hbb hbc hza hob hRc hBc hzc hoc hE ho; go_enter_defers func5, ntmps5
 go_wp2_with fail
 rw [HEA.out, HEB.out, HEC.out]; refine HPT.out.mono ?_; rintro e w4 ⟨hg4, h4⟩; rw [HO.out] at h4; have n0 : some (w.heap.size + 2) ≠ some w.heap.size := fun e => by injection e with e; omega
 have n1 : some (w.heap.size + 2) ≠ some (w.heap.size + 1) := fun e => by injection e with e; omega
 have hsc := HSC.out; have HZ4 := hide (show ZeroAt w.heap.size w4 from (hg4.block _ (by omega) n0.symm).trans HZC.out); have HO4 := hide ((hg4.block _ (by omega) n1.symm).trans HOC.out); have HB4 := hide (show Below w.heap.size w w4 from HBC.out.trans (grown_bel2 hg4 (by omega) (by omega))); have HS4 := hide hg4.size; clear hg4 n0 n1 hsc; cases o with
 | error k =>
   have r2 := cell_of_block HO4.out 0; have z2 := unfrozen_of_block HO4.out 0; unfold PanQ at h4; subst h4; go_wp2; refine leaves_cons (f := 23) (args := #[.pointer (some ⟨w.heap.size, 0, none⟩), .pointer (some ⟨w.heap.size + 1, 0, none⟩)]) (by simp) (by simp [go_sem]) ?_; refine (pl_panicking w.heap.size (w.heap.size + 1) _ k w4 HZ4.out r2 z2 (by omega) (by omega)).mono ?_; rintro e u' w'' ⟨rfl, rfl, hz, hk, hb⟩; simp only [Leaves, settle, List.dropWhile_nil]; have y0 := cell_of_block hz 0; have y1 := cell_of_block hz 1; have y2 := cell_of_block hz 2; have y3 := cell_of_block hz 3; have y4 := cell_of_block hz 4; have y5 := cell_of_block hz 5; have y6 := cell_of_block hz 6; have y7 := cell_of_block hz 7; have y8 := cell_of_block hz 8; have y9 := cell_of_block hz 9; have y10 := cell_of_block hz 10; have y11 := cell_of_block hz 11; have y12 := cell_of_block hz 12; have y13 := cell_of_block hz 13; refine ⟨.tuple #[planV 0 0 0 0 0 0 0 0 0 (.slice none 0 0) 0 (.slice none 0 0) (.slice none 0 0) (.slice none 0 0), .int .i64 k], by simp [results, results5, go_sem, y0, y1, y2, y3, y4, y5, y6, y7, y8, y9, y10, y11, y12, y13, hk], ?_⟩; exact parseQ_err HPP.out (HB4.out.trans (hb _ l_ (by omega)))
 | ok p =>
   obtain ⟨v, fs, rfl, hps, hlf, hfn⟩ := h4; have HLD := hide (laid_any _ v fs w4 hps hfn (by have h1 := HS4.out; have h2 := HSC.out; omega)); rw [hlf] at HLD; obtain ⟨A, c, rfl, -, -⟩ := parts_form hps; clear hps hlf; go_wp2_with fail
   refine HLD.out.mono ?_; rintro e w5 ⟨ob, rg, pg, pk, rfl, hO5, hb5⟩; have hr5 := hO5.read; have hro := linesP_ro HO.out; obtain ⟨a, b, c', d, e, f, g, h, n, lo, s', lr, lp, lk⟩ := p; dsimp only at hro; obtain ⟨A1, m1, rfl, -, -⟩ := hr5.ob.form; obtain ⟨A2, m2, rfl, -, -⟩ := hr5.rg.form; obtain ⟨A3, m3, rfl, -, -⟩ := hr5.pg.form; obtain ⟨A4, m4, rfl, -, -, -⟩ := id hr5.pk; dsimp only; obtain ⟨w6, e6, hb6, hs6, X6⟩ := bp_new w5 a b c' d e f g h n (.slice A1 lo.length m1) s' (.slice A2 lr.length m2) (.slice A3 lp.length m3) (.slice A4 lk.length m4) 30; have HE6 := hide e6; have HX6 := hide X6; have HR6 := hide (hr5.below hb6); have HP6 := hide (hO5.below hb6); have h4s := HS4.out; have h4c := HSC.out; have hlt0 : w.heap.size < w4.heap.size := by omega
   have hlt1 : w.heap.size + 1 < w4.heap.size := by omega
   have HZ6 := hide (show ZeroAt w.heap.size w6 from (hb6.block _ (by have := hb5.size; omega)).trans ((hb5.block _ hlt0).trans HZ4.out)); have HO6 := hide ((hb6.block _ (by have := hb5.size; omega)).trans ((hb5.block _ hlt1).trans HO4.out)); have HB6 := hide (bcall (bcall HB4.out hb5) hb6); have HS6 := hide (show w.heap.size + 1 < w6.heap.size by have := hb5.size; omega); obtain ⟨B, hB⟩ : ∃ B, pRight ⟨a, b, c', d, e, f, g, h, n, lo, s', lr, lp, lk⟩ = B := ⟨_, rfl⟩; have HRT := hide (fun W hR => pRight_any a b c' d e f g h n (.slice A1 lo.length m1) s' (.slice A2 lr.length m2) (.slice A3 lp.length m3) (.slice A4 lk.length m4) lo lr lp lk W hro hR); rw [hB] at HRT; have HPX := hide (show pParse s.data.toList = if B = true then (⟨a, b, c', d, e, f, g, h, n, lo, s', lr, lp, lk⟩, 0) else (zeroQ, 1) by rw [HPP.out, outQ, hB]); obtain ⟨x0, x1, x2, x3, x4, x5, x6, x7, x8, x9, xa, xb, xc, xd⟩ := X6.cells; clear e6 X6 hr5 hO5 hb5 hb6 hs6 h4s h4c hlt0 hlt1 hB hro HO HPP; unfold planV at HRT; go_wp2_with fail
   rw [HE6.out]; refine (HRT.out _ HR6.out).mono ?_; rintro e7 w7 ⟨rfl, hb7⟩; have HX7 := hide (HX6.out.below hb7); have HP7 := hide (HP6.out.below hb7); have hl6 := HS6.out; have hz7 : ZeroAt w.heap.size w7 := (hb7.block _ (by omega)).trans HZ6.out; have ho7 : w7.heap[w.heap.size + 1]? = some (.cells #[.int .i64 0] 33) := (hb7.block _ (by omega)).trans HO6.out; have HB7 := hide (bcall HB6.out hb7); have HZ7 := hide hz7; clear x0 x1 x2 x3 x4 x5 x6 x7 x8 x9 xa xb xc xd hb7; obtain ⟨x0, x1, x2, x3, x4, x5, x6, x7, x8, x9, xa, xb, xc, xd⟩ := HX7.out.cells; have y0 := cell_of_block hz7 0; have f10 := unfrozen_of_block hz7 0; have y1 := cell_of_block hz7 1; have f11 := unfrozen_of_block hz7 1; have y2 := cell_of_block hz7 2; have f12 := unfrozen_of_block hz7 2; have y3 := cell_of_block hz7 3; have f13 := unfrozen_of_block hz7 3; have y4 := cell_of_block hz7 4; have f14 := unfrozen_of_block hz7 4; have y5 := cell_of_block hz7 5; have f15 := unfrozen_of_block hz7 5; have y6 := cell_of_block hz7 6; have f16 := unfrozen_of_block hz7 6; have y7 := cell_of_block hz7 7; have f17 := unfrozen_of_block hz7 7; have y8 := cell_of_block hz7 8; have f18 := unfrozen_of_block hz7 8; have y9 := cell_of_block hz7 9; have f19 := unfrozen_of_block hz7 9; have y10 := cell_of_block hz7 10; have f20 := unfrozen_of_block hz7 10; have y11 := cell_of_block hz7 11; have f21 := unfrozen_of_block hz7 11; have y12 := cell_of_block hz7 12; have f22 := unfrozen_of_block hz7 12; have y13 := cell_of_block hz7 13; have f23 := unfrozen_of_block hz7 13; have ye := cell_of_block ho7 0; have fe := unfrozen_of_block ho7 0; clear hz7 ho7 hl6; cases B with
   | false =>
     go_wp2; refine leaves_cons (f := 23) (args := #[.pointer (some ⟨w.heap.size, 0, none⟩), .pointer (some ⟨w.heap.size + 1, 0, none⟩)]) (by simp) (by simp [go_sem]) ?_; refine (pl_idle _ _ _).mono ?_; rintro e u' w'' ⟨rfl, rfl, rfl⟩; simp only [Leaves, settle]; refine ⟨.tuple #[planV 0 0 0 0 0 0 0 0 0 (.slice none 0 0) 0 (.slice none 0 0) (.slice none 0 0) (.slice none 0 0), .int .i64 1], by simp [results, results5, go_sem, y0, y1, y2, y3, y4, y5, y6, y7, y8, y9, y10, y11, y12, y13, ye], ?_⟩; refine parseQ_err (by rw [HPX.out]; rfl) ?_; exact (((((((((((((((HB7.out).setCell l_ _).setCell l_ _).setCell l_ _).setCell l_ _).setCell l_ _).setCell l_ _).setCell l_ _).setCell l_ _).setCell l_ _).setCell l_ _).setCell l_ _).setCell l_ _).setCell l_ _).setCell l_ _).setCell (by simp) _
   | true =>
     go_wp2; refine leaves_cons (f := 23) (args := #[.pointer (some ⟨w.heap.size, 0, none⟩), .pointer (some ⟨w.heap.size + 1, 0, none⟩)]) (by simp) (by simp [go_sem]) ?_; refine (pl_idle _ _ _).mono ?_; rintro e u' w'' ⟨rfl, rfl, rfl⟩; simp only [Leaves, settle]; refine ⟨.tuple #[planV a b c' d e f g h n (.slice A1 lo.length m1) s' (.slice A2 lr.length m2) (.slice A3 lp.length m3) (.slice A4 lk.length m4), .int .i64 0], by simp [results, results5, go_sem, y0, y1, y2, y3, y4, y5, y6, y7, y8, y9, y10, y11, y12, y13, ye], ?_⟩; refine ⟨_, 0, _, _, _, _, by rw [HPX.out]; rfl, rfl, (((((((((((((((HP7.out.set (a := ⟨w.heap.size, 0, none⟩) (show w.heap.size < w.heap.size + 2 + 1 by omega) _).set (a := ⟨w.heap.size, 1, none⟩) (show w.heap.size < w.heap.size + 2 + 1 by omega) _).set (a := ⟨w.heap.size, 2, none⟩) (show w.heap.size < w.heap.size + 2 + 1 by omega) _).set (a := ⟨w.heap.size, 3, none⟩) (show w.heap.size < w.heap.size + 2 + 1 by omega) _).set (a := ⟨w.heap.size, 4, none⟩) (show w.heap.size < w.heap.size + 2 + 1 by omega) _).set (a := ⟨w.heap.size, 5, none⟩) (show w.heap.size < w.heap.size + 2 + 1 by omega) _).set (a := ⟨w.heap.size, 6, none⟩) (show w.heap.size < w.heap.size + 2 + 1 by omega) _).set (a := ⟨w.heap.size, 7, none⟩) (show w.heap.size < w.heap.size + 2 + 1 by omega) _).set (a := ⟨w.heap.size, 8, none⟩) (show w.heap.size < w.heap.size + 2 + 1 by omega) _).set (a := ⟨w.heap.size, 9, none⟩) (show w.heap.size < w.heap.size + 2 + 1 by omega) _).set (a := ⟨w.heap.size, 10, none⟩) (show w.heap.size < w.heap.size + 2 + 1 by omega) _).set (a := ⟨w.heap.size, 11, none⟩) (show w.heap.size < w.heap.size + 2 + 1 by omega) _).set (a := ⟨w.heap.size, 12, none⟩) (show w.heap.size < w.heap.size + 2 + 1 by omega) _).set (a := ⟨w.heap.size, 13, none⟩) (show w.heap.size < w.heap.size + 2 + 1 by omega) _).set (a := ⟨w.heap.size + 1, 0, none⟩) (show w.heap.size + 1 < w.heap.size + 2 + 1 by omega) _).read, ?_⟩; exact (((((((((((((((HB7.out).setCell l_ _).setCell l_ _).setCell l_ _).setCell l_ _).setCell l_ _).setCell l_ _).setCell l_ _).setCell l_ _).setCell l_ _).setCell l_ _).setCell l_ _).setCell l_ _).setCell l_ _).setCell l_ _).setCell (by simp) _
