/- ChainStops: for any schedule by bytes, whoever: who stops stops others not: one who goes on alone comes to its end in six steps. No condition. -/
import Derived.Test.YtpffknlbffnafaaChainEx
import Derived.Test.YtpffknlbffnafaaChainLawP
import Derived.Deep.Cut
import Derived.Deep.QuietTactic
import Derived.BigQuiet
import Derived.Deep.RegionLaw
import Derived.Deep.RegionHeldLaw
namespace Go.Proofs.Ytpffknlbffnafaa.ch.lawChainStops
open Go.RowKit Go.WideShapes Go.ChangeShapes Go.ChangeAt Go.Proofs Go.Proofs.Ytpffknlbffnafaa

theorem Mb.drew {w : World} {B : Nat} {d : Cm} (h : Mb w B d) : Mb w.drew B d := ⟨h.blk⟩
theorem mb_at (w : World) (d : Cm) {B : Nat} (h : w.heap.size = B) : Mb (w.alloc (.cells (mcs d) 26)) B d := by subst h; exact mb_new w d
abbrev zM : Cm := ⟨0, 0, 0, 0, 0, 0, 0, 0⟩
theorem below_set8' {n : Nat} {a w : World} {R : Nat} {x0 x1 x2 x3 x4 x5 x6 x7 : Value} (h : Below n a w) (hR : n ≤ R) :
    Below n a ((((((((w.setCell ⟨R, 0, none⟩ x0).setCell ⟨R, 1, none⟩ x1).setCell ⟨R, 2, none⟩ x2).setCell ⟨R, 3, none⟩ x3).setCell ⟨R, 4, none⟩ x4).setCell ⟨R, 5, none⟩ x5).setCell ⟨R, 6, none⟩ x6).setCell ⟨R, 7, none⟩ x7) := below_set8 h hR _ _ _ _ _ _ _ _
theorem bset {n : Nat} {a w : World} (h : Below n a w) (b o : Nat) (hb : n ≤ b) (v : Value) : Below n a (w.setCell ⟨b, o, none⟩ v) := h.setCell (p := ⟨b, o, none⟩) hb v
theorem cell_set8 {w : World} {b R : Nat} (h : b ≠ R) (o : Nat) (x0 x1 x2 x3 x4 x5 x6 x7 : Value) :
    ((((((((w.setCell ⟨R, 0, none⟩ x0).setCell ⟨R, 1, none⟩ x1).setCell ⟨R, 2, none⟩ x2).setCell ⟨R, 3, none⟩ x3).setCell ⟨R, 4, none⟩ x4).setCell ⟨R, 5, none⟩ x5).setCell ⟨R, 6, none⟩ x6).setCell ⟨R, 7, none⟩ x7).cell? ⟨b, o, none⟩ = w.cell? ⟨b, o, none⟩ := by
  have h' : ¬ R = b := fun e => h e.symm
  simp [World.cell?, World.setCell, Array.getElem?_modify, h']
set_option maxRecDepth 100000 in
set_option maxHeartbeats 8000000 in
theorem walk (v : Value) (lb : List Int) (a1 : Int) (w : World) (h : Bytes w v lb) (hlb : ∀ p ∈ lb, 0 ≤ p ∧ p ≤ 255) (ha : 0 ≤ a1 ∧ a1 ≤ 255) : Calls Try.prog 4 #[v, .int .u8 a1] w fun e w' => e = .returned (.bool true) ∧ Below w.heap.size w w' := by
  have hB : Below w.heap.size w w := Below.refl _ _
  obtain ⟨Ab, cb, rfl, hcb1, hcb2, -⟩ := id h
  unfold maxLen at hcb2
  have GB := hide h
  have HLB := hide hlb
  clear h hlb
  go_enter Try.func4, Try.ntmps4
  go_wp2_with fail
  (with_reducible refine (examples_any _).mono ?_)
  rintro e w0_ ⟨rfl, hb0_⟩
  replace hB := bcall hB hb0_
  have hs0_ := hb0_.size
  go_wp2_with fail
  (with_reducible refine (start_any _).mono ?_)
  rintro e w1_ ⟨A, c, g, gh, ct, cg, rfl, ⟨hc1, hc2⟩, ⟨ht1, ht2⟩, ⟨hh1, hh2⟩, hC, hT, hH, hb1_, hne, hgg, hlg, hlh⟩
  replace hB := bcall hB hb1_
  have hs1_ := hb1_.size
  obtain ⟨w3, e3⟩ : ∃ w3, w1_.alloc (.cells #[.slice A 10 c, .slice (some ⟨g, 0, none⟩) 5 ct, .slice (some ⟨gh, 0, none⟩) 5 cg, .int .i64 0] 49) = w3 := ⟨_, rfl⟩
  have HE3 := hide e3
  have hb3 : Below w1_.heap.size w1_ w3 := by rw [← e3]; exact bal _ _
  have HW := hide (start_wat hC hT hH hne hgg e3)
  have HST := hide (show SpAt w3 w1_.heap.size g gh ct cg 0 startCw (.slice A 10 c) w3 from ⟨HW.out, Fr.refl, start_good⟩)
  replace hB := bcall hB hb3
  have hfB : w.heap.size ≤ w1_.heap.size := by omega
  have hfg : w.heap.size ≤ g := by omega
  have hfh : w.heap.size ≤ gh := by omega
  have hf3 : w.heap.size ≤ w3.heap.size := hB.size
  clear e3 hC hT hH hne hb3 hb0_ hb1_ hlg hlh
  go_upto_region 5 with (fail)
  rw [HE3.out]
  go_wp2
  go_loopw [7] (fun iv wr => ∃ (X : Nat) (d : Cw) (vM : Value), X ≤ 200 ∧ iv = .int .i64 X ∧ Hid (SpAt w3 w1_.heap.size g gh ct cg X d vM wr)) (fun iv _ => 200 - (Go.RowKit.intOf iv).toNat)
  case atStart => exact ⟨0, startCw, _, Nat.zero_le _, rfl, HST⟩
  case round =>
    obtain ⟨X, d, vM, hX, rfl, HS⟩ := hrel
    have hBr : Below w.heap.size w wr := Fr.below hB HS.out.fr hf3 hfB hfg hfh
    have GBr := hide (GB.out.below hBr)
    by_cases hlt : X < lb.length
    · by_cases hm : X < 200
      · obtain ⟨bg, bo, rfl, d0⟩ := bytes_at GBr.out hlt
        have hy := HLB.out _ (List.getElem_mem hlt)
        obtain ⟨y, hyy⟩ : ∃ y, lb[X] = y := ⟨_, rfl⟩
        rw [hyy] at d0 hy
        clear hyy
        have hmi : (X : Int) < 200 := by omega
        obtain ⟨d', hd'⟩ : ∃ d', cstepW y.toNat d = d' := ⟨_, rfl⟩
        have HG := hide (show CGood (X + 1) d' by rw [← hd']; exact chain_good HS.out.good (by omega) _)
        have HDD := hide hd'
        clear hd'
        go_wp2_with fail
        (with_reducible refine (wstep_good w1_.heap.size g gh ct cg d vM _ HS.out.at_ X HS.out.good (by omega) y hy d' HDD.out).mono ?_)
        rintro e w5 ⟨vM', rfl, hW5, hF5⟩
        have HS5 := hide (show SpAt w3 w1_.heap.size g gh ct cg (X + 1) d' vM' w5 from ⟨hW5, HS.out.fr.trans hF5, HG.out⟩)
        clear hW5 hF5 d0
        go_wp2
        go_roundw
        case rel => exact ⟨X + 1, d', _, by omega, by go_num, HS5⟩
        case measure => simp [Go.RowKit.intOf]; omega
      · have hm' : ¬ (X : Int) < 200 := by omega
        obtain ⟨V, L, hci, -⟩ := HS.out.good
        obtain ⟨n, hn⟩ : ∃ n : Nat, a1 % 5 = (n : Int) := ⟨(a1 % 5).toNat, by omega⟩
        have hn5 : n < 5 := by omega
        have hn5i : (n : Int) < 5 := by omega
        have hmn : a1.tmod 5 = (n : Int) := by rw [Int.tmod_eq_emod_of_nonneg ha.1]; exact hn
        have ha1 := ha.1
        have ha2 := ha.2
        obtain ⟨co, hco⟩ : ∃ co, d.who[n]? = some co := ⟨_, List.getElem?_eq_getElem (by rw [hci.wl]; exact hn5)⟩
        obtain ⟨xo, hxo⟩ : ∃ xo, d.has[n]? = some xo := ⟨_, List.getElem?_eq_getElem (by rw [hci.hl]; exact hn5)⟩
        have hend := chain_stops hci hco hxo
        unfold EndsC at hend
        have hle := runC_le 6 d.m co
        obtain ⟨k, p, s, c_, b, t, x, u⟩ := co
        obtain ⟨r, hr⟩ : ∃ r, runC 6 d.m ⟨k, p, s, c_, b, t, x, u⟩ = r := ⟨_, rfl⟩
        rw [hr] at hend hle
        obtain ⟨M1, ⟨k1, p1, s1, q1, b1, t1, x1, u1⟩, NN⟩ := r
        simp only at hend hle
        have hml := hci.two.len
        have q0 : (u1 != 0) = true := by rw [bne_iff_ne]; exact hend
        have q1_ : decide ((NN : Int) ≤ 6) = true := decide_eq_true (by omega)
        have HRR := hide hr
        have HML := hide hml
        have HBG := hide (show d.m.length * 8 ≤ 140737488351232 by rw [hml]; decide)
        obtain ⟨A5, c5, rfl, h51, h52⟩ := cells_form' HS.out.at_.mem
        have HW := hide (show Wat wr w1_.heap.size g gh ct cg d (.slice A5 10 c5) by have hz := HS.out.at_; rw [hml] at hz; exact hz)
        have HC := hide (cells_drew HW.out.mem)
        have HC2 := hide (show Cells (World.drew (wr.alloc (.cells #[.int .i64 0, .int .i64 0, .int .i64 0, .int .i64 0, .int .u64 0, .int .i64 0, .int .i64 0, .int .i64 0] 26))) (.slice A5 10 c5) d.m from cells_drew (HW.out.mem.below (bal _ _)))
        have HWHO := hide hco
        rw [hml] at h51
        have hneT := HW.out.neT
        have hltw := HW.out.ltB
        have hltg := HW.out.ltG
        have hneB : w1_.heap.size ≠ wr.heap.size := by omega
        have hneg1 : g ≠ wr.heap.size := by omega
        have hneg2 : wr.heap.size ≠ g := by omega
        clear hr hci hxo hend hle hml hco HS HST ha
        obtain ⟨y0, y1, y2, y3⟩ := world_cells HW.out
        obtain ⟨a0, a1_, a2, a3, a4, a5, a6, a7⟩ := th_cell HW.out HWHO.out
        have hBd := hBr.drew
        go_upto_region 9 with (fail)
        have HWz := hide HW.out.drew
        go_region_held_law (fun w' => w'.cell? ⟨w1_.heap.size, 0, none⟩ = some (.slice A5 10 c5) ∧ w'.cell? ⟨w1_.heap.size, 1, none⟩ = some (.slice (some ⟨g, 0, none⟩) 5 ct) ∧ (w'.cell? ⟨g, n * 8, none⟩ = some (.int .i64 k) ∧ w'.cell? ⟨g, n * 8 + 1, none⟩ = some (.int .i64 p) ∧ w'.cell? ⟨g, n * 8 + 2, none⟩ = some (.int .i64 s) ∧ w'.cell? ⟨g, n * 8 + 3, none⟩ = some (.int .i64 c_) ∧ w'.cell? ⟨g, n * 8 + 4, none⟩ = some (.int .u64 b) ∧ w'.cell? ⟨g, n * 8 + 5, none⟩ = some (.int .i64 t) ∧ w'.cell? ⟨g, n * 8 + 6, none⟩ = some (.int .i64 x) ∧ w'.cell? ⟨g, n * 8 + 7, none⟩ = some (.int .i64 u))) (first | (with_reducible exact ⟨(world_cells HWz.out).1, (world_cells HWz.out).2.1, th_cell HWz.out HWHO.out⟩) | (with_reducible exact ⟨(world_cells (HWz.out.below (bal _ _))).1, (world_cells (HWz.out.below (bal _ _))).2.1, th_cell (HWz.out.below (bal _ _)) HWHO.out⟩) | (simp only [cell_set8 hneB, cell_set8 hneg1]; with_reducible exact ⟨(world_cells HWz.out).1, (world_cells HWz.out).2.1, th_cell HWz.out HWHO.out⟩) | go_keep) ((go_simp; go_at_call 23; (first | (with_reducible refine (run_c k p s c_ b t x u _ d.m _ HC.out HBG.out 6 M1 k1 p1 s1 q1 b1 t1 x1 u1 NN HRR.out 10 HML.out (by decide) 6 _ rfl rfl).mono ?_) | (with_reducible refine (run_c k p s c_ b t x u _ d.m _ HC2.out HBG.out 6 M1 k1 p1 s1 q1 b1 t1 x1 u1 NN HRR.out 10 HML.out (by decide) 6 _ rfl rfl).mono ?_)); rintro e w6 ⟨A1, c1, rfl, ⟨hg1, hg2⟩, -, hb6⟩; (first | (have M1_ : Mb w6 wr.heap.size zM := (mb_at wr.drew zM rfl).below hb6; obtain ⟨z0, z1, z2, z3, z4, z5, z6, z7⟩ := M1_.cells; obtain ⟨f0, f1, f2, f3, f4, f5, f6, f7⟩ := M1_.unfs) | skip); have hB6 : Below w.heap.size w w6 := (by first | exact bcall hBd hb6 | exact bcall (bcall hBd (bal _ _)) hb6); replace HWz := hide (by first | exact HWz.out.below hb6 | exact (HWz.out.below (bal _ _)).below hb6); clear hb6; (try go_simp)))
        all_goals
          go_wp2
          go_ret
          refine ⟨rfl, ?_⟩
          have hz6 := hB6.size
          repeat (first | (with_reducible exact hB6) | (with_reducible refine bset ?_ _ _ (by omega) _) | (with_reducible refine Below.alloc ?_ (by omega) _) | (with_reducible refine Below.drew ?_))
    · have hlt' : ¬ (X : Int) < (lb.length : Int) := by omega
      obtain ⟨V, L, hci, -⟩ := HS.out.good
      obtain ⟨n, hn⟩ : ∃ n : Nat, a1 % 5 = (n : Int) := ⟨(a1 % 5).toNat, by omega⟩
      have hn5 : n < 5 := by omega
      have hn5i : (n : Int) < 5 := by omega
      have hmn : a1.tmod 5 = (n : Int) := by rw [Int.tmod_eq_emod_of_nonneg ha.1]; exact hn
      have ha1 := ha.1
      have ha2 := ha.2
      obtain ⟨co, hco⟩ : ∃ co, d.who[n]? = some co := ⟨_, List.getElem?_eq_getElem (by rw [hci.wl]; exact hn5)⟩
      obtain ⟨xo, hxo⟩ : ∃ xo, d.has[n]? = some xo := ⟨_, List.getElem?_eq_getElem (by rw [hci.hl]; exact hn5)⟩
      have hend := chain_stops hci hco hxo
      unfold EndsC at hend
      have hle := runC_le 6 d.m co
      obtain ⟨k, p, s, c_, b, t, x, u⟩ := co
      obtain ⟨r, hr⟩ : ∃ r, runC 6 d.m ⟨k, p, s, c_, b, t, x, u⟩ = r := ⟨_, rfl⟩
      rw [hr] at hend hle
      obtain ⟨M1, ⟨k1, p1, s1, q1, b1, t1, x1, u1⟩, NN⟩ := r
      simp only at hend hle
      have hml := hci.two.len
      have q0 : (u1 != 0) = true := by rw [bne_iff_ne]; exact hend
      have q1_ : decide ((NN : Int) ≤ 6) = true := decide_eq_true (by omega)
      have HRR := hide hr
      have HML := hide hml
      have HBG := hide (show d.m.length * 8 ≤ 140737488351232 by rw [hml]; decide)
      obtain ⟨A5, c5, rfl, h51, h52⟩ := cells_form' HS.out.at_.mem
      have HW := hide (show Wat wr w1_.heap.size g gh ct cg d (.slice A5 10 c5) by have hz := HS.out.at_; rw [hml] at hz; exact hz)
      have HC := hide (cells_drew HW.out.mem)
      have HC2 := hide (show Cells (World.drew (wr.alloc (.cells #[.int .i64 0, .int .i64 0, .int .i64 0, .int .i64 0, .int .u64 0, .int .i64 0, .int .i64 0, .int .i64 0] 26))) (.slice A5 10 c5) d.m from cells_drew (HW.out.mem.below (bal _ _)))
      have HWHO := hide hco
      rw [hml] at h51
      have hneT := HW.out.neT
      have hltw := HW.out.ltB
      have hltg := HW.out.ltG
      have hneB : w1_.heap.size ≠ wr.heap.size := by omega
      have hneg1 : g ≠ wr.heap.size := by omega
      have hneg2 : wr.heap.size ≠ g := by omega
      clear hr hci hxo hend hle hml hco HS HST ha
      obtain ⟨y0, y1, y2, y3⟩ := world_cells HW.out
      obtain ⟨a0, a1_, a2, a3, a4, a5, a6, a7⟩ := th_cell HW.out HWHO.out
      have hBd := hBr.drew
      go_upto_region 9 with (fail)
      have HWz := hide HW.out.drew
      go_region_held_law (fun w' => w'.cell? ⟨w1_.heap.size, 0, none⟩ = some (.slice A5 10 c5) ∧ w'.cell? ⟨w1_.heap.size, 1, none⟩ = some (.slice (some ⟨g, 0, none⟩) 5 ct) ∧ (w'.cell? ⟨g, n * 8, none⟩ = some (.int .i64 k) ∧ w'.cell? ⟨g, n * 8 + 1, none⟩ = some (.int .i64 p) ∧ w'.cell? ⟨g, n * 8 + 2, none⟩ = some (.int .i64 s) ∧ w'.cell? ⟨g, n * 8 + 3, none⟩ = some (.int .i64 c_) ∧ w'.cell? ⟨g, n * 8 + 4, none⟩ = some (.int .u64 b) ∧ w'.cell? ⟨g, n * 8 + 5, none⟩ = some (.int .i64 t) ∧ w'.cell? ⟨g, n * 8 + 6, none⟩ = some (.int .i64 x) ∧ w'.cell? ⟨g, n * 8 + 7, none⟩ = some (.int .i64 u))) (first | (with_reducible exact ⟨(world_cells HWz.out).1, (world_cells HWz.out).2.1, th_cell HWz.out HWHO.out⟩) | (with_reducible exact ⟨(world_cells (HWz.out.below (bal _ _))).1, (world_cells (HWz.out.below (bal _ _))).2.1, th_cell (HWz.out.below (bal _ _)) HWHO.out⟩) | (simp only [cell_set8 hneB, cell_set8 hneg1]; with_reducible exact ⟨(world_cells HWz.out).1, (world_cells HWz.out).2.1, th_cell HWz.out HWHO.out⟩) | go_keep) ((go_simp; go_at_call 23; (first | (with_reducible refine (run_c k p s c_ b t x u _ d.m _ HC.out HBG.out 6 M1 k1 p1 s1 q1 b1 t1 x1 u1 NN HRR.out 10 HML.out (by decide) 6 _ rfl rfl).mono ?_) | (with_reducible refine (run_c k p s c_ b t x u _ d.m _ HC2.out HBG.out 6 M1 k1 p1 s1 q1 b1 t1 x1 u1 NN HRR.out 10 HML.out (by decide) 6 _ rfl rfl).mono ?_)); rintro e w6 ⟨A1, c1, rfl, ⟨hg1, hg2⟩, -, hb6⟩; (first | (have M1_ : Mb w6 wr.heap.size zM := (mb_at wr.drew zM rfl).below hb6; obtain ⟨z0, z1, z2, z3, z4, z5, z6, z7⟩ := M1_.cells; obtain ⟨f0, f1, f2, f3, f4, f5, f6, f7⟩ := M1_.unfs) | skip); have hB6 : Below w.heap.size w w6 := (by first | exact bcall hBd hb6 | exact bcall (bcall hBd (bal _ _)) hb6); replace HWz := hide (by first | exact HWz.out.below hb6 | exact (HWz.out.below (bal _ _)).below hb6); clear hb6; (try go_simp)))
      all_goals
        go_wp2
        go_ret
        refine ⟨rfl, ?_⟩
        have hz6 := hB6.size
        repeat (first | (with_reducible exact hB6) | (with_reducible refine bset ?_ _ _ (by omega) _) | (with_reducible refine Below.alloc ?_ (by omega) _) | (with_reducible refine Below.drew ?_))

set_option maxRecDepth 100000 in
theorem lifted (os : Os) (started : os.Started) (H : Type) (enc : TypeId × Value → H) :
    ReturnsInHanded {} Try.checked os 4 .any (Rows.chainStopsSpec.pre6 enc Try.prog Try.f4 Rows.chainStopsRow.domain false) (Rows.chainStopsSpec.post enc Try.prog Try.f4 false true false false) := by
  refine returnsInHanded_of_change_sized (C := Try.checked) ownL started (by kernel_rfl) Try.func4
    (ChangeSpec.witness6 (enc := enc) (C := Try.checked) false ⟨#[], #[.slice none 0 0, .int .u8 0], []⟩ 8 (by kernel_rfl) (by kernel_rfl) (by kernel_rfl) (by kernel_rfl)) ?_
  intro W base args ds gs before hval hW _ hsz0 _
  have hW' := hW
  obtain ⟨p, q, hA0, hV, rfl, hfz, hnd⟩ := hW
  have hA : DataW.TrodAll enc Try.prog W 0 (fun _ => true) true Try.f4.params.toList args.toList ds p := hA0
  rw [Try.params4] at hA hval
  obtain ⟨v0, vs0, d0, ds0, p0, q0, hargs, rfl, rfl, h0, r0⟩ := trodAll_cons hA
  obtain ⟨v1, vs1, d1, ds1, p1, q1, rfl, rfl, rfl, h1, r1⟩ := trodAll_cons r0
  obtain ⟨rfl, rfl, rfl⟩ := trodAll_nil r1
  obtain rfl : args = #[v0, v1] := by cases args; simp_all
  obtain ⟨rfl, rfl⟩ := trodVars_none hV
  obtain ⟨l0, hl0, hq0, hd0⟩ := open_bytes (hval 0 46 v0 rfl rfl) h0
  obtain ⟨a1, rfl, rfl, rfl, w1⟩ := open_int Try.underlying5 (hval 1 5 v1 rfl rfl) h1
  have hx1 : 0 ≤ a1 ∧ a1 ≤ 255 := by simpa [Lit.wf, IntKind.min, IntKind.max, IntKind.signed, IntKind.bits] using w1
  have hsz : (DataW.weightsEach Try.prog [46, 5] ([d0, .lit (.int .u8 a1)] : List (DataW H))).all (· ≤ reachBytes) = true := hsz0
  have e0 : l0.length * 1 ≤ 140737488351232 := slice_reach hsz 0 rfl rfl Try.underlying46 (by kernel_rfl) hd0
  refine (walk v0 l0 a1 W hl0 hq0 hx1).mono fun e W' ⟨he, hg⟩ => ?_
  subst he
  exact ⟨_, rfl, law_post laidOutL (by kernel_rfl) rfl Try.underlying4 rfl ⟨rfl, rfl, rfl⟩ hW' hg⟩

/-- THE STATEMENT -/
theorem proved : Rows.ChainStopsSaid :=
  OpenClaim.holds_of_wide 4 Try.f4 rfl rfl rfl rfl rfl rfl rfl ⟨rfl, rfl, rfl, rfl, rfl⟩ rfl rfl rfl rfl rfl (by kernel_rfl) Try.func4 (by kernel_rfl)
    (of_decide_eq_true (by kernel_rfl)) (by unfold Func.isWrapper; first | (rw [if_pos (by decide +kernel)]; kernel_rfl) | (rw [if_neg (by decide +kernel)]; exact ⟨rfl, rfl⟩))
    (fun os started H enc _ => lifted os started H enc)
end Go.Proofs.Ytpffknlbffnafaa.ch.lawChainStops
