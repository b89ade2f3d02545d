/- Layer chain: the chapter's examples hold. -/
import Derived.Test.YtpffknlbffnafaaChainEx0
import Derived.Test.YtpffknlbffnafaaChainTwo
import Derived.Deep.Cut
import Derived.Deep.RegionLaw
import Derived.Deep.RegionHeldLaw
namespace Go.Proofs.Ytpffknlbffnafaa.ch
open Go.RowKit

theorem Mb.drew {w : World} {B : Nat} {d : Cm} (h : Mb w B d) : Mb w.drew B d := ⟨h.blk⟩
theorem mb_at (w : World) (d : Cm) {B : Nat} (h : w.heap.size = B) : Mb (w.alloc (.cells (mcs d) 26)) B d := by subst h; exact mb_new w d
theorem zc_at (w : World) (n : Nat) (hn : n ≤ 1000) {B : Nat} (h : w.heap.size = B) : Cells (w.alloc (zc n)) (.slice (some ⟨B, 0, none⟩) n n) (List.replicate n 0) := by subst h; exact zc_cells w n hn
theorem cells_first {w : World} {gb ob n c : Nat} {x : Int} {l : List Int} (h : Cells w (.slice (some ⟨gb, ob, none⟩) n c) (x :: l)) : w.cell? ⟨gb, ob, none⟩ = some (.int .u64 x) := by
  obtain ⟨b0, off0, e, -, h0⟩ := cells_at h (k := 0) (by simp)
  injection e with e; injection e with e1 e2; subst e1 e2
  exact h0
theorem lit_at (w : World) (l : List Int) (n : Nat) (hn : l.length = n) (hl : n ≤ maxLen) : Ints (w.alloc (.cells (l.flatMap ic).toArray 3)) (.slice (some ⟨w.heap.size, 0, none⟩) n n) l := by
  obtain ⟨w1, e, -, h⟩ := lit_ints (w := w) l n hn hl
  rw [e]; exact h
theorem cells_low {w : World} {v : Value} {m : List Int} (h : Cells w v m) (h0 : 0 < m.length) (y : Nat) (hy : v.ownBlock = some y) : y < w.heap.size := by
  obtain ⟨A, c, rfl, -, -, h3⟩ := h
  obtain ⟨b0, off0, rfl, hlt, -⟩ := h3 h0
  simp only [Value.ownBlock, Option.some.injEq] at hy
  omega
abbrev zM : Cm := ⟨0, 0, 0, 0, 0, 0, 0, 0⟩
theorem fin_set {w wt : World} {B : Nat} {v : Value} {m : List Int} (hM : Mb wt B zM) (hG : Cells wt v m) (hne : ∀ y, v.ownBlock = some y → y ≠ B) (hB : Below w.heap.size w wt) (hle : w.heap.size ≤ B) :
    ∃ B', Value.pointer (some ⟨B, 0, none⟩) = .pointer (some ⟨B', 0, none⟩) ∧ Value.int .i64 1 = .int .i64 1 ∧ Hid (Mb ((((((((wt.setCell ⟨B, 0, none⟩ (.int .i64 2)).setCell ⟨B, 1, none⟩ (.int .i64 1)).setCell ⟨B, 2, none⟩ (.int .i64 0)).setCell ⟨B, 3, none⟩ (.int .i64 1)).setCell ⟨B, 4, none⟩ (.int .u64 0)).setCell ⟨B, 5, none⟩ (.int .i64 0)).setCell ⟨B, 6, none⟩ (.int .i64 0)).setCell ⟨B, 7, none⟩ (.int .i64 2)) B' ⟨2, 1, 0, 1, 0, 0, 0, 2⟩ ∧ Cells ((((((((wt.setCell ⟨B, 0, none⟩ (.int .i64 2)).setCell ⟨B, 1, none⟩ (.int .i64 1)).setCell ⟨B, 2, none⟩ (.int .i64 0)).setCell ⟨B, 3, none⟩ (.int .i64 1)).setCell ⟨B, 4, none⟩ (.int .u64 0)).setCell ⟨B, 5, none⟩ (.int .i64 0)).setCell ⟨B, 6, none⟩ (.int .i64 0)).setCell ⟨B, 7, none⟩ (.int .i64 2)) v m ∧ Below w.heap.size w ((((((((wt.setCell ⟨B, 0, none⟩ (.int .i64 2)).setCell ⟨B, 1, none⟩ (.int .i64 1)).setCell ⟨B, 2, none⟩ (.int .i64 0)).setCell ⟨B, 3, none⟩ (.int .i64 1)).setCell ⟨B, 4, none⟩ (.int .u64 0)).setCell ⟨B, 5, none⟩ (.int .i64 0)).setCell ⟨B, 6, none⟩ (.int .i64 0)).setCell ⟨B, 7, none⟩ (.int .i64 2))) :=
  ⟨B, rfl, rfl, show Hid (Mb (set8 wt B 2 1 0 1 0 0 0 2) B ⟨2, 1, 0, 1, 0, 0, 0, 2⟩ ∧ Cells (set8 wt B 2 1 0 1 0 0 0 2) v m ∧ Below w.heap.size w (set8 wt B 2 1 0 1 0 0 0 2)) from hide ⟨hM.set8, cells_set8 hG (fun _ y hy => hne y hy), set8_below hB hle⟩⟩
theorem fin_new {w wt : World} {v : Value} {m : List Int} (hG : Cells wt v m) (hB : Below w.heap.size w wt) :
    ∃ B', Value.pointer (some ⟨wt.heap.size, 0, none⟩) = .pointer (some ⟨B', 0, none⟩) ∧ Value.int .i64 1 = .int .i64 1 ∧ Hid (Mb (wt.alloc (.cells #[.int .i64 2, .int .i64 1, .int .i64 0, .int .i64 1, .int .u64 0, .int .i64 0, .int .i64 0, .int .i64 2] 26)) B' ⟨2, 1, 0, 1, 0, 0, 0, 2⟩ ∧ Cells (wt.alloc (.cells #[.int .i64 2, .int .i64 1, .int .i64 0, .int .i64 1, .int .u64 0, .int .i64 0, .int .i64 0, .int .i64 2] 26)) v m ∧ Below w.heap.size w (wt.alloc (.cells #[.int .i64 2, .int .i64 1, .int .i64 0, .int .i64 1, .int .u64 0, .int .i64 0, .int .i64 0, .int .i64 2] 26))) :=
  ⟨_, rfl, rfl, hide ⟨mb_new wt ⟨2, 1, 0, 1, 0, 0, 0, 2⟩, hG.below (bal _ _), bcall hB (bal _ _)⟩⟩
set_option maxRecDepth 100000 in
set_option maxHeartbeats 100000000 in
theorem examples_any (w : World) : Calls Try.prog 5 #[] w fun e w' => e = .returned (.bool true) ∧ Below w.heap.size w w' := by
  have hB : Below w.heap.size w w := Below.refl _ _
  have mk6 := run_zero 6 6 rfl (by decide)
  obtain ⟨w0_, e0_, hb0_, Z0, S0_⟩ : ∃ w1, w.alloc (zc 6) = w1 ∧ Below w.heap.size w w1 ∧ Cells w1 (.slice (some ⟨w.heap.size, 0, none⟩) 6 6) (List.replicate 6 0) ∧ w1.heap.size = w.heap.size + 1 := ⟨_, rfl, bal _ _, zc_cells _ _ (by decide), by simp⟩
  have E0_ := hide e0_
  have S0_ := hide S0_
  clear e0_
  replace Z0 := hide Z0
  replace hB := bcall hB hb0_
  obtain ⟨w1_, e1_, hb1_, I0⟩ : ∃ w1, w0_.alloc (.cells #[.int .i64 2, .int .i64 1] 3) = w1 ∧ Below w0_.heap.size w0_ w1 ∧ Ints w1 (.slice (some ⟨w0_.heap.size, 0, none⟩) 2 2) [2, 1] := lit_ints [2, 1] 2 rfl (by decide)
  rw [S0_.out] at I0
  have E1_ := hide e1_
  replace I0 := hide I0
  clear e1_
  replace Z0 := hide (Z0.out.below hb1_)
  replace hB := bcall hB hb1_
  go_enter Try.func5, Try.ntmps5
  go_wp2_with fail
  rw [E0_.out, E1_.out]
  (with_reducible refine (lay_any _ _ (List.replicate 6 0) [2, 1] 0 1 _ Z0.out I0.out (by decide) (by decide) [2, 0, 0, 1, 0, 0] (by kernel_rfl) 6 rfl).mono ?_)
  rintro e w2_ ⟨A2_, c2_, rfl, ⟨p2_, q2_⟩, G0, hb2_⟩
  have G0 := hide G0
  have hB := bcall hB hb2_
  clear Z0 I0 E0_ E1_
  go_upto_region 2 with (fail)
  go_cut [2, 3, 4] from 16 (fun _ v3 v4 wr => ∃ B : Nat, v3 = .pointer (some ⟨B, 0, none⟩) ∧ v4 = .int .i64 1 ∧ Hid (Mb wr B ⟨2, 1, 0, 1, 0, 0, 0, 2⟩ ∧ Cells wr (.slice A2_ 6 c2_) [2, 0, 0, 1, 0, 0] ∧ Below w.heap.size w wr))
  case first =>
    have hsz := hB.size
    have HA2 := hide (fun y (hy : (Value.slice A2_ 6 c2_).ownBlock = some y) => show y < w2_.heap.size by obtain ⟨b0, off0, e0, hlt, -⟩ := cells_at G0.out (k := 0) (by decide); subst e0; simp only [Value.ownBlock, Option.some.injEq] at hy; omega)
    have G0 := hide (cells_drew G0.out)
    have hB := hB.drew
    go_region_law (first
        | (go_simp; go_at_call 19; (with_reducible refine (Start_any 2 0 1 0 _).mono ?_); rintro e ws_ ⟨rfl, hb_⟩; (first | (have Z1 : Cells ws_ (.slice (some ⟨w2_.heap.size, 0, none⟩) 6 6) (List.replicate 6 0) := (by first | exact (zc_at w2_.drew 6 (by decide) rfl).below hb_ | exact ((zc_at w2_.drew 6 (by decide) rfl).below (bal _ _)).below hb_); have Z1 := hide Z1) | (have Z1 : Cells ws_ (.slice (some ⟨w2_.heap.size + 1, 0, none⟩) 6 6) (List.replicate 6 0) := (zc_at (World.alloc w2_.drew (.cells (mcs zM) 26)) 6 (by decide) (by simp)).below hb_; have Z1 := hide Z1) | skip); (first | (have M1 : Mb ws_ (w2_.heap.size) zM := (by first | exact (mb_at w2_.drew zM rfl).below hb_ | exact ((mb_at w2_.drew zM rfl).below (bal _ _)).below hb_); have M1 := hide M1) | (have M1 : Mb ws_ (w2_.heap.size + 1) zM := (mb_at (World.alloc w2_.drew (zc 6)) zM (by simp)).below hb_; have M1 := hide M1) | skip); have G0 := hide (by first | exact G0.out.below hb_ | exact (G0.out.below (bal _ _)).below hb_ | exact ((G0.out.below (bal _ _)).below (bal _ _)).below hb_); have hB := (by first | exact bcall hB hb_ | exact bcall (bcall hB (bal _ _)) hb_ | exact bcall (bcall (bcall hB (bal _ _)) (bal _ _)) hb_); have HS := hide (show w2_.heap.size ≤ ws_.heap.size by have hz_ := hb_.size; simp at hz_; omega); clear hb_)
        | (go_simp; go_at_call 23; (first | (with_reducible refine (run_c 2 0 0 1 0 0 0 0 _ (List.replicate 6 0) _ Z1.out (by decide) 9 [0, 0, 0, 0, 0, 0] 2 1 0 1 0 0 0 2 1 (by kernel_rfl) 6 rfl (by decide) 9 1 rfl rfl).mono ?_) | (with_reducible refine (run_c 2 0 0 1 0 0 0 0 _ (List.replicate 6 0) _ (Z1.out.below (bal _ _)) (by decide) 9 [0, 0, 0, 0, 0, 0] 2 1 0 1 0 0 0 2 1 (by kernel_rfl) 6 rfl (by decide) 9 1 rfl rfl).mono ?_) | (with_reducible refine (run_c 2 0 0 1 0 0 0 0 _ (List.replicate 6 0) _ (zc_at ws_ 6 (by decide) rfl) (by decide) 9 [0, 0, 0, 0, 0, 0] 2 1 0 1 0 0 0 2 1 (by kernel_rfl) 6 rfl (by decide) 9 1 rfl rfl).mono ?_) | (with_reducible refine (run_c 2 0 0 1 0 0 0 0 _ (List.replicate 6 0) _ ((zc_at ws_ 6 (by decide) rfl).below (bal _ _)) (by decide) 9 [0, 0, 0, 0, 0, 0] 2 1 0 1 0 0 0 2 1 (by kernel_rfl) 6 rfl (by decide) 9 1 rfl rfl).mono ?_) | (with_reducible refine (run_c 2 0 0 1 0 0 0 0 _ (List.replicate 6 0) _ (zc_at _ 6 (by decide) (B := ws_.heap.size + 1) (by simp)) (by decide) 9 [0, 0, 0, 0, 0, 0] 2 1 0 1 0 0 0 2 1 (by kernel_rfl) 6 rfl (by decide) 9 1 rfl rfl).mono ?_)); rintro e wt_ ⟨A3_, c3_, rfl, ⟨p3_, q3_⟩, -, hb_⟩; (first | (have M1 := hide (M1.out.below hb_)) | (have M1 := hide ((M1.out.below (bal _ _)).below hb_)) | (first | (have M1 : Mb wt_ (ws_.heap.size) zM := (by first | exact (mb_at ws_ zM rfl).below hb_ | exact ((mb_at ws_ zM rfl).below (bal _ _)).below hb_); have M1 := hide M1) | (have M1 : Mb wt_ (ws_.heap.size + 1) zM := (mb_at (World.alloc ws_ (zc 6)) zM (by simp)).below hb_; have M1 := hide M1) | skip)); have G0 := hide (by first | exact G0.out.below hb_ | exact (G0.out.below (bal _ _)).below hb_ | exact ((G0.out.below (bal _ _)).below (bal _ _)).below hb_); have hB := (by first | exact bcall hB hb_ | exact bcall (bcall hB (bal _ _)) hb_ | exact bcall (bcall (bcall hB (bal _ _)) (bal _ _)) hb_); (try (obtain ⟨z0, z1, z2, z3, z4, z5, z6, z7⟩ := M1.out.cells; obtain ⟨f0, f1, f2, f3, f4, f5, f6, f7⟩ := M1.out.unfs)); clear hb_))
    all_goals
      go_wp2_with fail
      go_meet
    all_goals
      first
        | (with_reducible refine fin_new G0.out hB)
        | (with_reducible refine fin_set M1.out G0.out ?_ hB ?_; (intro y hy; have h1_ := HA2.out y hy; have h2_ := HS.out; omega); (have h2_ := HS.out; omega))
  case rest =>
    obtain ⟨B3, rfl, rfl, HCT⟩ := hcut
    have Me := hide HCT.out.1
    replace G0 := hide HCT.out.2.1
    replace hB := HCT.out.2.2
    clear HCT
    go_wp2_with fail
    (with_reducible refine (Start_any 2 0 1 0 _).mono ?_)
    rintro e w10_ ⟨rfl, hb10_⟩
    replace Me := hide (Me.out.below hb10_)
    replace G0 := hide (G0.out.below hb10_)
    replace hB := bcall hB hb10_
    go_wp2_with fail
    (with_reducible refine (run_c 2 0 0 1 0 0 0 0 _ [2, 0, 0, 1, 0, 0] _ G0.out (by decide) 9 [4294967297, 0, 0, 1, 0, 0] 2 3 0 1 2 2 1 1 3 (by kernel_rfl) 6 rfl (by decide) 9 3 rfl rfl).mono ?_)
    rintro e w11_ ⟨A11_, c11_, rfl, ⟨p11_, q11_⟩, G1, hb11_⟩
    replace Me := hide (Me.out.below hb11_)
    replace G0 := hide (G0.out.below hb11_)
    replace hB := bcall hB hb11_
    replace G1 := hide G1
    obtain ⟨w12_, e12_, hb12_, Mp⟩ := box_res w11_ 2 3 0 1 2 2 1 1
    have E12_ := hide e12_
    replace Mp := hide Mp
    clear e12_
    replace Me := hide (Me.out.below hb12_)
    replace G0 := hide (G0.out.below hb12_)
    replace G1 := hide (G1.out.below hb12_)
    replace hB := bcall hB hb12_
    go_wp2_with fail
    rw [E12_.out]
    (with_reducible refine (Start_any 1 0 1 3 _).mono ?_)
    rintro e w13_ ⟨rfl, hb13_⟩
    replace Me := hide (Me.out.below hb13_)
    replace G0 := hide (G0.out.below hb13_)
    replace G1 := hide (G1.out.below hb13_)
    replace Mp := hide (Mp.out.below hb13_)
    replace hB := bcall hB hb13_
    go_wp2_with fail
    (with_reducible refine (run_c 1 0 0 1 0 3 0 0 _ [4294967297, 0, 0, 1, 0, 0] _ G1.out (by decide) 9 [8589934595, 0, 0, 1, 1, 0] 1 3 0 1 4294967297 3 0 1 3 (by kernel_rfl) 6 rfl (by decide) 9 3 rfl rfl).mono ?_)
    rintro e w14_ ⟨A14_, c14_, rfl, ⟨p14_, q14_⟩, G2, hb14_⟩
    replace Me := hide (Me.out.below hb14_)
    replace G0 := hide (G0.out.below hb14_)
    replace G1 := hide (G1.out.below hb14_)
    replace Mp := hide (Mp.out.below hb14_)
    replace hB := bcall hB hb14_
    replace G2 := hide G2
    obtain ⟨w15_, e15_, hb15_, Mq⟩ := box_res w14_ 1 3 0 1 4294967297 3 0 1
    have E15_ := hide e15_
    replace Mq := hide Mq
    clear e15_
    replace Me := hide (Me.out.below hb15_)
    replace G0 := hide (G0.out.below hb15_)
    replace G1 := hide (G1.out.below hb15_)
    replace Mp := hide (Mp.out.below hb15_)
    replace G2 := hide (G2.out.below hb15_)
    replace hB := bcall hB hb15_
    go_wp2_with fail
    rw [E15_.out]
    (with_reducible refine (Start_any 2 0 1 0 _).mono ?_)
    rintro e w16_ ⟨rfl, hb16_⟩
    replace Me := hide (Me.out.below hb16_)
    replace G0 := hide (G0.out.below hb16_)
    replace G1 := hide (G1.out.below hb16_)
    replace Mp := hide (Mp.out.below hb16_)
    replace G2 := hide (G2.out.below hb16_)
    replace Mq := hide (Mq.out.below hb16_)
    replace hB := bcall hB hb16_
    go_wp2_with fail
    (with_reducible refine (Step_c 2 0 0 1 0 0 0 0 _ [2, 0, 0, 1, 0, 0] _ G0.out (by decide) [2, 0, 0, 1, 0, 0] 2 1 0 1 2 0 0 0 (by kernel_rfl) 6 rfl).mono ?_)
    rintro e w17_ ⟨A17_, c17_, rfl, ⟨p17_, q17_⟩, G3, hb17_, -⟩
    replace Me := hide (Me.out.below hb17_)
    replace G0 := hide (G0.out.below hb17_)
    replace G1 := hide (G1.out.below hb17_)
    replace Mp := hide (Mp.out.below hb17_)
    replace G2 := hide (G2.out.below hb17_)
    replace Mq := hide (Mq.out.below hb17_)
    replace hB := bcall hB hb17_
    replace G3 := hide G3
    have LG0 := hide (fun y hy => cells_low G0.out (by decide) y hy)
    have LG1 := hide (fun y hy => cells_low G1.out (by decide) y hy)
    have LG2 := hide (fun y hy => cells_low G2.out (by decide) y hy)
    have LMe := hide Me.out.lt
    have LMp := hide Mp.out.lt
    have LMq := hide Mq.out.lt
    have hfl := hide hB.size
    obtain ⟨w18_, e18_, hb18_, Mc⟩ := box_res w17_ 2 1 0 1 2 0 0 0
    have E18_ := hide e18_
    replace Mc := hide Mc
    clear e18_
    replace Me := hide (Me.out.below hb18_)
    replace G0 := hide (G0.out.below hb18_)
    replace G1 := hide (G1.out.below hb18_)
    replace Mp := hide (Mp.out.below hb18_)
    replace G2 := hide (G2.out.below hb18_)
    replace Mq := hide (Mq.out.below hb18_)
    replace G3 := hide (G3.out.below hb18_)
    replace hB := bcall hB hb18_
    obtain ⟨y0, y1, y2, y3, y4, y5, y6, y7⟩ := Mc.out.cells
    go_wp2_with fail
    rw [E18_.out]
    (with_reducible refine (Step_c 2 1 0 1 2 0 0 0 _ [2, 0, 0, 1, 0, 0] _ G3.out (by decide) [2, 0, 0, 1, 0, 0] 2 2 0 1 2 0 1 0 (by kernel_rfl) 6 rfl).mono ?_)
    rintro e w19_ ⟨A19_, c19_, rfl, ⟨p19_, q19_⟩, G4, hb19_, -⟩
    replace Me := hide (Me.out.below hb19_)
    replace G0 := hide (G0.out.below hb19_)
    replace G1 := hide (G1.out.below hb19_)
    replace Mp := hide (Mp.out.below hb19_)
    replace G2 := hide (G2.out.below hb19_)
    replace Mq := hide (Mq.out.below hb19_)
    replace G3 := hide (G3.out.below hb19_)
    replace Mc := hide (Mc.out.below hb19_)
    replace hB := bcall hB hb19_
    replace G4 := hide G4
    clear G4
    clear G3 y0 y1 y2 y3 y4 y5 y6 y7
    obtain ⟨z0, z1, z2, z3, z4, z5, z6, z7⟩ := Mc.out.cells
    obtain ⟨f0, f1, f2, f3, f4, f5, f6, f7⟩ := Mc.out.unfs
    obtain ⟨w20_, e20_⟩ : ∃ w1, set8 w19_ w17_.heap.size 2 2 0 1 2 0 1 0 = w1 := ⟨_, rfl⟩
    replace G0 := hide (show Cells w20_ _ _ by rw [← e20_]; exact cells_set8 G0.out (fun _ y hy => by have h_ := LG0.out y hy; omega))
    replace G1 := hide (show Cells w20_ _ _ by rw [← e20_]; exact cells_set8 G1.out (fun _ y hy => by have h_ := LG1.out y hy; omega))
    replace G2 := hide (show Cells w20_ _ _ by rw [← e20_]; exact cells_set8 G2.out (fun _ y hy => by have h_ := LG2.out y hy; omega))
    replace Me := hide (show Mb w20_ _ _ by rw [← e20_]; exact Mb.far Me.out (by have h_ := LMe.out; omega))
    replace Mp := hide (show Mb w20_ _ _ by rw [← e20_]; exact Mb.far Mp.out (by have h_ := LMp.out; omega))
    replace Mq := hide (show Mb w20_ _ _ by rw [← e20_]; exact Mb.far Mq.out (by have h_ := LMq.out; omega))
    replace Mc := hide (show Mb w20_ w17_.heap.size ⟨2, 2, 0, 1, 2, 0, 1, 0⟩ by rw [← e20_]; exact Mb.set8 Mc.out)
    replace hB := (show Below w.heap.size w w20_ by rw [← e20_]; exact set8_below hB hfl.out)
    have E20_ := hide (show ((((((((w19_.setCell ⟨w17_.heap.size, 0, none⟩ (.int .i64 2)).setCell ⟨w17_.heap.size, 1, none⟩ (.int .i64 2)).setCell ⟨w17_.heap.size, 2, none⟩ (.int .i64 0)).setCell ⟨w17_.heap.size, 3, none⟩ (.int .i64 1)).setCell ⟨w17_.heap.size, 4, none⟩ (.int .u64 2)).setCell ⟨w17_.heap.size, 5, none⟩ (.int .i64 0)).setCell ⟨w17_.heap.size, 6, none⟩ (.int .i64 1)).setCell ⟨w17_.heap.size, 7, none⟩ (.int .i64 0)) = w20_ from e20_)
    clear e20_
    go_wp2_with fail
    rw [E20_.out]
    (with_reducible refine (Step_c 2 2 0 1 2 0 1 0 _ [8589934595, 0, 0, 1, 1, 0] _ G2.out (by decide) [8589934595, 0, 0, 1, 1, 0] 2 0 0 1 2 0 1 0 (by kernel_rfl) 6 rfl).mono ?_)
    rintro e w21_ ⟨A21_, c21_, rfl, ⟨p21_, q21_⟩, G5, hb21_, -⟩
    replace Me := hide (Me.out.below hb21_)
    replace G0 := hide (G0.out.below hb21_)
    replace G1 := hide (G1.out.below hb21_)
    replace Mp := hide (Mp.out.below hb21_)
    replace G2 := hide (G2.out.below hb21_)
    replace Mq := hide (Mq.out.below hb21_)
    replace Mc := hide (Mc.out.below hb21_)
    replace hB := bcall hB hb21_
    replace G5 := hide G5
    clear z0 z1 z2 z3 z4 z5 z6 z7 f0 f1 f2 f3 f4 f5 f6 f7
    clear G5
    obtain ⟨z0, z1, z2, z3, z4, z5, z6, z7⟩ := Mc.out.cells
    obtain ⟨f0, f1, f2, f3, f4, f5, f6, f7⟩ := Mc.out.unfs
    obtain ⟨w22_, e22_⟩ : ∃ w1, set8 w21_ w17_.heap.size 2 0 0 1 2 0 1 0 = w1 := ⟨_, rfl⟩
    replace G0 := hide (show Cells w22_ _ _ by rw [← e22_]; exact cells_set8 G0.out (fun _ y hy => by have h_ := LG0.out y hy; omega))
    replace G1 := hide (show Cells w22_ _ _ by rw [← e22_]; exact cells_set8 G1.out (fun _ y hy => by have h_ := LG1.out y hy; omega))
    replace G2 := hide (show Cells w22_ _ _ by rw [← e22_]; exact cells_set8 G2.out (fun _ y hy => by have h_ := LG2.out y hy; omega))
    replace Me := hide (show Mb w22_ _ _ by rw [← e22_]; exact Mb.far Me.out (by have h_ := LMe.out; omega))
    replace Mp := hide (show Mb w22_ _ _ by rw [← e22_]; exact Mb.far Mp.out (by have h_ := LMp.out; omega))
    replace Mq := hide (show Mb w22_ _ _ by rw [← e22_]; exact Mb.far Mq.out (by have h_ := LMq.out; omega))
    replace Mc := hide (show Mb w22_ w17_.heap.size ⟨2, 0, 0, 1, 2, 0, 1, 0⟩ by rw [← e22_]; exact Mb.set8 Mc.out)
    replace hB := (show Below w.heap.size w w22_ by rw [← e22_]; exact set8_below hB hfl.out)
    have E22_ := hide (show ((((((((w21_.setCell ⟨w17_.heap.size, 0, none⟩ (.int .i64 2)).setCell ⟨w17_.heap.size, 1, none⟩ (.int .i64 0)).setCell ⟨w17_.heap.size, 2, none⟩ (.int .i64 0)).setCell ⟨w17_.heap.size, 3, none⟩ (.int .i64 1)).setCell ⟨w17_.heap.size, 4, none⟩ (.int .u64 2)).setCell ⟨w17_.heap.size, 5, none⟩ (.int .i64 0)).setCell ⟨w17_.heap.size, 6, none⟩ (.int .i64 1)).setCell ⟨w17_.heap.size, 7, none⟩ (.int .i64 0)) = w22_ from e22_)
    clear e22_
    obtain ⟨gb, ob, rfl, -, x0_⟩ := cells_at G2.out (k := 0) (by decide)
    clear x0_
    go_upto_region 10 with (fail)
    rw [E22_.out]
    clear z0 z1 z2 z3 z4 z5 z6 z7 f0 f1 f2 f3 f4 f5 f6 f7
    have GD0 := hide (show Cells (World.drew (World.alloc w22_ (.cells #[.int .i64 2, .int .i64 1] 3))) _ [2, 0, 0, 1, 0, 0] from cells_drew (G0.out.below (bal _ _)))
    replace G0 := hide (cells_drew G0.out)
    replace G1 := hide (cells_drew G1.out)
    replace G2 := hide (cells_drew G2.out)
    replace Me := hide (Mb.drew Me.out)
    replace Mp := hide (Mb.drew Mp.out)
    replace Mq := hide (Mb.drew Mq.out)
    replace Mc := hide (Mb.drew Mc.out)
    replace hB := hB.drew
    clear LG0 LG1 LG2 LMe LMp LMq hfl
    simp only [List.append_eq, List.cons_append, List.nil_append]
    refine wp_region_held_drew (S := (fun w' => w'.cell? ⟨B3, 7, none⟩ = some (.int .i64 2) ∧ w'.cell? ⟨w11_.heap.size, 7, none⟩ = some (.int .i64 1) ∧ w'.cell? ⟨w11_.heap.size, 5, none⟩ = some (.int .i64 2) ∧ w'.cell? ⟨w14_.heap.size, 7, none⟩ = some (.int .i64 1) ∧ w'.cell? ⟨w17_.heap.size, 7, none⟩ = some (.int .i64 0) ∧ w'.cell? ⟨w17_.heap.size, 1, none⟩ = some (.int .i64 0) ∧ w'.cell? ⟨gb, ob, none⟩ = some (.int .u64 8589934595))) (by kernel_rfl) ?_ (fun hHeld => ?_)
    · exact ⟨(Me.out).cells.2.2.2.2.2.2.2, (Mp.out).cells.2.2.2.2.2.2.2, (Mp.out).cells.2.2.2.2.2.1, (Mq.out).cells.2.2.2.2.2.2.2, (Mc.out).cells.2.2.2.2.2.2.2, (Mc.out).cells.2.1, cells_first (G2.out)⟩
    -- 0
    refine wpAnyH_take (i := 0) (oi := { dst := some 63, op := Op.fieldAddr 26 (Operand.tmp 3) 7, type := 0, pos := "law.go:51", after := #[], guard := none }) (v := ?_) rfl (by kernel_rfl) (by kernel_rfl) (by kernel_rfl) (fun _ _ _ h => h) (Or.inl ⟨by rfl, ?_⟩) (by assumption) ?_
    rotate_left
    · intro w_ hSw; (try dsimp only at hSw); go_simp; (try with_reducible rfl)
    (try simp only [Act.put, List.setIfInBounds_toArray, List.set_cons_zero, List.set_cons_succ])
    -- 1
    refine wpAnyH_take (i := 1) (oi := { dst := some 64, op := Op.load 3 (Operand.tmp 63), type := 3, pos := "law.go:51", after := #[{ on := 0, ground := Ground.data }], guard := none }) (v := ?_) rfl (by kernel_rfl) (by kernel_rfl) (by kernel_rfl) (fun _ _ _ h => h) (Or.inl ⟨by rfl, ?_⟩) (by assumption) ?_
    rotate_left
    · intro w_ hSw; (try dsimp only at hSw); go_simp; (try with_reducible rfl)
    (try simp only [Act.put, List.setIfInBounds_toArray, List.set_cons_zero, List.set_cons_succ])
    -- 2
    refine wpAnyH_take (i := 2) (oi := { dst := some 65, op := Op.binOp BinOp.eql 3 (Operand.tmp 64) (Operand.const (Value.int IntKind.i64 2)) 3, type := 4, pos := "law.go:51", after := #[{ on := 1, ground := Ground.data }], guard := none }) (v := ?_) rfl (by kernel_rfl) (by kernel_rfl) (by kernel_rfl) (fun _ _ _ h => h) (Or.inl ⟨by rfl, ?_⟩) (by assumption) ?_
    rotate_left
    · intro w_ hSw; (try dsimp only at hSw); go_simp; (try with_reducible rfl)
    (try simp only [Act.put, List.setIfInBounds_toArray, List.set_cons_zero, List.set_cons_succ])
    -- 3
    refine wpAnyH_take (i := 3) (oi := { dst := some 66, op := Op.move (Operand.tmp 65), type := 4, pos := "law.go:51", after := #[{ on := 2, ground := Ground.data }], guard := none }) (v := ?_) rfl (by kernel_rfl) (by kernel_rfl) (by kernel_rfl) (fun _ _ _ h => h) (Or.inl ⟨by rfl, ?_⟩) (by assumption) ?_
    rotate_left
    · intro w_ hSw; (try dsimp only at hSw); go_simp; (try with_reducible rfl)
    (try simp only [Act.put, List.setIfInBounds_toArray, List.set_cons_zero, List.set_cons_succ])
    -- 4
    refine wpAnyH_take (i := 4) (oi := { dst := some 67, op := Op.move (Operand.tmp 4), type := 3, pos := "law.go:51", after := #[{ on := 3, ground := Ground.guard }], guard := some (3, true) }) (v := ?_) rfl (by kernel_rfl) (by kernel_rfl) (by kernel_rfl) (fun _ _ _ h => h) (Or.inl ⟨by rfl, ?_⟩) (by assumption) ?_
    rotate_left
    · intro w_ hSw; (try dsimp only at hSw); go_simp; (try with_reducible rfl)
    (try simp only [Act.put, List.setIfInBounds_toArray, List.set_cons_zero, List.set_cons_succ])
    -- 5
    refine wpAnyH_take (i := 5) (oi := { dst := some 68, op := Op.binOp BinOp.eql 3 (Operand.tmp 67) (Operand.const (Value.int IntKind.i64 1)) 3, type := 4, pos := "law.go:51", after := #[{ on := 4, ground := Ground.data }, { on := 3, ground := Ground.guard }], guard := some (3, true) }) (v := ?_) rfl (by kernel_rfl) (by kernel_rfl) (by kernel_rfl) (fun _ _ _ h => h) (Or.inl ⟨by rfl, ?_⟩) (by assumption) ?_
    rotate_left
    · intro w_ hSw; (try dsimp only at hSw); go_simp; (try with_reducible rfl)
    (try simp only [Act.put, List.setIfInBounds_toArray, List.set_cons_zero, List.set_cons_succ])
    -- 6
    refine wpAnyH_take (i := 6) (oi := { dst := some 69, op := Op.pick (Operand.tmp 66) (Operand.tmp 68) (Operand.const (Value.bool false)), type := 4, pos := "law.go:51", after := #[{ on := 3, ground := Ground.data }, { on := 5, ground := Ground.data }], guard := none }) (v := ?_) rfl (by kernel_rfl) (by kernel_rfl) (by kernel_rfl) (fun _ _ _ h => h) (Or.inl ⟨by rfl, ?_⟩) (by assumption) ?_
    rotate_left
    · intro w_ hSw; (try dsimp only at hSw); go_simp; (try with_reducible rfl)
    (try simp only [Act.put, List.setIfInBounds_toArray, List.set_cons_zero, List.set_cons_succ])
    -- 7
    refine wpAnyH_take (i := 7) (oi := { dst := some 70, op := Op.move (Operand.tmp 69), type := 4, pos := "law.go:51", after := #[{ on := 6, ground := Ground.data }, { on := 3, ground := Ground.chain }], guard := none }) (v := ?_) rfl (by kernel_rfl) (by kernel_rfl) (by kernel_rfl) (fun _ _ _ h => h) (Or.inl ⟨by rfl, ?_⟩) (by assumption) ?_
    rotate_left
    · intro w_ hSw; (try dsimp only at hSw); go_simp; (try with_reducible rfl)
    (try simp only [Act.put, List.setIfInBounds_toArray, List.set_cons_zero, List.set_cons_succ])
    -- 8
    refine wpAnyH_take (i := 8) (oi := { dst := some 71, op := Op.move (Operand.tmp 1), type := 23, pos := "law.go:51", after := #[{ on := 7, ground := Ground.guard }], guard := some (7, true) }) (v := ?_) rfl (by kernel_rfl) (by kernel_rfl) (by kernel_rfl) (fun _ _ _ h => h) (Or.inl ⟨by rfl, ?_⟩) (by assumption) ?_
    rotate_left
    · intro w_ hSw; (try dsimp only at hSw); go_simp; (try with_reducible rfl)
    (try simp only [Act.put, List.setIfInBounds_toArray, List.set_cons_zero, List.set_cons_succ])

    -- 9, 10
    refine wpAnyH_two (i := 9) (j := 10) (oi := { dst := some 72, op := Op.call { callee := Callee.value (Operand.func 13), args := #[Operand.tmp 71, Operand.const (Value.int IntKind.i64 0), Operand.const (Value.int IntKind.i64 1), Operand.const (Value.int IntKind.i64 9)], argTypes := #[23, 3, 3, 3] }, type := 27, pos := "law.go:51", after := #[{ on := 8, ground := Ground.data }, { on := 7, ground := Ground.chain }, { on := 7, ground := Ground.guard }], guard := some (7, true) }) (oj := { dst := some 73, op := Op.buildSlice 27 2 #[(0, Operand.const (Value.int IntKind.i64 2)), (1, Operand.const (Value.int IntKind.i64 1))], type := 27, pos := "law.go:51", after := #[{ on := 7, ground := Ground.guard }], guard := some (7, true) }) (fun u v w1 => ∃ A c A1 c1, u = .slice A 2 c ∧ v = .slice A1 2 c1 ∧ Hid (Ints w1 (.slice A 2 c) [2, 1]) ∧ Hid (Ints w1 (.slice A1 2 c1) [2, 1]) ∧ Hid (Cells w1 (.slice A2_ 6 c2_) [2, 0, 0, 1, 0, 0]) ∧ Hid (Cells w1 (.slice A11_ 6 c11_) [4294967297, 0, 0, 1, 0, 0]) ∧ Hid (Cells w1 (.slice (some ⟨gb, ob, none⟩) 6 c14_) [8589934595, 0, 0, 1, 1, 0]) ∧ Hid (Mb w1 B3 ⟨2, 1, 0, 1, 0, 0, 0, 2⟩) ∧ Hid (Mb w1 w11_.heap.size ⟨2, 3, 0, 1, 2, 2, 1, 1⟩) ∧ Hid (Mb w1 w14_.heap.size ⟨1, 3, 0, 1, 4294967297, 3, 0, 1⟩) ∧ Hid (Mb w1 w17_.heap.size ⟨2, 0, 0, 1, 2, 0, 1, 0⟩) ∧ Below w.heap.size w w1) (by kernel_rfl) (by kernel_rfl) (by kernel_rfl) rfl rfl (by kernel_rfl) (fun u v => put_comm (by decide) _ u v) ?_ ?_ ?_
    · intro K hK
      rw [if_pos (by kernel_rfl)]
      go_simp
      go_at_call 13
      (with_reducible refine (list_any _ [2, 0, 0, 1, 0, 0] 0 1 9 _ G0.out [2, 1] (by kernel_rfl) 2 rfl).mono ?_)
      rintro e wl_ ⟨Al_, cl_, rfl, ⟨pl_, ql_⟩, II, hb_⟩
      replace G0 := hide (G0.out.below hb_); replace G1 := hide (G1.out.below hb_); replace G2 := hide (G2.out.below hb_); replace Me := hide (Me.out.below hb_); replace Mp := hide (Mp.out.below hb_); replace Mq := hide (Mq.out.below hb_); replace Mc := hide (Mc.out.below hb_); replace hB := bcall hB hb_; clear hb_
      (try go_simp)
      refine hK _ _ ⟨(Me.out).cells.2.2.2.2.2.2.2, (Mp.out).cells.2.2.2.2.2.2.2, (Mp.out).cells.2.2.2.2.2.1, (Mq.out).cells.2.2.2.2.2.2.2, (Mc.out).cells.2.2.2.2.2.2.2, (Mc.out).cells.2.1, cells_first (G2.out)⟩ (fun K' hK' => ?_)
      rw [if_pos (by kernel_rfl)]
      go_simp
      have JJ := hide (show Ints (World.alloc wl_ (.cells #[.int .i64 2, .int .i64 1] 3)) (.slice (some ⟨wl_.heap.size, 0, none⟩) 2 2) [2, 1] from (lit_at wl_ [2, 1] 2 rfl (by decide)))
      replace G0 := hide (G0.out.below (bal wl_ (.cells #[.int .i64 2, .int .i64 1] 3))); replace G1 := hide (G1.out.below (bal wl_ (.cells #[.int .i64 2, .int .i64 1] 3))); replace G2 := hide (G2.out.below (bal wl_ (.cells #[.int .i64 2, .int .i64 1] 3))); replace Me := hide (Me.out.below (bal wl_ (.cells #[.int .i64 2, .int .i64 1] 3))); replace Mp := hide (Mp.out.below (bal wl_ (.cells #[.int .i64 2, .int .i64 1] 3))); replace Mq := hide (Mq.out.below (bal wl_ (.cells #[.int .i64 2, .int .i64 1] 3))); replace Mc := hide (Mc.out.below (bal wl_ (.cells #[.int .i64 2, .int .i64 1] 3))); replace hB := bcall hB (bal wl_ (.cells #[.int .i64 2, .int .i64 1] 3))
      exact hK' _ _ ⟨(Me.out).cells.2.2.2.2.2.2.2, (Mp.out).cells.2.2.2.2.2.2.2, (Mp.out).cells.2.2.2.2.2.1, (Mq.out).cells.2.2.2.2.2.2.2, (Mc.out).cells.2.2.2.2.2.2.2, (Mc.out).cells.2.1, cells_first (G2.out)⟩ ⟨_, _, _, _, rfl, rfl, hide (II.below (bal wl_ (.cells #[.int .i64 2, .int .i64 1] 3))), JJ, G0, G1, G2, Me, Mp, Mq, Mc, hB⟩
    · intro K hK
      rw [if_pos (by kernel_rfl)]
      go_simp
      have JJ := hide (show Ints (World.alloc w22_.drew (.cells #[.int .i64 2, .int .i64 1] 3)) (.slice (some ⟨w22_.heap.size, 0, none⟩) 2 2) [2, 1] from (lit_at w22_.drew [2, 1] 2 rfl (by decide)))
      replace G0 := GD0
      replace G1 := hide (G1.out.below (bal w22_.drew (.cells #[.int .i64 2, .int .i64 1] 3))); replace G2 := hide (G2.out.below (bal w22_.drew (.cells #[.int .i64 2, .int .i64 1] 3))); replace Me := hide (Me.out.below (bal w22_.drew (.cells #[.int .i64 2, .int .i64 1] 3))); replace Mp := hide (Mp.out.below (bal w22_.drew (.cells #[.int .i64 2, .int .i64 1] 3))); replace Mq := hide (Mq.out.below (bal w22_.drew (.cells #[.int .i64 2, .int .i64 1] 3))); replace Mc := hide (Mc.out.below (bal w22_.drew (.cells #[.int .i64 2, .int .i64 1] 3))); replace hB := bcall hB (bal w22_.drew (.cells #[.int .i64 2, .int .i64 1] 3))
      refine hK _ _ ⟨(Me.out).cells.2.2.2.2.2.2.2, (Mp.out).cells.2.2.2.2.2.2.2, (Mp.out).cells.2.2.2.2.2.1, (Mq.out).cells.2.2.2.2.2.2.2, (Mc.out).cells.2.2.2.2.2.2.2, (Mc.out).cells.2.1, cells_first (G2.out)⟩ (fun K' hK' => ?_)
      rw [if_pos (by kernel_rfl)]
      go_simp
      go_at_call 13
      (with_reducible refine (list_any _ [2, 0, 0, 1, 0, 0] 0 1 9 _ G0.out [2, 1] (by kernel_rfl) 2 rfl).mono ?_)
      rintro e wl_ ⟨Al_, cl_, rfl, ⟨pl_, ql_⟩, II, hb_⟩
      replace G0 := hide (G0.out.below hb_); replace G1 := hide (G1.out.below hb_); replace G2 := hide (G2.out.below hb_); replace Me := hide (Me.out.below hb_); replace Mp := hide (Mp.out.below hb_); replace Mq := hide (Mq.out.below hb_); replace Mc := hide (Mc.out.below hb_); replace hB := bcall hB hb_
      replace JJ := hide (JJ.out.below hb_); clear hb_
      (try go_simp)
      exact hK' _ _ ⟨(Me.out).cells.2.2.2.2.2.2.2, (Mp.out).cells.2.2.2.2.2.2.2, (Mp.out).cells.2.2.2.2.2.1, (Mq.out).cells.2.2.2.2.2.2.2, (Mc.out).cells.2.2.2.2.2.2.2, (Mc.out).cells.2.1, cells_first (G2.out)⟩ ⟨_, _, _, _, rfl, rfl, hide II, JJ, G0, G1, G2, Me, Mp, Mq, Mc, hB⟩
    clear G0 G1 G2 Me Mp Mq Mc GD0 hHeld hB
    intro u v wm0_ hHeld hR; obtain ⟨Au0_, cu0_, Av0_, cv0_, rfl, rfl, II, JJ, G0, G1, G2, Me, Mp, Mq, Mc, hB⟩ := hR
    (try simp only [Act.put, List.setIfInBounds_toArray, List.set_cons_zero, List.set_cons_succ])
    -- 11
    refine wpAnyH_ready (rs := [11]) (by kernel_rfl) (by simp) ?_
    refine AllReadyH.cons rfl (fun K hK => ?_) AllReadyH.nil
    go_simp
    go_at_call 12
    (with_reducible refine (ints_yes _ _ [2, 1] [2, 1] rfl _ II.out JJ.out).mono ?_)
    rintro e wi0_ ⟨rfl, hb_⟩
    replace G0 := hide (G0.out.below hb_); replace G1 := hide (G1.out.below hb_); replace G2 := hide (G2.out.below hb_); replace Me := hide (Me.out.below hb_); replace Mp := hide (Mp.out.below hb_); replace Mq := hide (Mq.out.below hb_); replace Mc := hide (Mc.out.below hb_); replace hB := bcall hB hb_; clear hb_ II JJ
    (try go_simp)
    refine hK.out _ _ ⟨(Me.out).cells.2.2.2.2.2.2.2, (Mp.out).cells.2.2.2.2.2.2.2, (Mp.out).cells.2.2.2.2.2.1, (Mq.out).cells.2.2.2.2.2.2.2, (Mc.out).cells.2.2.2.2.2.2.2, (Mc.out).cells.2.1, cells_first (G2.out)⟩ (fun hHeld => ?_)
    (try simp only [Act.put, List.setIfInBounds_toArray, List.set_cons_zero, List.set_cons_succ])
    -- 12
    refine wpAnyH_take (i := 12) (oi := { dst := some 75, op := Op.pick (Operand.tmp 70) (Operand.tmp 74) (Operand.const (Value.bool false)), type := 4, pos := "law.go:51", after := #[{ on := 7, ground := Ground.data }, { on := 11, ground := Ground.data }], guard := none }) (v := ?_) rfl (by kernel_rfl) (by kernel_rfl) (by kernel_rfl) (fun _ _ _ h => h) (Or.inl ⟨by rfl, ?_⟩) (by assumption) ?_
    rotate_left
    · intro w_ hSw; (try dsimp only at hSw); go_simp; (try with_reducible rfl)
    (try simp only [Act.put, List.setIfInBounds_toArray, List.set_cons_zero, List.set_cons_succ])
    -- 13
    refine wpAnyH_take (i := 13) (oi := { dst := some 76, op := Op.move (Operand.tmp 75), type := 4, pos := "law.go:51", after := #[{ on := 12, ground := Ground.data }, { on := 11, ground := Ground.chain }], guard := none }) (v := ?_) rfl (by kernel_rfl) (by kernel_rfl) (by kernel_rfl) (fun _ _ _ h => h) (Or.inl ⟨by rfl, ?_⟩) (by assumption) ?_
    rotate_left
    · intro w_ hSw; (try dsimp only at hSw); go_simp; (try with_reducible rfl)
    (try simp only [Act.put, List.setIfInBounds_toArray, List.set_cons_zero, List.set_cons_succ])
    -- 14
    refine wpAnyH_take (i := 14) (oi := { dst := some 77, op := Op.fieldAddr 26 (Operand.tmp 6) 7, type := 0, pos := "law.go:51", after := #[{ on := 13, ground := Ground.guard }], guard := some (13, true) }) (v := ?_) rfl (by kernel_rfl) (by kernel_rfl) (by kernel_rfl) (fun _ _ _ h => h) (Or.inl ⟨by rfl, ?_⟩) (by assumption) ?_
    rotate_left
    · intro w_ hSw; (try dsimp only at hSw); go_simp; (try with_reducible rfl)
    (try simp only [Act.put, List.setIfInBounds_toArray, List.set_cons_zero, List.set_cons_succ])
    -- 15
    refine wpAnyH_take (i := 15) (oi := { dst := some 78, op := Op.load 3 (Operand.tmp 77), type := 3, pos := "law.go:51", after := #[{ on := 14, ground := Ground.data }, { on := 13, ground := Ground.guard }], guard := some (13, true) }) (v := ?_) rfl (by kernel_rfl) (by kernel_rfl) (by kernel_rfl) (fun _ _ _ h => h) (Or.inl ⟨by rfl, ?_⟩) (by assumption) ?_
    rotate_left
    · intro w_ hSw; (try dsimp only at hSw); go_simp; (try with_reducible rfl)
    (try simp only [Act.put, List.setIfInBounds_toArray, List.set_cons_zero, List.set_cons_succ])
    -- 16
    refine wpAnyH_take (i := 16) (oi := { dst := some 79, op := Op.binOp BinOp.eql 3 (Operand.tmp 78) (Operand.const (Value.int IntKind.i64 1)) 3, type := 4, pos := "law.go:51", after := #[{ on := 15, ground := Ground.data }, { on := 13, ground := Ground.guard }], guard := some (13, true) }) (v := ?_) rfl (by kernel_rfl) (by kernel_rfl) (by kernel_rfl) (fun _ _ _ h => h) (Or.inl ⟨by rfl, ?_⟩) (by assumption) ?_
    rotate_left
    · intro w_ hSw; (try dsimp only at hSw); go_simp; (try with_reducible rfl)
    (try simp only [Act.put, List.setIfInBounds_toArray, List.set_cons_zero, List.set_cons_succ])
    -- 17
    refine wpAnyH_take (i := 17) (oi := { dst := some 80, op := Op.pick (Operand.tmp 76) (Operand.tmp 79) (Operand.const (Value.bool false)), type := 4, pos := "law.go:51", after := #[{ on := 13, ground := Ground.data }, { on := 16, ground := Ground.data }], guard := none }) (v := ?_) rfl (by kernel_rfl) (by kernel_rfl) (by kernel_rfl) (fun _ _ _ h => h) (Or.inl ⟨by rfl, ?_⟩) (by assumption) ?_
    rotate_left
    · intro w_ hSw; (try dsimp only at hSw); go_simp; (try with_reducible rfl)
    (try simp only [Act.put, List.setIfInBounds_toArray, List.set_cons_zero, List.set_cons_succ])
    -- 18
    refine wpAnyH_take (i := 18) (oi := { dst := some 81, op := Op.move (Operand.tmp 80), type := 4, pos := "law.go:51", after := #[{ on := 17, ground := Ground.data }, { on := 13, ground := Ground.chain }], guard := none }) (v := ?_) rfl (by kernel_rfl) (by kernel_rfl) (by kernel_rfl) (fun _ _ _ h => h) (Or.inl ⟨by rfl, ?_⟩) (by assumption) ?_
    rotate_left
    · intro w_ hSw; (try dsimp only at hSw); go_simp; (try with_reducible rfl)
    (try simp only [Act.put, List.setIfInBounds_toArray, List.set_cons_zero, List.set_cons_succ])
    -- 19
    refine wpAnyH_take (i := 19) (oi := { dst := some 82, op := Op.fieldAddr 26 (Operand.tmp 6) 5, type := 0, pos := "law.go:51", after := #[{ on := 18, ground := Ground.guard }], guard := some (18, true) }) (v := ?_) rfl (by kernel_rfl) (by kernel_rfl) (by kernel_rfl) (fun _ _ _ h => h) (Or.inl ⟨by rfl, ?_⟩) (by assumption) ?_
    rotate_left
    · intro w_ hSw; (try dsimp only at hSw); go_simp; (try with_reducible rfl)
    (try simp only [Act.put, List.setIfInBounds_toArray, List.set_cons_zero, List.set_cons_succ])
    -- 20
    refine wpAnyH_take (i := 20) (oi := { dst := some 83, op := Op.load 3 (Operand.tmp 82), type := 3, pos := "law.go:51", after := #[{ on := 19, ground := Ground.data }, { on := 18, ground := Ground.guard }], guard := some (18, true) }) (v := ?_) rfl (by kernel_rfl) (by kernel_rfl) (by kernel_rfl) (fun _ _ _ h => h) (Or.inl ⟨by rfl, ?_⟩) (by assumption) ?_
    rotate_left
    · intro w_ hSw; (try dsimp only at hSw); go_simp; (try with_reducible rfl)
    (try simp only [Act.put, List.setIfInBounds_toArray, List.set_cons_zero, List.set_cons_succ])
    -- 21
    refine wpAnyH_take (i := 21) (oi := { dst := some 84, op := Op.binOp BinOp.eql 3 (Operand.tmp 83) (Operand.const (Value.int IntKind.i64 2)) 3, type := 4, pos := "law.go:51", after := #[{ on := 20, ground := Ground.data }, { on := 18, ground := Ground.guard }], guard := some (18, true) }) (v := ?_) rfl (by kernel_rfl) (by kernel_rfl) (by kernel_rfl) (fun _ _ _ h => h) (Or.inl ⟨by rfl, ?_⟩) (by assumption) ?_
    rotate_left
    · intro w_ hSw; (try dsimp only at hSw); go_simp; (try with_reducible rfl)
    (try simp only [Act.put, List.setIfInBounds_toArray, List.set_cons_zero, List.set_cons_succ])
    -- 22
    refine wpAnyH_take (i := 22) (oi := { dst := some 85, op := Op.pick (Operand.tmp 81) (Operand.tmp 84) (Operand.const (Value.bool false)), type := 4, pos := "law.go:51", after := #[{ on := 18, ground := Ground.data }, { on := 21, ground := Ground.data }], guard := none }) (v := ?_) rfl (by kernel_rfl) (by kernel_rfl) (by kernel_rfl) (fun _ _ _ h => h) (Or.inl ⟨by rfl, ?_⟩) (by assumption) ?_
    rotate_left
    · intro w_ hSw; (try dsimp only at hSw); go_simp; (try with_reducible rfl)
    (try simp only [Act.put, List.setIfInBounds_toArray, List.set_cons_zero, List.set_cons_succ])
    -- 23
    refine wpAnyH_take (i := 23) (oi := { dst := some 86, op := Op.move (Operand.tmp 85), type := 4, pos := "law.go:51", after := #[{ on := 22, ground := Ground.data }, { on := 18, ground := Ground.chain }], guard := none }) (v := ?_) rfl (by kernel_rfl) (by kernel_rfl) (by kernel_rfl) (fun _ _ _ h => h) (Or.inl ⟨by rfl, ?_⟩) (by assumption) ?_
    rotate_left
    · intro w_ hSw; (try dsimp only at hSw); go_simp; (try with_reducible rfl)
    (try simp only [Act.put, List.setIfInBounds_toArray, List.set_cons_zero, List.set_cons_succ])
    -- 24
    refine wpAnyH_take (i := 24) (oi := { dst := some 87, op := Op.move (Operand.tmp 5), type := 23, pos := "law.go:51", after := #[{ on := 23, ground := Ground.guard }], guard := some (23, true) }) (v := ?_) rfl (by kernel_rfl) (by kernel_rfl) (by kernel_rfl) (fun _ _ _ h => h) (Or.inl ⟨by rfl, ?_⟩) (by assumption) ?_
    rotate_left
    · intro w_ hSw; (try dsimp only at hSw); go_simp; (try with_reducible rfl)
    (try simp only [Act.put, List.setIfInBounds_toArray, List.set_cons_zero, List.set_cons_succ])

    -- 25, 26
    refine wpAnyH_two (i := 25) (j := 26) (oi := { dst := some 88, op := Op.call { callee := Callee.value (Operand.func 13), args := #[Operand.tmp 87, Operand.const (Value.int IntKind.i64 0), Operand.const (Value.int IntKind.i64 1), Operand.const (Value.int IntKind.i64 9)], argTypes := #[23, 3, 3, 3] }, type := 27, pos := "law.go:51", after := #[{ on := 24, ground := Ground.data }, { on := 23, ground := Ground.chain }, { on := 23, ground := Ground.guard }], guard := some (23, true) }) (oj := { dst := some 89, op := Op.buildSlice 27 1 #[(0, Operand.const (Value.int IntKind.i64 1))], type := 27, pos := "law.go:51", after := #[{ on := 23, ground := Ground.guard }], guard := some (23, true) }) (fun u v w1 => ∃ A c A1 c1, u = .slice A 1 c ∧ v = .slice A1 1 c1 ∧ Hid (Ints w1 (.slice A 1 c) [1]) ∧ Hid (Ints w1 (.slice A1 1 c1) [1]) ∧ Hid (Cells w1 (.slice A2_ 6 c2_) [2, 0, 0, 1, 0, 0]) ∧ Hid (Cells w1 (.slice A11_ 6 c11_) [4294967297, 0, 0, 1, 0, 0]) ∧ Hid (Cells w1 (.slice (some ⟨gb, ob, none⟩) 6 c14_) [8589934595, 0, 0, 1, 1, 0]) ∧ Hid (Mb w1 B3 ⟨2, 1, 0, 1, 0, 0, 0, 2⟩) ∧ Hid (Mb w1 w11_.heap.size ⟨2, 3, 0, 1, 2, 2, 1, 1⟩) ∧ Hid (Mb w1 w14_.heap.size ⟨1, 3, 0, 1, 4294967297, 3, 0, 1⟩) ∧ Hid (Mb w1 w17_.heap.size ⟨2, 0, 0, 1, 2, 0, 1, 0⟩) ∧ Below w.heap.size w w1) (by kernel_rfl) (by kernel_rfl) (by kernel_rfl) rfl rfl (by kernel_rfl) (fun u v => put_comm (by decide) _ u v) ?_ ?_ ?_
    · intro K hK
      rw [if_pos (by kernel_rfl)]
      go_simp
      go_at_call 13
      (with_reducible refine (list_any _ [4294967297, 0, 0, 1, 0, 0] 0 1 9 _ G1.out [1] (by kernel_rfl) 1 rfl).mono ?_)
      rintro e wl_ ⟨Al_, cl_, rfl, ⟨pl_, ql_⟩, II, hb_⟩
      replace G0 := hide (G0.out.below hb_); replace G1 := hide (G1.out.below hb_); replace G2 := hide (G2.out.below hb_); replace Me := hide (Me.out.below hb_); replace Mp := hide (Mp.out.below hb_); replace Mq := hide (Mq.out.below hb_); replace Mc := hide (Mc.out.below hb_); replace hB := bcall hB hb_; clear hb_
      (try go_simp)
      refine hK _ _ ⟨(Me.out).cells.2.2.2.2.2.2.2, (Mp.out).cells.2.2.2.2.2.2.2, (Mp.out).cells.2.2.2.2.2.1, (Mq.out).cells.2.2.2.2.2.2.2, (Mc.out).cells.2.2.2.2.2.2.2, (Mc.out).cells.2.1, cells_first (G2.out)⟩ (fun K' hK' => ?_)
      rw [if_pos (by kernel_rfl)]
      go_simp
      have JJ := hide (show Ints (World.alloc wl_ (.cells #[.int .i64 1] 3)) (.slice (some ⟨wl_.heap.size, 0, none⟩) 1 1) [1] from (lit_at wl_ [1] 1 rfl (by decide)))
      replace G0 := hide (G0.out.below (bal wl_ (.cells #[.int .i64 1] 3))); replace G1 := hide (G1.out.below (bal wl_ (.cells #[.int .i64 1] 3))); replace G2 := hide (G2.out.below (bal wl_ (.cells #[.int .i64 1] 3))); replace Me := hide (Me.out.below (bal wl_ (.cells #[.int .i64 1] 3))); replace Mp := hide (Mp.out.below (bal wl_ (.cells #[.int .i64 1] 3))); replace Mq := hide (Mq.out.below (bal wl_ (.cells #[.int .i64 1] 3))); replace Mc := hide (Mc.out.below (bal wl_ (.cells #[.int .i64 1] 3))); replace hB := bcall hB (bal wl_ (.cells #[.int .i64 1] 3))
      exact hK' _ _ ⟨(Me.out).cells.2.2.2.2.2.2.2, (Mp.out).cells.2.2.2.2.2.2.2, (Mp.out).cells.2.2.2.2.2.1, (Mq.out).cells.2.2.2.2.2.2.2, (Mc.out).cells.2.2.2.2.2.2.2, (Mc.out).cells.2.1, cells_first (G2.out)⟩ ⟨_, _, _, _, rfl, rfl, hide (II.below (bal wl_ (.cells #[.int .i64 1] 3))), JJ, G0, G1, G2, Me, Mp, Mq, Mc, hB⟩
    · intro K hK
      rw [if_pos (by kernel_rfl)]
      go_simp
      have JJ := hide (show Ints (World.alloc wi0_ (.cells #[.int .i64 1] 3)) (.slice (some ⟨wi0_.heap.size, 0, none⟩) 1 1) [1] from (lit_at wi0_ [1] 1 rfl (by decide)))
      replace G0 := hide (G0.out.below (bal wi0_ (.cells #[.int .i64 1] 3))); replace G1 := hide (G1.out.below (bal wi0_ (.cells #[.int .i64 1] 3))); replace G2 := hide (G2.out.below (bal wi0_ (.cells #[.int .i64 1] 3))); replace Me := hide (Me.out.below (bal wi0_ (.cells #[.int .i64 1] 3))); replace Mp := hide (Mp.out.below (bal wi0_ (.cells #[.int .i64 1] 3))); replace Mq := hide (Mq.out.below (bal wi0_ (.cells #[.int .i64 1] 3))); replace Mc := hide (Mc.out.below (bal wi0_ (.cells #[.int .i64 1] 3))); replace hB := bcall hB (bal wi0_ (.cells #[.int .i64 1] 3))
      refine hK _ _ ⟨(Me.out).cells.2.2.2.2.2.2.2, (Mp.out).cells.2.2.2.2.2.2.2, (Mp.out).cells.2.2.2.2.2.1, (Mq.out).cells.2.2.2.2.2.2.2, (Mc.out).cells.2.2.2.2.2.2.2, (Mc.out).cells.2.1, cells_first (G2.out)⟩ (fun K' hK' => ?_)
      rw [if_pos (by kernel_rfl)]
      go_simp
      go_at_call 13
      (with_reducible refine (list_any _ [4294967297, 0, 0, 1, 0, 0] 0 1 9 _ G1.out [1] (by kernel_rfl) 1 rfl).mono ?_)
      rintro e wl_ ⟨Al_, cl_, rfl, ⟨pl_, ql_⟩, II, hb_⟩
      replace G0 := hide (G0.out.below hb_); replace G1 := hide (G1.out.below hb_); replace G2 := hide (G2.out.below hb_); replace Me := hide (Me.out.below hb_); replace Mp := hide (Mp.out.below hb_); replace Mq := hide (Mq.out.below hb_); replace Mc := hide (Mc.out.below hb_); replace hB := bcall hB hb_
      replace JJ := hide (JJ.out.below hb_); clear hb_
      (try go_simp)
      exact hK' _ _ ⟨(Me.out).cells.2.2.2.2.2.2.2, (Mp.out).cells.2.2.2.2.2.2.2, (Mp.out).cells.2.2.2.2.2.1, (Mq.out).cells.2.2.2.2.2.2.2, (Mc.out).cells.2.2.2.2.2.2.2, (Mc.out).cells.2.1, cells_first (G2.out)⟩ ⟨_, _, _, _, rfl, rfl, hide II, JJ, G0, G1, G2, Me, Mp, Mq, Mc, hB⟩
    clear G0 G1 G2 Me Mp Mq Mc hHeld hB
    intro u v wm1_ hHeld hR; obtain ⟨Au1_, cu1_, Av1_, cv1_, rfl, rfl, II, JJ, G0, G1, G2, Me, Mp, Mq, Mc, hB⟩ := hR
    (try simp only [Act.put, List.setIfInBounds_toArray, List.set_cons_zero, List.set_cons_succ])
    -- 27
    refine wpAnyH_ready (rs := [27]) (by kernel_rfl) (by simp) ?_
    refine AllReadyH.cons rfl (fun K hK => ?_) AllReadyH.nil
    go_simp
    go_at_call 12
    (with_reducible refine (ints_yes _ _ [1] [1] rfl _ II.out JJ.out).mono ?_)
    rintro e wi1_ ⟨rfl, hb_⟩
    replace G0 := hide (G0.out.below hb_); replace G1 := hide (G1.out.below hb_); replace G2 := hide (G2.out.below hb_); replace Me := hide (Me.out.below hb_); replace Mp := hide (Mp.out.below hb_); replace Mq := hide (Mq.out.below hb_); replace Mc := hide (Mc.out.below hb_); replace hB := bcall hB hb_; clear hb_ II JJ
    (try go_simp)
    refine hK.out _ _ ⟨(Me.out).cells.2.2.2.2.2.2.2, (Mp.out).cells.2.2.2.2.2.2.2, (Mp.out).cells.2.2.2.2.2.1, (Mq.out).cells.2.2.2.2.2.2.2, (Mc.out).cells.2.2.2.2.2.2.2, (Mc.out).cells.2.1, cells_first (G2.out)⟩ (fun hHeld => ?_)
    (try simp only [Act.put, List.setIfInBounds_toArray, List.set_cons_zero, List.set_cons_succ])
    -- 28
    refine wpAnyH_take (i := 28) (oi := { dst := some 91, op := Op.pick (Operand.tmp 86) (Operand.tmp 90) (Operand.const (Value.bool false)), type := 4, pos := "law.go:51", after := #[{ on := 23, ground := Ground.data }, { on := 27, ground := Ground.data }], guard := none }) (v := ?_) rfl (by kernel_rfl) (by kernel_rfl) (by kernel_rfl) (fun _ _ _ h => h) (Or.inl ⟨by rfl, ?_⟩) (by assumption) ?_
    rotate_left
    · intro w_ hSw; (try dsimp only at hSw); go_simp; (try with_reducible rfl)
    (try simp only [Act.put, List.setIfInBounds_toArray, List.set_cons_zero, List.set_cons_succ])
    -- 29
    refine wpAnyH_take (i := 29) (oi := { dst := some 92, op := Op.move (Operand.tmp 91), type := 4, pos := "law.go:51", after := #[{ on := 28, ground := Ground.data }, { on := 27, ground := Ground.chain }], guard := none }) (v := ?_) rfl (by kernel_rfl) (by kernel_rfl) (by kernel_rfl) (fun _ _ _ h => h) (Or.inl ⟨by rfl, ?_⟩) (by assumption) ?_
    rotate_left
    · intro w_ hSw; (try dsimp only at hSw); go_simp; (try with_reducible rfl)
    (try simp only [Act.put, List.setIfInBounds_toArray, List.set_cons_zero, List.set_cons_succ])
    -- 30
    refine wpAnyH_take (i := 30) (oi := { dst := some 93, op := Op.fieldAddr 26 (Operand.tmp 9) 7, type := 0, pos := "law.go:51", after := #[{ on := 29, ground := Ground.guard }], guard := some (29, true) }) (v := ?_) rfl (by kernel_rfl) (by kernel_rfl) (by kernel_rfl) (fun _ _ _ h => h) (Or.inl ⟨by rfl, ?_⟩) (by assumption) ?_
    rotate_left
    · intro w_ hSw; (try dsimp only at hSw); go_simp; (try with_reducible rfl)
    (try simp only [Act.put, List.setIfInBounds_toArray, List.set_cons_zero, List.set_cons_succ])
    -- 31
    refine wpAnyH_take (i := 31) (oi := { dst := some 94, op := Op.load 3 (Operand.tmp 93), type := 3, pos := "law.go:51", after := #[{ on := 30, ground := Ground.data }, { on := 29, ground := Ground.guard }], guard := some (29, true) }) (v := ?_) rfl (by kernel_rfl) (by kernel_rfl) (by kernel_rfl) (fun _ _ _ h => h) (Or.inl ⟨by rfl, ?_⟩) (by assumption) ?_
    rotate_left
    · intro w_ hSw; (try dsimp only at hSw); go_simp; (try with_reducible rfl)
    (try simp only [Act.put, List.setIfInBounds_toArray, List.set_cons_zero, List.set_cons_succ])
    -- 32
    refine wpAnyH_take (i := 32) (oi := { dst := some 95, op := Op.binOp BinOp.eql 3 (Operand.tmp 94) (Operand.const (Value.int IntKind.i64 1)) 3, type := 4, pos := "law.go:51", after := #[{ on := 31, ground := Ground.data }, { on := 29, ground := Ground.guard }], guard := some (29, true) }) (v := ?_) rfl (by kernel_rfl) (by kernel_rfl) (by kernel_rfl) (fun _ _ _ h => h) (Or.inl ⟨by rfl, ?_⟩) (by assumption) ?_
    rotate_left
    · intro w_ hSw; (try dsimp only at hSw); go_simp; (try with_reducible rfl)
    (try simp only [Act.put, List.setIfInBounds_toArray, List.set_cons_zero, List.set_cons_succ])
    -- 33
    refine wpAnyH_take (i := 33) (oi := { dst := some 96, op := Op.pick (Operand.tmp 92) (Operand.tmp 95) (Operand.const (Value.bool false)), type := 4, pos := "law.go:51", after := #[{ on := 29, ground := Ground.data }, { on := 32, ground := Ground.data }], guard := none }) (v := ?_) rfl (by kernel_rfl) (by kernel_rfl) (by kernel_rfl) (fun _ _ _ h => h) (Or.inl ⟨by rfl, ?_⟩) (by assumption) ?_
    rotate_left
    · intro w_ hSw; (try dsimp only at hSw); go_simp; (try with_reducible rfl)
    (try simp only [Act.put, List.setIfInBounds_toArray, List.set_cons_zero, List.set_cons_succ])
    -- 34
    refine wpAnyH_take (i := 34) (oi := { dst := some 97, op := Op.move (Operand.tmp 96), type := 4, pos := "law.go:51", after := #[{ on := 33, ground := Ground.data }, { on := 29, ground := Ground.chain }], guard := none }) (v := ?_) rfl (by kernel_rfl) (by kernel_rfl) (by kernel_rfl) (fun _ _ _ h => h) (Or.inl ⟨by rfl, ?_⟩) (by assumption) ?_
    rotate_left
    · intro w_ hSw; (try dsimp only at hSw); go_simp; (try with_reducible rfl)
    (try simp only [Act.put, List.setIfInBounds_toArray, List.set_cons_zero, List.set_cons_succ])
    -- 35
    refine wpAnyH_take (i := 35) (oi := { dst := some 98, op := Op.move (Operand.tmp 8), type := 23, pos := "law.go:51", after := #[{ on := 34, ground := Ground.guard }], guard := some (34, true) }) (v := ?_) rfl (by kernel_rfl) (by kernel_rfl) (by kernel_rfl) (fun _ _ _ h => h) (Or.inl ⟨by rfl, ?_⟩) (by assumption) ?_
    rotate_left
    · intro w_ hSw; (try dsimp only at hSw); go_simp; (try with_reducible rfl)
    (try simp only [Act.put, List.setIfInBounds_toArray, List.set_cons_zero, List.set_cons_succ])

    -- 36, 37
    refine wpAnyH_two (i := 36) (j := 37) (oi := { dst := some 99, op := Op.call { callee := Callee.value (Operand.func 13), args := #[Operand.tmp 98, Operand.const (Value.int IntKind.i64 0), Operand.const (Value.int IntKind.i64 1), Operand.const (Value.int IntKind.i64 9)], argTypes := #[23, 3, 3, 3] }, type := 27, pos := "law.go:51", after := #[{ on := 35, ground := Ground.data }, { on := 34, ground := Ground.chain }, { on := 34, ground := Ground.guard }], guard := some (34, true) }) (oj := { dst := some 100, op := Op.buildSlice 27 2 #[(0, Operand.const (Value.int IntKind.i64 3)), (1, Operand.const (Value.int IntKind.i64 1))], type := 27, pos := "law.go:51", after := #[{ on := 34, ground := Ground.guard }], guard := some (34, true) }) (fun u v w1 => ∃ A c A1 c1, u = .slice A 2 c ∧ v = .slice A1 2 c1 ∧ Hid (Ints w1 (.slice A 2 c) [3, 1]) ∧ Hid (Ints w1 (.slice A1 2 c1) [3, 1]) ∧ Hid (Cells w1 (.slice A2_ 6 c2_) [2, 0, 0, 1, 0, 0]) ∧ Hid (Cells w1 (.slice A11_ 6 c11_) [4294967297, 0, 0, 1, 0, 0]) ∧ Hid (Cells w1 (.slice (some ⟨gb, ob, none⟩) 6 c14_) [8589934595, 0, 0, 1, 1, 0]) ∧ Hid (Mb w1 B3 ⟨2, 1, 0, 1, 0, 0, 0, 2⟩) ∧ Hid (Mb w1 w11_.heap.size ⟨2, 3, 0, 1, 2, 2, 1, 1⟩) ∧ Hid (Mb w1 w14_.heap.size ⟨1, 3, 0, 1, 4294967297, 3, 0, 1⟩) ∧ Hid (Mb w1 w17_.heap.size ⟨2, 0, 0, 1, 2, 0, 1, 0⟩) ∧ Below w.heap.size w w1) (by kernel_rfl) (by kernel_rfl) (by kernel_rfl) rfl rfl (by kernel_rfl) (fun u v => put_comm (by decide) _ u v) ?_ ?_ ?_
    · intro K hK
      rw [if_pos (by kernel_rfl)]
      go_simp
      go_at_call 13
      (with_reducible refine (list_any _ [8589934595, 0, 0, 1, 1, 0] 0 1 9 _ G2.out [3, 1] (by kernel_rfl) 2 rfl).mono ?_)
      rintro e wl_ ⟨Al_, cl_, rfl, ⟨pl_, ql_⟩, II, hb_⟩
      replace G0 := hide (G0.out.below hb_); replace G1 := hide (G1.out.below hb_); replace G2 := hide (G2.out.below hb_); replace Me := hide (Me.out.below hb_); replace Mp := hide (Mp.out.below hb_); replace Mq := hide (Mq.out.below hb_); replace Mc := hide (Mc.out.below hb_); replace hB := bcall hB hb_; clear hb_
      (try go_simp)
      refine hK _ _ ⟨(Me.out).cells.2.2.2.2.2.2.2, (Mp.out).cells.2.2.2.2.2.2.2, (Mp.out).cells.2.2.2.2.2.1, (Mq.out).cells.2.2.2.2.2.2.2, (Mc.out).cells.2.2.2.2.2.2.2, (Mc.out).cells.2.1, cells_first (G2.out)⟩ (fun K' hK' => ?_)
      rw [if_pos (by kernel_rfl)]
      go_simp
      have JJ := hide (show Ints (World.alloc wl_ (.cells #[.int .i64 3, .int .i64 1] 3)) (.slice (some ⟨wl_.heap.size, 0, none⟩) 2 2) [3, 1] from (lit_at wl_ [3, 1] 2 rfl (by decide)))
      replace G0 := hide (G0.out.below (bal wl_ (.cells #[.int .i64 3, .int .i64 1] 3))); replace G1 := hide (G1.out.below (bal wl_ (.cells #[.int .i64 3, .int .i64 1] 3))); replace G2 := hide (G2.out.below (bal wl_ (.cells #[.int .i64 3, .int .i64 1] 3))); replace Me := hide (Me.out.below (bal wl_ (.cells #[.int .i64 3, .int .i64 1] 3))); replace Mp := hide (Mp.out.below (bal wl_ (.cells #[.int .i64 3, .int .i64 1] 3))); replace Mq := hide (Mq.out.below (bal wl_ (.cells #[.int .i64 3, .int .i64 1] 3))); replace Mc := hide (Mc.out.below (bal wl_ (.cells #[.int .i64 3, .int .i64 1] 3))); replace hB := bcall hB (bal wl_ (.cells #[.int .i64 3, .int .i64 1] 3))
      exact hK' _ _ ⟨(Me.out).cells.2.2.2.2.2.2.2, (Mp.out).cells.2.2.2.2.2.2.2, (Mp.out).cells.2.2.2.2.2.1, (Mq.out).cells.2.2.2.2.2.2.2, (Mc.out).cells.2.2.2.2.2.2.2, (Mc.out).cells.2.1, cells_first (G2.out)⟩ ⟨_, _, _, _, rfl, rfl, hide (II.below (bal wl_ (.cells #[.int .i64 3, .int .i64 1] 3))), JJ, G0, G1, G2, Me, Mp, Mq, Mc, hB⟩
    · intro K hK
      rw [if_pos (by kernel_rfl)]
      go_simp
      have JJ := hide (show Ints (World.alloc wi1_ (.cells #[.int .i64 3, .int .i64 1] 3)) (.slice (some ⟨wi1_.heap.size, 0, none⟩) 2 2) [3, 1] from (lit_at wi1_ [3, 1] 2 rfl (by decide)))
      replace G0 := hide (G0.out.below (bal wi1_ (.cells #[.int .i64 3, .int .i64 1] 3))); replace G1 := hide (G1.out.below (bal wi1_ (.cells #[.int .i64 3, .int .i64 1] 3))); replace G2 := hide (G2.out.below (bal wi1_ (.cells #[.int .i64 3, .int .i64 1] 3))); replace Me := hide (Me.out.below (bal wi1_ (.cells #[.int .i64 3, .int .i64 1] 3))); replace Mp := hide (Mp.out.below (bal wi1_ (.cells #[.int .i64 3, .int .i64 1] 3))); replace Mq := hide (Mq.out.below (bal wi1_ (.cells #[.int .i64 3, .int .i64 1] 3))); replace Mc := hide (Mc.out.below (bal wi1_ (.cells #[.int .i64 3, .int .i64 1] 3))); replace hB := bcall hB (bal wi1_ (.cells #[.int .i64 3, .int .i64 1] 3))
      refine hK _ _ ⟨(Me.out).cells.2.2.2.2.2.2.2, (Mp.out).cells.2.2.2.2.2.2.2, (Mp.out).cells.2.2.2.2.2.1, (Mq.out).cells.2.2.2.2.2.2.2, (Mc.out).cells.2.2.2.2.2.2.2, (Mc.out).cells.2.1, cells_first (G2.out)⟩ (fun K' hK' => ?_)
      rw [if_pos (by kernel_rfl)]
      go_simp
      go_at_call 13
      (with_reducible refine (list_any _ [8589934595, 0, 0, 1, 1, 0] 0 1 9 _ G2.out [3, 1] (by kernel_rfl) 2 rfl).mono ?_)
      rintro e wl_ ⟨Al_, cl_, rfl, ⟨pl_, ql_⟩, II, hb_⟩
      replace G0 := hide (G0.out.below hb_); replace G1 := hide (G1.out.below hb_); replace G2 := hide (G2.out.below hb_); replace Me := hide (Me.out.below hb_); replace Mp := hide (Mp.out.below hb_); replace Mq := hide (Mq.out.below hb_); replace Mc := hide (Mc.out.below hb_); replace hB := bcall hB hb_
      replace JJ := hide (JJ.out.below hb_); clear hb_
      (try go_simp)
      exact hK' _ _ ⟨(Me.out).cells.2.2.2.2.2.2.2, (Mp.out).cells.2.2.2.2.2.2.2, (Mp.out).cells.2.2.2.2.2.1, (Mq.out).cells.2.2.2.2.2.2.2, (Mc.out).cells.2.2.2.2.2.2.2, (Mc.out).cells.2.1, cells_first (G2.out)⟩ ⟨_, _, _, _, rfl, rfl, hide II, JJ, G0, G1, G2, Me, Mp, Mq, Mc, hB⟩
    clear G0 G1 G2 Me Mp Mq Mc hHeld hB
    intro u v wm2_ hHeld hR; obtain ⟨Au2_, cu2_, Av2_, cv2_, rfl, rfl, II, JJ, G0, G1, G2, Me, Mp, Mq, Mc, hB⟩ := hR
    (try simp only [Act.put, List.setIfInBounds_toArray, List.set_cons_zero, List.set_cons_succ])
    -- 38
    refine wpAnyH_ready (rs := [38]) (by kernel_rfl) (by simp) ?_
    refine AllReadyH.cons rfl (fun K hK => ?_) AllReadyH.nil
    go_simp
    go_at_call 12
    (with_reducible refine (ints_yes _ _ [3, 1] [3, 1] rfl _ II.out JJ.out).mono ?_)
    rintro e wi2_ ⟨rfl, hb_⟩
    replace G0 := hide (G0.out.below hb_); replace G1 := hide (G1.out.below hb_); replace G2 := hide (G2.out.below hb_); replace Me := hide (Me.out.below hb_); replace Mp := hide (Mp.out.below hb_); replace Mq := hide (Mq.out.below hb_); replace Mc := hide (Mc.out.below hb_); replace hB := bcall hB hb_; clear hb_ II JJ
    (try go_simp)
    refine hK.out _ _ ⟨(Me.out).cells.2.2.2.2.2.2.2, (Mp.out).cells.2.2.2.2.2.2.2, (Mp.out).cells.2.2.2.2.2.1, (Mq.out).cells.2.2.2.2.2.2.2, (Mc.out).cells.2.2.2.2.2.2.2, (Mc.out).cells.2.1, cells_first (G2.out)⟩ (fun hHeld => ?_)
    (try simp only [Act.put, List.setIfInBounds_toArray, List.set_cons_zero, List.set_cons_succ])
    -- 39
    refine wpAnyH_take (i := 39) (oi := { dst := some 102, op := Op.pick (Operand.tmp 97) (Operand.tmp 101) (Operand.const (Value.bool false)), type := 4, pos := "law.go:51", after := #[{ on := 34, ground := Ground.data }, { on := 38, ground := Ground.data }], guard := none }) (v := ?_) rfl (by kernel_rfl) (by kernel_rfl) (by kernel_rfl) (fun _ _ _ h => h) (Or.inl ⟨by rfl, ?_⟩) (by assumption) ?_
    rotate_left
    · intro w_ hSw; (try dsimp only at hSw); go_simp; (try with_reducible rfl)
    (try simp only [Act.put, List.setIfInBounds_toArray, List.set_cons_zero, List.set_cons_succ])
    -- 40
    refine wpAnyH_take (i := 40) (oi := { dst := some 103, op := Op.move (Operand.tmp 102), type := 4, pos := "law.go:51", after := #[{ on := 39, ground := Ground.data }, { on := 38, ground := Ground.chain }], guard := none }) (v := ?_) rfl (by kernel_rfl) (by kernel_rfl) (by kernel_rfl) (fun _ _ _ h => h) (Or.inl ⟨by rfl, ?_⟩) (by assumption) ?_
    rotate_left
    · intro w_ hSw; (try dsimp only at hSw); go_simp; (try with_reducible rfl)
    (try simp only [Act.put, List.setIfInBounds_toArray, List.set_cons_zero, List.set_cons_succ])
    -- 41
    refine wpAnyH_take (i := 41) (oi := { dst := some 104, op := Op.move (Operand.tmp 8), type := 23, pos := "law.go:51", after := #[{ on := 40, ground := Ground.guard }], guard := some (40, true) }) (v := ?_) rfl (by kernel_rfl) (by kernel_rfl) (by kernel_rfl) (fun _ _ _ h => h) (Or.inl ⟨by rfl, ?_⟩) (by assumption) ?_
    rotate_left
    · intro w_ hSw; (try dsimp only at hSw); go_simp; (try with_reducible rfl)
    (try simp only [Act.put, List.setIfInBounds_toArray, List.set_cons_zero, List.set_cons_succ])
    -- 42
    refine wpAnyH_take (i := 42) (oi := { dst := some 105, op := Op.indexAddr 23 (Operand.tmp 104) (Operand.const (Value.int IntKind.i64 0)), type := 0, pos := "law.go:51", after := #[{ on := 41, ground := Ground.data }, { on := 40, ground := Ground.guard }], guard := some (40, true) }) (v := ?_) rfl (by kernel_rfl) (by kernel_rfl) (by kernel_rfl) (fun _ _ _ h => h) (Or.inl ⟨by rfl, ?_⟩) (by assumption) ?_
    rotate_left
    · intro w_ hSw; (try dsimp only at hSw); go_simp; (try with_reducible rfl)
    (try simp only [Act.put, List.setIfInBounds_toArray, List.set_cons_zero, List.set_cons_succ])
    -- 43
    refine wpAnyH_take (i := 43) (oi := { dst := some 106, op := Op.load 24 (Operand.tmp 105), type := 24, pos := "law.go:51", after := #[{ on := 42, ground := Ground.data }, { on := 40, ground := Ground.guard }], guard := some (40, true) }) (v := ?_) rfl (by kernel_rfl) (by kernel_rfl) (by kernel_rfl) (fun _ _ _ h => h) (Or.inl ⟨by rfl, ?_⟩) (by assumption) ?_
    rotate_left
    · intro w_ hSw; (try dsimp only at hSw); go_simp; (try with_reducible rfl)
    (try simp only [Act.put, List.setIfInBounds_toArray, List.set_cons_zero, List.set_cons_succ])
    -- 44
    refine wpAnyH_ready (rs := [44]) (by kernel_rfl) (by simp) ?_
    refine AllReadyH.cons rfl (fun K hK => ?_) AllReadyH.nil
    go_simp
    go_at_call 15; (with_reducible refine (Pack_same 2 3 8589934595 (by kernel_rfl) _).mono ?_); rintro e w9_ ⟨rfl, rfl⟩
    (try go_simp)
    refine hK.out _ _ ⟨(Me.out).cells.2.2.2.2.2.2.2, (Mp.out).cells.2.2.2.2.2.2.2, (Mp.out).cells.2.2.2.2.2.1, (Mq.out).cells.2.2.2.2.2.2.2, (Mc.out).cells.2.2.2.2.2.2.2, (Mc.out).cells.2.1, cells_first (G2.out)⟩ (fun hHeld => ?_)
    (try simp only [Act.put, List.setIfInBounds_toArray, List.set_cons_zero, List.set_cons_succ])
    -- 45
    refine wpAnyH_take (i := 45) (oi := { dst := some 108, op := Op.binOp BinOp.eql 24 (Operand.tmp 106) (Operand.tmp 107) 24, type := 4, pos := "law.go:51", after := #[{ on := 43, ground := Ground.data }, { on := 44, ground := Ground.data }, { on := 40, ground := Ground.guard }], guard := some (40, true) }) (v := ?_) rfl (by kernel_rfl) (by kernel_rfl) (by kernel_rfl) (fun _ _ _ h => h) (Or.inl ⟨by rfl, ?_⟩) (by assumption) ?_
    rotate_left
    · intro w_ hSw; (try dsimp only at hSw); go_simp; (try with_reducible rfl)
    (try simp only [Act.put, List.setIfInBounds_toArray, List.set_cons_zero, List.set_cons_succ])
    -- 46
    refine wpAnyH_take (i := 46) (oi := { dst := some 109, op := Op.pick (Operand.tmp 103) (Operand.tmp 108) (Operand.const (Value.bool false)), type := 4, pos := "law.go:51", after := #[{ on := 40, ground := Ground.data }, { on := 45, ground := Ground.data }], guard := none }) (v := ?_) rfl (by kernel_rfl) (by kernel_rfl) (by kernel_rfl) (fun _ _ _ h => h) (Or.inl ⟨by rfl, ?_⟩) (by assumption) ?_
    rotate_left
    · intro w_ hSw; (try dsimp only at hSw); go_simp; (try with_reducible rfl)
    (try simp only [Act.put, List.setIfInBounds_toArray, List.set_cons_zero, List.set_cons_succ])
    -- 47
    refine wpAnyH_take (i := 47) (oi := { dst := some 110, op := Op.move (Operand.tmp 109), type := 4, pos := "law.go:51", after := #[{ on := 46, ground := Ground.data }, { on := 44, ground := Ground.chain }], guard := none }) (v := ?_) rfl (by kernel_rfl) (by kernel_rfl) (by kernel_rfl) (fun _ _ _ h => h) (Or.inl ⟨by rfl, ?_⟩) (by assumption) ?_
    rotate_left
    · intro w_ hSw; (try dsimp only at hSw); go_simp; (try with_reducible rfl)
    (try simp only [Act.put, List.setIfInBounds_toArray, List.set_cons_zero, List.set_cons_succ])
    -- 48
    refine wpAnyH_take (i := 48) (oi := { dst := some 111, op := Op.move (Operand.tmp 8), type := 23, pos := "law.go:51", after := #[{ on := 47, ground := Ground.guard }], guard := some (47, true) }) (v := ?_) rfl (by kernel_rfl) (by kernel_rfl) (by kernel_rfl) (fun _ _ _ h => h) (Or.inl ⟨by rfl, ?_⟩) (by assumption) ?_
    rotate_left
    · intro w_ hSw; (try dsimp only at hSw); go_simp; (try with_reducible rfl)
    (try simp only [Act.put, List.setIfInBounds_toArray, List.set_cons_zero, List.set_cons_succ])
    -- 49
    refine wpAnyH_take (i := 49) (oi := { dst := some 112, op := Op.indexAddr 23 (Operand.tmp 111) (Operand.const (Value.int IntKind.i64 0)), type := 0, pos := "law.go:51", after := #[{ on := 48, ground := Ground.data }, { on := 47, ground := Ground.guard }], guard := some (47, true) }) (v := ?_) rfl (by kernel_rfl) (by kernel_rfl) (by kernel_rfl) (fun _ _ _ h => h) (Or.inl ⟨by rfl, ?_⟩) (by assumption) ?_
    rotate_left
    · intro w_ hSw; (try dsimp only at hSw); go_simp; (try with_reducible rfl)
    (try simp only [Act.put, List.setIfInBounds_toArray, List.set_cons_zero, List.set_cons_succ])
    -- 50
    refine wpAnyH_take (i := 50) (oi := { dst := some 113, op := Op.load 24 (Operand.tmp 112), type := 24, pos := "law.go:51", after := #[{ on := 49, ground := Ground.data }, { on := 47, ground := Ground.guard }], guard := some (47, true) }) (v := ?_) rfl (by kernel_rfl) (by kernel_rfl) (by kernel_rfl) (fun _ _ _ h => h) (Or.inl ⟨by rfl, ?_⟩) (by assumption) ?_
    rotate_left
    · intro w_ hSw; (try dsimp only at hSw); go_simp; (try with_reducible rfl)
    (try simp only [Act.put, List.setIfInBounds_toArray, List.set_cons_zero, List.set_cons_succ])
    -- 51
    refine wpAnyH_ready (rs := [51]) (by kernel_rfl) (by simp) ?_
    refine AllReadyH.cons rfl (fun K hK => ?_) AllReadyH.nil
    go_simp
    go_at_call 17; (with_reducible refine (Node_same 8589934595 3 (by kernel_rfl) _).mono ?_); rintro e w9_ ⟨rfl, rfl⟩
    (try go_simp)
    refine hK.out _ _ ⟨(Me.out).cells.2.2.2.2.2.2.2, (Mp.out).cells.2.2.2.2.2.2.2, (Mp.out).cells.2.2.2.2.2.1, (Mq.out).cells.2.2.2.2.2.2.2, (Mc.out).cells.2.2.2.2.2.2.2, (Mc.out).cells.2.1, cells_first (G2.out)⟩ (fun hHeld => ?_)
    (try simp only [Act.put, List.setIfInBounds_toArray, List.set_cons_zero, List.set_cons_succ])
    -- 52
    refine wpAnyH_take (i := 52) (oi := { dst := some 115, op := Op.binOp BinOp.eql 3 (Operand.tmp 114) (Operand.const (Value.int IntKind.i64 3)) 3, type := 4, pos := "law.go:51", after := #[{ on := 51, ground := Ground.data }, { on := 47, ground := Ground.guard }], guard := some (47, true) }) (v := ?_) rfl (by kernel_rfl) (by kernel_rfl) (by kernel_rfl) (fun _ _ _ h => h) (Or.inl ⟨by rfl, ?_⟩) (by assumption) ?_
    rotate_left
    · intro w_ hSw; (try dsimp only at hSw); go_simp; (try with_reducible rfl)
    (try simp only [Act.put, List.setIfInBounds_toArray, List.set_cons_zero, List.set_cons_succ])
    -- 53
    refine wpAnyH_take (i := 53) (oi := { dst := some 116, op := Op.pick (Operand.tmp 110) (Operand.tmp 115) (Operand.const (Value.bool false)), type := 4, pos := "law.go:51", after := #[{ on := 47, ground := Ground.data }, { on := 52, ground := Ground.data }], guard := none }) (v := ?_) rfl (by kernel_rfl) (by kernel_rfl) (by kernel_rfl) (fun _ _ _ h => h) (Or.inl ⟨by rfl, ?_⟩) (by assumption) ?_
    rotate_left
    · intro w_ hSw; (try dsimp only at hSw); go_simp; (try with_reducible rfl)
    (try simp only [Act.put, List.setIfInBounds_toArray, List.set_cons_zero, List.set_cons_succ])
    -- 54
    refine wpAnyH_take (i := 54) (oi := { dst := some 117, op := Op.move (Operand.tmp 116), type := 4, pos := "law.go:51", after := #[{ on := 53, ground := Ground.data }, { on := 51, ground := Ground.chain }], guard := none }) (v := ?_) rfl (by kernel_rfl) (by kernel_rfl) (by kernel_rfl) (fun _ _ _ h => h) (Or.inl ⟨by rfl, ?_⟩) (by assumption) ?_
    rotate_left
    · intro w_ hSw; (try dsimp only at hSw); go_simp; (try with_reducible rfl)
    (try simp only [Act.put, List.setIfInBounds_toArray, List.set_cons_zero, List.set_cons_succ])
    -- 55
    refine wpAnyH_take (i := 55) (oi := { dst := some 118, op := Op.move (Operand.tmp 11), type := 23, pos := "law.go:51", after := #[{ on := 54, ground := Ground.guard }], guard := some (54, true) }) (v := ?_) rfl (by kernel_rfl) (by kernel_rfl) (by kernel_rfl) (fun _ _ _ h => h) (Or.inl ⟨by rfl, ?_⟩) (by assumption) ?_
    rotate_left
    · intro w_ hSw; (try dsimp only at hSw); go_simp; (try with_reducible rfl)
    (try simp only [Act.put, List.setIfInBounds_toArray, List.set_cons_zero, List.set_cons_succ])
    -- 56
    refine wpAnyH_ready (rs := [56]) (by kernel_rfl) (by simp) ?_
    refine AllReadyH.cons rfl (fun K hK => ?_) AllReadyH.nil
    go_simp
    (try go_simp)
    refine hK.out _ _ ⟨(Me.out).cells.2.2.2.2.2.2.2, (Mp.out).cells.2.2.2.2.2.2.2, (Mp.out).cells.2.2.2.2.2.1, (Mq.out).cells.2.2.2.2.2.2.2, (Mc.out).cells.2.2.2.2.2.2.2, (Mc.out).cells.2.1, cells_first (G2.out)⟩ (fun hHeld => ?_)
    (try simp only [Act.put, List.setIfInBounds_toArray, List.set_cons_zero, List.set_cons_succ])
    -- 57
    refine wpAnyH_take (i := 57) (oi := { dst := some 120, op := Op.binOp BinOp.eql 3 (Operand.tmp 119) (Operand.const (Value.int IntKind.i64 6)) 3, type := 4, pos := "law.go:51", after := #[{ on := 56, ground := Ground.data }, { on := 54, ground := Ground.guard }], guard := some (54, true) }) (v := ?_) rfl (by kernel_rfl) (by kernel_rfl) (by kernel_rfl) (fun _ _ _ h => h) (Or.inl ⟨by rfl, ?_⟩) (by assumption) ?_
    rotate_left
    · intro w_ hSw; (try dsimp only at hSw); go_simp; (try with_reducible rfl)
    (try simp only [Act.put, List.setIfInBounds_toArray, List.set_cons_zero, List.set_cons_succ])
    -- 58
    refine wpAnyH_take (i := 58) (oi := { dst := some 121, op := Op.pick (Operand.tmp 117) (Operand.tmp 120) (Operand.const (Value.bool false)), type := 4, pos := "law.go:51", after := #[{ on := 54, ground := Ground.data }, { on := 57, ground := Ground.data }], guard := none }) (v := ?_) rfl (by kernel_rfl) (by kernel_rfl) (by kernel_rfl) (fun _ _ _ h => h) (Or.inl ⟨by rfl, ?_⟩) (by assumption) ?_
    rotate_left
    · intro w_ hSw; (try dsimp only at hSw); go_simp; (try with_reducible rfl)
    (try simp only [Act.put, List.setIfInBounds_toArray, List.set_cons_zero, List.set_cons_succ])
    -- 59
    refine wpAnyH_take (i := 59) (oi := { dst := some 122, op := Op.move (Operand.tmp 121), type := 4, pos := "law.go:51", after := #[{ on := 58, ground := Ground.data }, { on := 54, ground := Ground.chain }], guard := none }) (v := ?_) rfl (by kernel_rfl) (by kernel_rfl) (by kernel_rfl) (fun _ _ _ h => h) (Or.inl ⟨by rfl, ?_⟩) (by assumption) ?_
    rotate_left
    · intro w_ hSw; (try dsimp only at hSw); go_simp; (try with_reducible rfl)
    (try simp only [Act.put, List.setIfInBounds_toArray, List.set_cons_zero, List.set_cons_succ])
    -- 60
    refine wpAnyH_take (i := 60) (oi := { dst := some 123, op := Op.fieldAddr 26 (Operand.tmp 12) 7, type := 0, pos := "law.go:51", after := #[{ on := 59, ground := Ground.guard }], guard := some (59, true) }) (v := ?_) rfl (by kernel_rfl) (by kernel_rfl) (by kernel_rfl) (fun _ _ _ h => h) (Or.inl ⟨by rfl, ?_⟩) (by assumption) ?_
    rotate_left
    · intro w_ hSw; (try dsimp only at hSw); go_simp; (try with_reducible rfl)
    (try simp only [Act.put, List.setIfInBounds_toArray, List.set_cons_zero, List.set_cons_succ])
    -- 61
    refine wpAnyH_take (i := 61) (oi := { dst := some 124, op := Op.load 3 (Operand.tmp 123), type := 3, pos := "law.go:51", after := #[{ on := 60, ground := Ground.data }, { on := 59, ground := Ground.guard }], guard := some (59, true) }) (v := ?_) rfl (by kernel_rfl) (by kernel_rfl) (by kernel_rfl) (fun _ _ _ h => h) (Or.inl ⟨by rfl, ?_⟩) (by assumption) ?_
    rotate_left
    · intro w_ hSw; (try dsimp only at hSw); go_simp; (try with_reducible rfl)
    (try simp only [Act.put, List.setIfInBounds_toArray, List.set_cons_zero, List.set_cons_succ])
    -- 62
    refine wpAnyH_take (i := 62) (oi := { dst := some 125, op := Op.binOp BinOp.eql 3 (Operand.tmp 124) (Operand.const (Value.int IntKind.i64 0)) 3, type := 4, pos := "law.go:51", after := #[{ on := 61, ground := Ground.data }, { on := 59, ground := Ground.guard }], guard := some (59, true) }) (v := ?_) rfl (by kernel_rfl) (by kernel_rfl) (by kernel_rfl) (fun _ _ _ h => h) (Or.inl ⟨by rfl, ?_⟩) (by assumption) ?_
    rotate_left
    · intro w_ hSw; (try dsimp only at hSw); go_simp; (try with_reducible rfl)
    (try simp only [Act.put, List.setIfInBounds_toArray, List.set_cons_zero, List.set_cons_succ])
    -- 63
    refine wpAnyH_take (i := 63) (oi := { dst := some 126, op := Op.pick (Operand.tmp 122) (Operand.tmp 125) (Operand.const (Value.bool false)), type := 4, pos := "law.go:51", after := #[{ on := 59, ground := Ground.data }, { on := 62, ground := Ground.data }], guard := none }) (v := ?_) rfl (by kernel_rfl) (by kernel_rfl) (by kernel_rfl) (fun _ _ _ h => h) (Or.inl ⟨by rfl, ?_⟩) (by assumption) ?_
    rotate_left
    · intro w_ hSw; (try dsimp only at hSw); go_simp; (try with_reducible rfl)
    (try simp only [Act.put, List.setIfInBounds_toArray, List.set_cons_zero, List.set_cons_succ])
    -- 64
    refine wpAnyH_take (i := 64) (oi := { dst := some 127, op := Op.move (Operand.tmp 126), type := 4, pos := "law.go:51", after := #[{ on := 63, ground := Ground.data }, { on := 59, ground := Ground.chain }], guard := none }) (v := ?_) rfl (by kernel_rfl) (by kernel_rfl) (by kernel_rfl) (fun _ _ _ h => h) (Or.inl ⟨by rfl, ?_⟩) (by assumption) ?_
    rotate_left
    · intro w_ hSw; (try dsimp only at hSw); go_simp; (try with_reducible rfl)
    (try simp only [Act.put, List.setIfInBounds_toArray, List.set_cons_zero, List.set_cons_succ])
    -- 65
    refine wpAnyH_take (i := 65) (oi := { dst := some 128, op := Op.fieldAddr 26 (Operand.tmp 12) 1, type := 0, pos := "law.go:51", after := #[{ on := 64, ground := Ground.guard }], guard := some (64, true) }) (v := ?_) rfl (by kernel_rfl) (by kernel_rfl) (by kernel_rfl) (fun _ _ _ h => h) (Or.inl ⟨by rfl, ?_⟩) (by assumption) ?_
    rotate_left
    · intro w_ hSw; (try dsimp only at hSw); go_simp; (try with_reducible rfl)
    (try simp only [Act.put, List.setIfInBounds_toArray, List.set_cons_zero, List.set_cons_succ])
    -- 66
    refine wpAnyH_take (i := 66) (oi := { dst := some 129, op := Op.load 3 (Operand.tmp 128), type := 3, pos := "law.go:51", after := #[{ on := 65, ground := Ground.data }, { on := 64, ground := Ground.guard }], guard := some (64, true) }) (v := ?_) rfl (by kernel_rfl) (by kernel_rfl) (by kernel_rfl) (fun _ _ _ h => h) (Or.inl ⟨by rfl, ?_⟩) (by assumption) ?_
    rotate_left
    · intro w_ hSw; (try dsimp only at hSw); go_simp; (try with_reducible rfl)
    (try simp only [Act.put, List.setIfInBounds_toArray, List.set_cons_zero, List.set_cons_succ])
    -- 67
    refine wpAnyH_take (i := 67) (oi := { dst := some 130, op := Op.binOp BinOp.eql 3 (Operand.tmp 129) (Operand.const (Value.int IntKind.i64 0)) 3, type := 4, pos := "law.go:51", after := #[{ on := 66, ground := Ground.data }, { on := 64, ground := Ground.guard }], guard := some (64, true) }) (v := ?_) rfl (by kernel_rfl) (by kernel_rfl) (by kernel_rfl) (fun _ _ _ h => h) (Or.inl ⟨by rfl, ?_⟩) (by assumption) ?_
    rotate_left
    · intro w_ hSw; (try dsimp only at hSw); go_simp; (try with_reducible rfl)
    (try simp only [Act.put, List.setIfInBounds_toArray, List.set_cons_zero, List.set_cons_succ])
    -- 68
    refine wpAnyH_take (i := 68) (oi := { dst := some 131, op := Op.pick (Operand.tmp 127) (Operand.tmp 130) (Operand.const (Value.bool false)), type := 4, pos := "law.go:51", after := #[{ on := 64, ground := Ground.data }, { on := 67, ground := Ground.data }], guard := none }) (v := ?_) rfl (by kernel_rfl) (by kernel_rfl) (by kernel_rfl) (fun _ _ _ h => h) (Or.inl ⟨by rfl, ?_⟩) (by assumption) ?_
    rotate_left
    · intro w_ hSw; (try dsimp only at hSw); go_simp; (try with_reducible rfl)
    (try simp only [Act.put, List.setIfInBounds_toArray, List.set_cons_zero, List.set_cons_succ])
    -- 69
    refine wpAnyH_take (i := 69) (oi := { dst := some 0, op := Op.assign (Operand.tmp 131), type := 4, pos := "law.go:51", after := #[{ on := 68, ground := Ground.data }, { on := 64, ground := Ground.chain }, { on := 0, ground := Ground.phase }, { on := 1, ground := Ground.phase }, { on := 2, ground := Ground.phase }, { on := 3, ground := Ground.phase }, { on := 4, ground := Ground.phase }, { on := 5, ground := Ground.phase }, { on := 6, ground := Ground.phase }, { on := 7, ground := Ground.phase }, { on := 8, ground := Ground.phase }, { on := 9, ground := Ground.phase }, { on := 10, ground := Ground.phase }, { on := 11, ground := Ground.phase }, { on := 12, ground := Ground.phase }, { on := 13, ground := Ground.phase }, { on := 14, ground := Ground.phase }, { on := 15, ground := Ground.phase }, { on := 16, ground := Ground.phase }, { on := 17, ground := Ground.phase }, { on := 18, ground := Ground.phase }, { on := 19, ground := Ground.phase }, { on := 20, ground := Ground.phase }, { on := 21, ground := Ground.phase }, { on := 22, ground := Ground.phase }, { on := 23, ground := Ground.phase }, { on := 24, ground := Ground.phase }, { on := 25, ground := Ground.phase }, { on := 26, ground := Ground.phase }, { on := 27, ground := Ground.phase }, { on := 28, ground := Ground.phase }, { on := 29, ground := Ground.phase }, { on := 30, ground := Ground.phase }, { on := 31, ground := Ground.phase }, { on := 32, ground := Ground.phase }, { on := 33, ground := Ground.phase }, { on := 34, ground := Ground.phase }, { on := 35, ground := Ground.phase }, { on := 36, ground := Ground.phase }, { on := 37, ground := Ground.phase }, { on := 38, ground := Ground.phase }, { on := 39, ground := Ground.phase }, { on := 40, ground := Ground.phase }, { on := 41, ground := Ground.phase }, { on := 42, ground := Ground.phase }, { on := 43, ground := Ground.phase }, { on := 44, ground := Ground.phase }, { on := 45, ground := Ground.phase }, { on := 46, ground := Ground.phase }, { on := 47, ground := Ground.phase }, { on := 48, ground := Ground.phase }, { on := 49, ground := Ground.phase }, { on := 50, ground := Ground.phase }, { on := 51, ground := Ground.phase }, { on := 52, ground := Ground.phase }, { on := 53, ground := Ground.phase }, { on := 54, ground := Ground.phase }, { on := 55, ground := Ground.phase }, { on := 56, ground := Ground.phase }, { on := 57, ground := Ground.phase }, { on := 58, ground := Ground.phase }, { on := 59, ground := Ground.phase }, { on := 60, ground := Ground.phase }, { on := 61, ground := Ground.phase }, { on := 62, ground := Ground.phase }, { on := 63, ground := Ground.phase }, { on := 64, ground := Ground.phase }, { on := 65, ground := Ground.phase }, { on := 66, ground := Ground.phase }, { on := 67, ground := Ground.phase }, { on := 68, ground := Ground.phase }], guard := none }) (v := ?_) rfl (by kernel_rfl) (by kernel_rfl) (by kernel_rfl) (fun _ _ _ h => h) (Or.inl ⟨by rfl, ?_⟩) (by assumption) ?_
    rotate_left
    · intro w_ hSw; (try dsimp only at hSw); go_simp; (try with_reducible rfl)
    (try simp only [Act.put, List.setIfInBounds_toArray, List.set_cons_zero])
    refine wpAnyH_done (by kernel_rfl) ?_ _
    go_wp2
    go_ret
    exact ⟨rfl, hB⟩
end Go.Proofs.Ytpffknlbffnafaa.ch
