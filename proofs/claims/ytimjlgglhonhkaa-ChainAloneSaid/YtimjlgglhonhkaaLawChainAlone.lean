/- ChainAlone: for any deeds by bytes: alone a list is a stack: what is pushed last is popped first; each deed is three steps, an empty one is one. No condition. -/
import Derived.Test.YtimjlgglhonhkaaChainEx
import Derived.Test.YtimjlgglhonhkaaMemOpen
import Derived.Deep.Cut
import Derived.Deep.QuietTactic
import Derived.BigQuiet
namespace Go.Proofs.Ytimjlgglhonhkaa.ch.lawChainAlone
open Go.RowKit Go.WideShapes Go.ChangeShapes Go.ChangeAt Go.Proofs Go.Proofs.Ytimjlgglhonhkaa

/-- numbers of 64 bits, one behind the other, are in no machine's box -/
theorem not_box {w : World} {A : Option Addr} {L c R : Nat} {m : List Int} {d : Cm} (h : Cells w (.slice A L c) m) (h3 : 2 ≤ m.length) (hb : Mb w R d) : 0 < m.length → ∀ y, (Value.slice A L c).ownBlock = some y → y ≠ R := by
  intro _ y hy e
  subst e
  obtain ⟨b0, o0, rfl, -, c0⟩ := cells_at h (k := 0) (by omega)
  obtain ⟨b1, o1, e1, -, c1⟩ := cells_at h (k := 1) (by omega)
  injection e1 with e1; injection e1 with e1 e1'; subst e1; subst e1'
  simp only [Value.ownBlock, Option.some.injEq] at hy
  subst hy
  rw [hb.cell] at c0 c1
  match o0, c0, c1 with
  | 0, c0, _ => simp [mcs] at c0
  | 1, c0, _ => simp [mcs] at c0
  | 2, c0, _ => simp [mcs] at c0
  | 3, c0, _ => simp [mcs] at c0
  | 4, _, c1 => simp [mcs] at c1
  | 5, c0, _ => simp [mcs] at c0
  | 6, c0, _ => simp [mcs] at c0
  | 7, c0, _ => simp [mcs] at c0
  | _ + 8, c0, _ => simp [mcs] at c0
theorem bytes_at {w : World} {A : Option Addr} {n c k : Nat} {l : List Int} (h : Bytes w (.slice A n c) l) (hk : k < l.length) :
    ∃ b off, A = some ⟨b, off, none⟩ ∧ w.cell? ⟨b, off + k, none⟩ = some (.int .u8 l[k]) := by
  obtain ⟨A', c', e, h1, h2, h3⟩ := h
  injection e with e1 e2 e3
  subst e1
  obtain ⟨b, off, rfl, hb, hc⟩ := h3 (by omega)
  refine ⟨b, off, rfl, ?_⟩
  have := hc k l[k] (List.getElem?_eq_getElem hk) 0 (.int .u8 l[k]) rfl
  simpa using this
abbrev cst (L : List Nat) : List Int := L.map fun (x : Nat) => (x : Int)
structure AlAt (w0 : World) (X vv : Nat) (A : Option Addr) (c : Nat) (M : List Int) (B : Option Addr) (Ln cl : Nat) (L : List Nat) (wr : World) : Prop where
  cells : Cells wr (.slice A 42 c) M
  ints : Ints wr (.slice B Ln cl) (cst L)
  below : Below w0.heap.size w0 wr
  len : L.length = Ln
  one : One 40 vv M L
  vx : vv ≤ X
  lx : Ln ≤ X
  le : ∀ y ∈ L, y ≤ X
theorem lay_start : layF (List.replicate 42 0) 0 1 [] = List.replicate 42 0 := by decide +kernel
theorem one_start : One 40 0 (List.replicate 42 0) [] := ⟨by decide, by decide, by decide, by decide +kernel, rfl⟩
theorem Mb.drewN {w : World} {B : Nat} {d : Cm} (h : Mb w B d) (n : Nat) : Mb (w.drewN n) B d := ⟨h.blk⟩

set_option maxRecDepth 100000 in
set_option maxHeartbeats 8000000 in
theorem walk (v : Value) (lb : List Int) (w : World) (h : Bytes w v lb) (hlb : ∀ p ∈ lb, 0 ≤ p ∧ p ≤ 255) : Calls Try.prog 7 #[v] w fun e w' => e = .returned (.bool true) ∧ Below w.heap.size w w' := by
  have hB : Below w.heap.size w w := Below.refl _ _
  obtain ⟨iI, hiI, hzI0, hzI1, hzI2⟩ := info_parts infoI
  have mk42 := run_zero 42 42 rfl (by decide)
  obtain ⟨Ab, cb, rfl, hcb1, hcb2, -⟩ := id h
  unfold maxLen at hcb2
  have GB := hide h
  have HLB := hide hlb
  clear h hlb
  go_enter Try.func7, Try.ntmps7
  go_wp2_with fail
  (with_reducible refine (examples_any _).mono ?_)
  rintro e w0_ ⟨rfl, hb0_⟩
  replace GB := hide (GB.out.below hb0_)
  replace hB := bcall hB hb0_
  obtain ⟨w1_, e1_, hb1_, Z0, S1_⟩ : ∃ w1, w0_.alloc (zc 42) = w1 ∧ Below w0_.heap.size w0_ w1 ∧ Cells w1 (.slice (some ⟨w0_.heap.size, 0, none⟩) 42 42) (List.replicate 42 0) ∧ w1.heap.size = w0_.heap.size + 1 := ⟨_, rfl, bal _ _, zc_cells _ _ (by decide), by simp⟩
  have E1_ := hide e1_
  have S1_ := hide S1_
  clear e1_
  replace Z0 := hide Z0
  replace GB := hide (GB.out.below hb1_)
  replace hB := bcall hB hb1_
  go_wp2_with fail
  rw [E1_.out]
  (with_reducible refine (lay_any _ _ (List.replicate 42 0) [] 0 1 _ Z0.out Sl.nil_ (by decide) (by decide) (List.replicate 42 0) lay_start 42 (by decide)).mono ?_)
  rintro e w2_ ⟨A0, c0, rfl, ⟨p0, q0⟩, G0, hb2_⟩
  replace GB := hide (GB.out.below hb2_)
  replace Z0 := hide (Z0.out.below hb2_)
  replace hB := bcall hB hb2_
  replace G0 := hide G0
  clear Z0 E1_ S1_
  have HST := hide (show AlAt w2_ 0 0 A0 c0 (List.replicate 42 0) none 0 0 [] w2_ from ⟨G0.out, Sl.nil_, Below.refl _ _, rfl, one_start, by omega, by omega, by simp⟩)
  go_wp2
  go_loopw [4, 5, 6] (fun mv lv iv wr => ∃ (X vv : Nat) (A : Option Addr) (c : Nat) (M : List Int) (B : Option Addr) (Ln cl : Nat) (L : List Nat), X ≤ 40 ∧ iv = .int .i64 X ∧ mv = .slice A 42 c ∧ lv = .slice B Ln cl ∧ (42 ≤ c ∧ c ≤ 9223372036854775807) ∧ (Ln ≤ cl ∧ cl ≤ 9223372036854775807) ∧ Hid (AlAt w2_ X vv A c M B Ln cl L wr)) (fun _ _ iv _ => 40 - (Go.RowKit.intOf iv).toNat)
  case atStart => exact ⟨0, 0, A0, c0, _, none, 0, 0, [], by omega, rfl, rfl, rfl, ⟨p0, q0⟩, ⟨by omega, by omega⟩, HST⟩
  case round =>
    obtain ⟨X, vv, A, c, M, B, Ln, cl, L, hX, rfl, rfl, rfl, ⟨hc1, hc2⟩, ⟨hcl1, hcl2⟩, HA⟩ := hrel
    have GBr := hide (GB.out.below HA.out.below)
    have hBr := hide (bcall hB HA.out.below)
    by_cases hlt : X < lb.length
    · by_cases h40 : X < 40
      · obtain ⟨bg, bo, rfl, d0⟩ := bytes_at GBr.out hlt
        have hy := HLB.out _ (List.getElem_mem hlt)
        obtain ⟨y, hyy⟩ : ∃ y, lb[X] = y := ⟨_, rfl⟩
        rw [hyy] at d0 hy
        clear hyy
        obtain ⟨hy1, hy2⟩ := hy
        have h40i : (X : Int) < 40 := by omega
        have hML := HA.out.one.len
        have HBG := hide (show M.length * 8 ≤ 140737488351232 by rw [hML]; omega)
        have HLL := hide HA.out.len
        have hlx := HA.out.lx
        obtain hk1 | hk2 : y % 2 = 0 ∨ y % 2 = 1 := by omega
        · obtain ⟨M1, D1, hr, hout, hon⟩ := one_push HA.out.one (show vv < 1000000 by have := HA.out.vx; omega) (x := X + 1) (by omega) (by omega) (fun hm => by have := HA.out.le _ hm; omega)
          have ek : y % 2 = 0 := by omega
          have ek2 : y.tmod 2 = 0 := by rw [Int.tmod_eq_emod_of_nonneg hy1]; exact ek
          obtain ⟨k1, p1, s1, q1, b1, t1, x1, u1⟩ := D1
          simp only at hout
          subst hout
          have HRR := hide (show runC 9 M ⟨1, 0, 0, 1, 0, (X : Int) + 1, 0, 0⟩ = _ from hr)
          have HON := hide hon
          clear hr hon
          obtain ⟨wz, ez, hbz, MZ⟩ := box_res wr 0 0 0 0 0 0 0 0
          have EZ := hide ez
          replace MZ := hide MZ
          clear ez
          have hszz : wr.heap.size < wz.heap.size := MZ.out.lt
          go_upto_region 12 with (fail)
          rw [EZ.out]
          go_wp2_with fail
          (with_reducible refine (Start_any 1 0 1 ((X : Int) + 1) _).mono ?_)
          rintro e wS ⟨rfl, hbS⟩
          have hb1 := bcall hbz hbS
          replace MZ := hide (MZ.out.below hbS)
          have HC1 := hide (HA.out.cells.below hb1)
          go_wp2_with fail
          (with_reducible refine (run_c 1 0 0 1 0 ((X : Int) + 1) 0 0 _ M _ HC1.out HBG.out 9 M1 k1 p1 s1 q1 b1 t1 x1 1 3 HRR.out 42 hML (by decide) 9 3 rfl rfl).mono ?_)
          rintro e w6 ⟨A1, c1, rfl, ⟨hg1, hg2⟩, hC6, hb6⟩
          have hbr6 := bcall hb1 hb6
          replace MZ := hide (MZ.out.below hb6)
          obtain ⟨a0_, a1, a2, a3, a4, a5, a6, a7⟩ := MZ.out.cells
          obtain ⟨f0, f1, f2, f3, f4, f5, f6, f7⟩ := MZ.out.unfs
          obtain ⟨w7, e7⟩ : ∃ w7, set8 w6 wr.heap.size k1 p1 s1 q1 b1 t1 x1 1 = w7 := ⟨_, rfl⟩
          have HE7 := hide (show ((((((((w6.setCell ⟨wr.heap.size, 0, none⟩ (.int .i64 k1)).setCell ⟨wr.heap.size, 1, none⟩ (.int .i64 p1)).setCell ⟨wr.heap.size, 2, none⟩ (.int .i64 s1)).setCell ⟨wr.heap.size, 3, none⟩ (.int .i64 q1)).setCell ⟨wr.heap.size, 4, none⟩ (.int .u64 b1)).setCell ⟨wr.heap.size, 5, none⟩ (.int .i64 t1)).setCell ⟨wr.heap.size, 6, none⟩ (.int .i64 x1)).setCell ⟨wr.heap.size, 7, none⟩ (.int .i64 1)) = w7 from e7)
          have hb7 : Below wr.heap.size wr w7 := by rw [← e7]; exact set8_below hbr6 (Nat.le_refl _)
          have M7 := hide (show Mb w7 wr.heap.size ⟨k1, p1, s1, q1, b1, t1, x1, 1⟩ by rw [← e7]; exact MZ.out.set8)
          have hM1 : M1.length = 42 := HON.out.len
          have C7 := hide (show Cells w7 (.slice A1 42 c1) M1 by rw [← e7]; exact cells_set8 hC6 (not_box hC6 (by rw [hM1]; omega) MZ.out))
          have I7 := hide (HA.out.ints.below hb7)
          have HB7 := hide (bcall HA.out.below hb7)
          have hs7 : wr.heap.size < w7.heap.size := M7.out.lt
          clear e7 hC6 hb6 hbS hbz hb1 hbr6
          have HLIT := hide (show (w7.alloc (.cells #[.int .i64 ((X : Int) + 1)] 3)).ownsRow w7.heap.size 3 1 (.slice (some ⟨w7.heap.size, 0, none⟩) 1 1) 1 [.int .i64 ((X : Int) + 1)] from own_new w7 w7.heap.size [.int .i64 ((X : Int) + 1)] 3 1 1 (Nat.le_refl _) rfl (by decide))
          have HLC := hide (show (cst L).length = Ln by rw [List.length_map]; exact HLL.out)
          go_upto_region 16 with (fail)
          rw [HE7.out]
          clear a0_ a1 a2 a3 a4 a5 a6 a7 f0 f1 f2 f3 f4 f5 f6 f7
          go_wp2_with (at_builtin; refine wpList_append_sl _ rfl _ _ 34 rfl w7.heap.size 3 iI (.int .i64 0) 1 8 Try.underlying34 hiI hzI0 hzI1 hzI2 rfl (by decide) _ 1 [.int .i64 ((X : Int) + 1)] rfl HLIT.out _ (cst L) rfl (I7.out.alloc _) ic_len (fun _ u hu => by simp [ic] at hu; subst hu; rfl) (by rw [HLC.out]; unfold maxLen; omega) (by rw [HLC.out]; omega) (by simp) ?_)
          intro v8 w8 hown8 hba8
          rw [HLL.out, Nat.add_comm 1 Ln] at hown8
          have HLE := hide (show ∀ z ∈ (X + 1) :: L, z ≤ X + 1 by
            intro z hz
            rcases List.mem_cons.1 hz with rfl | hz
            · omega
            · have := HA.out.le z hz; omega)
          have hb78 : Below w7.heap.size w7 w8 := (bal _ _).trans hba8
          have HL9 := hide (show ((X + 1) :: L).length = Ln + 1 by rw [List.length_cons, HLL.out])
          have I9 := hide (show Ints w8 v8 (cst ((X + 1) :: L)) by refine Sl.of_own ic_len (base := w7.heap.size) (e := 3) ?_; rw [List.length_map, HL9.out]; exact hown8)
          obtain ⟨B9, c9, rfl, hd91, hd92⟩ := own_form hown8
          unfold maxLen at hd92
          replace M7 := hide (M7.out.below hb78)
          replace C7 := hide (C7.out.below hb78)
          replace HB7 := hide (bcall HB7.out hb78)
          clear hown8 hba8 hb78
          have HLST := hide (one_list HON.out (by rw [HL9.out]; omega))
          have HLN := hide (show (cst ((X + 1) :: L)).length = Ln + 1 by rw [List.length_map]; exact HL9.out)
          obtain ⟨a0_, a1, a2, a3, a4, a5, a6, a7⟩ := M7.out.cells
          go_wp2_with fail
          (with_reducible refine (list_any _ M1 0 1 99 _ C7.out (cst ((X + 1) :: L)) HLST.out (Ln + 1) HLN.out).mono ?_)
          rintro e w10 ⟨A10, c10, rfl, ⟨hd1, hd2⟩, J10, hb10⟩
          replace J10 := hide J10
          replace M7 := hide (M7.out.below hb10)
          replace C7 := hide (C7.out.below hb10)
          replace I9 := hide (I9.out.below hb10)
          replace HB7 := hide (bcall HB7.out hb10)
          clear a0_ a1 a2 a3 a4 a5 a6 a7 hb10
          obtain ⟨a0_, a1, a2, a3, a4, a5, a6, a7⟩ := M7.out.cells
          go_wp2_with fail
          (with_reducible refine (ints_yes _ _ (cst ((X + 1) :: L)) (cst ((X + 1) :: L)) rfl _ J10.out I9.out).mono ?_)
          rintro e w11 ⟨rfl, hb11⟩
          replace C7 := hide (C7.out.below hb11)
          replace I9 := hide (I9.out.below hb11)
          replace HB7 := hide (bcall HB7.out hb11)
          clear a0_ a1 a2 a3 a4 a5 a6 a7 hb11
          go_wp2
          go_roundw
          case rel => exact ⟨X + 1, vv + 1, A1, c1, M1, B9, Ln + 1, c9, (X + 1) :: L, by omega, by go_num, rfl, rfl, ⟨hg1, hg2⟩, ⟨by omega, by omega⟩, hide ⟨C7.out, I9.out, HB7.out, HL9.out, HON.out, by have := HA.out.vx; omega, by have := HA.out.lx; omega, HLE.out⟩⟩
          case measure => simp [Go.RowKit.intOf]; omega
        · by_cases hempty : L = []
          · subst hempty
            obtain rfl : Ln = 0 := by have := HA.out.len; simpa using this.symm
            obtain ⟨D1, hr, hout⟩ := one_none HA.out.one ((X : Int) + 1)
            have HL9 := hide (show ([] : List Nat).length = 0 from rfl)
            have ek : y % 2 = 1 := by omega
            have ek2 : y.tmod 2 = 1 := by rw [Int.tmod_eq_emod_of_nonneg hy1]; exact ek
            obtain ⟨k1, p1, s1, q1, b1, t1, x1, u1⟩ := D1
            simp only at hout
            subst hout
            have HRR := hide (show runC 9 M ⟨2, 0, 0, 1, 0, (X : Int) + 1, 0, 0⟩ = _ from hr)
            clear hr
            obtain ⟨wz, ez, hbz, MZ⟩ := box_res wr 0 0 0 0 0 0 0 0
            have EZ := hide ez
            replace MZ := hide MZ
            clear ez
            have hszz : wr.heap.size < wz.heap.size := MZ.out.lt
            go_upto_region 12 with (fail)
            rw [EZ.out]
            go_wp2_with fail
            (with_reducible refine (Start_any 2 0 1 ((X : Int) + 1) _).mono ?_)
            rintro e wS ⟨rfl, hbS⟩
            have hb1 := bcall hbz hbS
            replace MZ := hide (MZ.out.below hbS)
            have HC1 := hide (HA.out.cells.below hb1)
            go_wp2_with fail
            (with_reducible refine (run_c 2 0 0 1 0 ((X : Int) + 1) 0 0 _ M _ HC1.out HBG.out 9 M k1 p1 s1 q1 b1 t1 x1 2 1 HRR.out 42 hML (by decide) 9 1 rfl rfl).mono ?_)
            rintro e w6 ⟨A1, c1, rfl, ⟨hg1, hg2⟩, hC6, hb6⟩
            have hbr6 := bcall hb1 hb6
            replace MZ := hide (MZ.out.below hb6)
            obtain ⟨a0_, a1, a2, a3, a4, a5, a6, a7⟩ := MZ.out.cells
            obtain ⟨f0, f1, f2, f3, f4, f5, f6, f7⟩ := MZ.out.unfs
            obtain ⟨w7, e7⟩ : ∃ w7, set8 w6 wr.heap.size k1 p1 s1 q1 b1 t1 x1 2 = w7 := ⟨_, rfl⟩
            have HE7 := hide (show ((((((((w6.setCell ⟨wr.heap.size, 0, none⟩ (.int .i64 k1)).setCell ⟨wr.heap.size, 1, none⟩ (.int .i64 p1)).setCell ⟨wr.heap.size, 2, none⟩ (.int .i64 s1)).setCell ⟨wr.heap.size, 3, none⟩ (.int .i64 q1)).setCell ⟨wr.heap.size, 4, none⟩ (.int .u64 b1)).setCell ⟨wr.heap.size, 5, none⟩ (.int .i64 t1)).setCell ⟨wr.heap.size, 6, none⟩ (.int .i64 x1)).setCell ⟨wr.heap.size, 7, none⟩ (.int .i64 2)) = w7 from e7)
            have hb7 : Below wr.heap.size wr w7 := by rw [← e7]; exact set8_below hbr6 (Nat.le_refl _)
            have M7 := hide (show Mb w7 wr.heap.size ⟨k1, p1, s1, q1, b1, t1, x1, 2⟩ by rw [← e7]; exact MZ.out.set8)
            have hM1 : M.length = 42 := hML
            have C7 := hide (show Cells w7 (.slice A1 42 c1) M by rw [← e7]; exact cells_set8 hC6 (not_box hC6 (by rw [hM1]; omega) MZ.out))
            have I7 := hide (HA.out.ints.below hb7)
            have HB7 := hide (bcall HA.out.below hb7)
            have hs7 : wr.heap.size < w7.heap.size := M7.out.lt
            clear e7 hC6 hb6 hbS hbz hb1 hbr6
            go_upto_region 16 with (fail)
            rw [HE7.out]
            clear a0_ a1 a2 a3 a4 a5 a6 a7 f0 f1 f2 f3 f4 f5 f6 f7
            obtain ⟨a0_, a1, a2, a3, a4, a5, a6, a7⟩ := M7.out.cells
            have hq0 : ((0 : Int) == 0) = true := by simp
            go_wp2
            go_roundw
            case rel => exact ⟨X + 1, vv, A1, c1, M, B, 0, cl, [], by omega, by go_num, rfl, rfl, ⟨hg1, hg2⟩, ⟨by omega, by omega⟩, hide ⟨C7.out, I7.out, HB7.out, HL9.out, HA.out.one, by have := HA.out.vx; omega, by have := HA.out.lx; omega, by simp⟩⟩
            case measure => simp [Go.RowKit.intOf]; omega
          · obtain ⟨a, l, rfl⟩ : ∃ a l, L = a :: l := by cases L with
              | nil => exact absurd rfl hempty
              | cons a l => exact ⟨a, l, rfl⟩
            obtain ⟨K, rfl⟩ : ∃ K, Ln = K + 1 := ⟨Ln - 1, by have := HA.out.len; simp at this; omega⟩
            clear hempty
            obtain ⟨M1, D1, hr, hout, hx, hon⟩ := one_pop HA.out.one (show vv < 1000000 by have := HA.out.vx; omega) rfl ((X : Int) + 1)
            have ek : y % 2 = 1 := by omega
            have ek2 : y.tmod 2 = 1 := by rw [Int.tmod_eq_emod_of_nonneg hy1]; exact ek
            obtain ⟨k1, p1, s1, q1, b1, t1, x1, u1⟩ := D1
            simp only at hout
            subst hout
            simp only at hx
            subst hx
            have HRR := hide (show runC 9 M ⟨2, 0, 0, 1, 0, (X : Int) + 1, 0, 0⟩ = _ from hr)
            have HON := hide hon
            clear hr hon
            obtain ⟨wz, ez, hbz, MZ⟩ := box_res wr 0 0 0 0 0 0 0 0
            have EZ := hide ez
            replace MZ := hide MZ
            clear ez
            have hszz : wr.heap.size < wz.heap.size := MZ.out.lt
            go_upto_region 12 with (fail)
            rw [EZ.out]
            go_wp2_with fail
            (with_reducible refine (Start_any 2 0 1 ((X : Int) + 1) _).mono ?_)
            rintro e wS ⟨rfl, hbS⟩
            have hb1 := bcall hbz hbS
            replace MZ := hide (MZ.out.below hbS)
            have HC1 := hide (HA.out.cells.below hb1)
            go_wp2_with fail
            (with_reducible refine (run_c 2 0 0 1 0 ((X : Int) + 1) 0 0 _ M _ HC1.out HBG.out 9 M1 k1 p1 s1 q1 b1 (a : Int) x1 1 3 HRR.out 42 hML (by decide) 9 3 rfl rfl).mono ?_)
            rintro e w6 ⟨A1, c1, rfl, ⟨hg1, hg2⟩, hC6, hb6⟩
            have hbr6 := bcall hb1 hb6
            replace MZ := hide (MZ.out.below hb6)
            obtain ⟨a0_, a1, a2, a3, a4, a5, a6, a7⟩ := MZ.out.cells
            obtain ⟨f0, f1, f2, f3, f4, f5, f6, f7⟩ := MZ.out.unfs
            obtain ⟨w7, e7⟩ : ∃ w7, set8 w6 wr.heap.size k1 p1 s1 q1 b1 ((a : Int)) x1 1 = w7 := ⟨_, rfl⟩
            have HE7 := hide (show ((((((((w6.setCell ⟨wr.heap.size, 0, none⟩ (.int .i64 k1)).setCell ⟨wr.heap.size, 1, none⟩ (.int .i64 p1)).setCell ⟨wr.heap.size, 2, none⟩ (.int .i64 s1)).setCell ⟨wr.heap.size, 3, none⟩ (.int .i64 q1)).setCell ⟨wr.heap.size, 4, none⟩ (.int .u64 b1)).setCell ⟨wr.heap.size, 5, none⟩ (.int .i64 ((a : Int)))).setCell ⟨wr.heap.size, 6, none⟩ (.int .i64 x1)).setCell ⟨wr.heap.size, 7, none⟩ (.int .i64 1)) = w7 from e7)
            have hb7 : Below wr.heap.size wr w7 := by rw [← e7]; exact set8_below hbr6 (Nat.le_refl _)
            have M7 := hide (show Mb w7 wr.heap.size ⟨k1, p1, s1, q1, b1, (a : Int), x1, 1⟩ by rw [← e7]; exact MZ.out.set8)
            have hM1 : M1.length = 42 := HON.out.len
            have C7 := hide (show Cells w7 (.slice A1 42 c1) M1 by rw [← e7]; exact cells_set8 hC6 (not_box hC6 (by rw [hM1]; omega) MZ.out))
            have I7 := hide (HA.out.ints.below hb7)
            have HB7 := hide (bcall HA.out.below hb7)
            have hs7 : wr.heap.size < w7.heap.size := M7.out.lt
            clear e7 hC6 hb6 hbS hbz hb1 hbr6
            obtain ⟨bl, ol, e_, -, z0⟩ := ints_at I7.out (k := 0) (by simp)
            subst e_
            have z0 : w7.cell? ⟨bl, ol, none⟩ = some (.int .i64 (a : Int)) := by simpa using z0
            have r1 : (((a : Int)) != ((a : Int))) = false := by simp
            have HL9 := hide (show l.length = K by have := HLL.out; simpa using this)
            have qK : (((K + 1 : Nat) : Int) == 0) = false := by rw [beq_eq_false_iff_ne]; omega
            go_upto_region 16 with (fail)
            rw [HE7.out]
            clear a0_ a1 a2 a3 a4 a5 a6 a7 f0 f1 f2 f3 f4 f5 f6 f7
            obtain ⟨a0_, a1, a2, a3, a4, a5, a6, a7⟩ := M7.out.cells
            go_upto_region 13 with (fail)
            go_quiet (fail)
            replace M7 := hide (fun n => Mb.drewN M7.out n)
            replace C7 := hide (fun n => show Cells (w7.drewN n) _ _ from C7.out)
            replace I7 := hide (fun n => show Ints (w7.drewN n) _ _ from I7.out)
            replace HB7 := hide (fun n => bdrewN HB7.out n)
            by_cases hcl : cl = 1
            · subst hcl
              obtain rfl : K = 0 := by omega
              have I8 := hide (fun n => show Ints (w7.drewN n) (.slice (some ⟨bl, ol, none⟩) 0 0) (cst l) by have h8 := sl_cut0 (j := 1) (I7.out n) (by omega); simpa using h8)
              have HLST := hide (one_list HON.out (by rw [HL9.out]; omega))
              have HLN := hide (show (cst l).length = 0 by rw [List.length_map]; exact HL9.out)
              go_wp2_with fail
              (with_reducible refine (list_any _ M1 0 1 99 _ (C7.out _) (cst l) HLST.out 0 HLN.out).mono ?_)
              rintro e w10 ⟨A10, c10, rfl, ⟨hd1, hd2⟩, J10, hb10⟩
              replace J10 := hide J10
              replace M7 := hide ((M7.out _).below hb10)
              replace C7 := hide ((C7.out _).below hb10)
              replace I8 := hide ((I8.out _).below hb10)
              replace HB7 := hide (bcall (HB7.out _) hb10)
              clear a0_ a1 a2 a3 a4 a5 a6 a7 hb10
              obtain ⟨a0_, a1, a2, a3, a4, a5, a6, a7⟩ := M7.out.cells
              go_wp2_with fail
              (with_reducible refine (ints_yes _ _ (cst l) (cst l) rfl _ J10.out I8.out).mono ?_)
              rintro e w11 ⟨rfl, hb11⟩
              replace C7 := hide (C7.out.below hb11)
              replace I8 := hide (I8.out.below hb11)
              replace HB7 := hide (bcall HB7.out hb11)
              clear a0_ a1 a2 a3 a4 a5 a6 a7 hb11
              have HLE := hide (show ∀ z ∈ l, z ≤ X + 1 from fun z hz => by have := HA.out.le z (List.mem_cons_of_mem _ hz); omega)
              go_wp2
              go_roundw
              case rel => exact ⟨X + 1, vv + 1, A1, c1, M1, some ⟨bl, ol, none⟩, 0, 0, l, by omega, by go_num, rfl, rfl, ⟨hg1, hg2⟩, ⟨by omega, by omega⟩, hide ⟨C7.out, I8.out, HB7.out, HL9.out, HON.out, by have := HA.out.vx; omega, by have := HA.out.lx; omega, HLE.out⟩⟩
              case measure => simp [Go.RowKit.intOf]; omega
            · have hclf : decide (cl = 1) = false := decide_eq_false hcl
              have I8 := hide (fun n => show Ints (w7.drewN n) (.slice (some ⟨bl, ol + 1, none⟩) K (cl - 1)) (cst l) by have h8 := sl_cut (j := 1) (I7.out n) (by omega); simpa [add_none] using h8)
              have HLST := hide (one_list HON.out (by rw [HL9.out]; omega))
              have HLN := hide (show (cst l).length = K by rw [List.length_map]; exact HL9.out)
              go_wp2_with fail
              (with_reducible refine (list_any _ M1 0 1 99 _ (C7.out _) (cst l) HLST.out K HLN.out).mono ?_)
              rintro e w10 ⟨A10, c10, rfl, ⟨hd1, hd2⟩, J10, hb10⟩
              replace J10 := hide J10
              replace M7 := hide ((M7.out _).below hb10)
              replace C7 := hide ((C7.out _).below hb10)
              replace I8 := hide ((I8.out _).below hb10)
              replace HB7 := hide (bcall (HB7.out _) hb10)
              clear a0_ a1 a2 a3 a4 a5 a6 a7 hb10
              obtain ⟨a0_, a1, a2, a3, a4, a5, a6, a7⟩ := M7.out.cells
              go_wp2_with fail
              (with_reducible refine (ints_yes _ _ (cst l) (cst l) rfl _ J10.out I8.out).mono ?_)
              rintro e w11 ⟨rfl, hb11⟩
              replace C7 := hide (C7.out.below hb11)
              replace I8 := hide (I8.out.below hb11)
              replace HB7 := hide (bcall HB7.out hb11)
              clear a0_ a1 a2 a3 a4 a5 a6 a7 hb11
              have HLE := hide (show ∀ z ∈ l, z ≤ X + 1 from fun z hz => by have := HA.out.le z (List.mem_cons_of_mem _ hz); omega)
              go_wp2
              go_roundw
              case rel => exact ⟨X + 1, vv + 1, A1, c1, M1, some ⟨bl, ol + 1, none⟩, K, cl - 1, l, by omega, by go_num, rfl, rfl, ⟨hg1, hg2⟩, ⟨by omega, by omega⟩, hide ⟨C7.out, I8.out, HB7.out, HL9.out, HON.out, by have := HA.out.vx; omega, by have := HA.out.lx; omega, HLE.out⟩⟩
              case measure => simp [Go.RowKit.intOf]; omega
      · have h40' : ¬ (X : Int) < 40 := by omega
        go_wp2
        go_ret
        exact ⟨rfl, hBr.out⟩
    · have hlt' : ¬ (X : Int) < (lb.length : Int) := by omega
      go_wp2
      go_ret
      exact ⟨rfl, hBr.out⟩

set_option maxRecDepth 100000 in
theorem lifted (os : Os) (started : os.Started) (H : Type) (enc : TypeId × Value → H) :
    ReturnsInHanded {} Try.checked os 7 .any (Rows.chainAloneSpec.pre6 enc Try.prog Try.f7 Rows.chainAloneRow.domain false) (Rows.chainAloneSpec.post enc Try.prog Try.f7 false true false false) := by
  refine returnsInHanded_of_change_sized (C := Try.checked) ownL started (by kernel_rfl) Try.func7
    (ChangeSpec.witness6 (enc := enc) (C := Try.checked) false ⟨#[], #[.slice none 0 0], []⟩ 8 (by kernel_rfl) (by kernel_rfl) (by kernel_rfl) (by kernel_rfl)) ?_
  intro W base args ds gs before hval hW _ hsz0 _
  have hW' := hW
  obtain ⟨p, q, hA0, hV, rfl, hfz, hnd⟩ := hW
  have hA : DataW.TrodAll enc Try.prog W 0 (fun _ => true) true Try.f7.params.toList args.toList ds p := hA0
  rw [Try.params7] at hA hval
  obtain ⟨v0, vs0, d0, ds0, p0, q0, hargs, rfl, rfl, h0, r0⟩ := trodAll_cons hA
  obtain ⟨rfl, rfl, rfl⟩ := trodAll_nil r0
  obtain rfl : args = #[v0] := by cases args; simp_all
  obtain ⟨rfl, rfl⟩ := trodVars_none hV
  obtain ⟨l0, hl0, hq0, hd0⟩ := open_bytes (hval 0 61 v0 rfl rfl) h0
  have hsz : (DataW.weightsEach Try.prog [61] ([d0] : List (DataW H))).all (· ≤ reachBytes) = true := hsz0
  have e0 : l0.length * 1 ≤ 140737488351232 := slice_reach hsz 0 rfl rfl Try.underlying61 (by kernel_rfl) hd0
  refine (walk v0 l0 W hl0 hq0).mono fun e W' ⟨he, hg⟩ => ?_
  subst he
  exact ⟨_, rfl, law_post laidOutL (by kernel_rfl) rfl Try.underlying4 rfl ⟨rfl, rfl, rfl⟩ hW' hg⟩

/-- THE STATEMENT -/
theorem proved : Rows.ChainAloneSaid :=
  OpenClaim.holds_of_wide 7 Try.f7 rfl rfl rfl rfl rfl rfl rfl ⟨rfl, rfl, rfl, rfl, rfl⟩ rfl rfl rfl rfl rfl (by kernel_rfl) Try.func7 (by kernel_rfl)
    (of_decide_eq_true (by kernel_rfl)) (by unfold Func.isWrapper; first | (rw [if_pos (by decide +kernel)]; kernel_rfl) | (rw [if_neg (by decide +kernel)]; exact ⟨rfl, rfl⟩))
    (fun os started H enc _ => lifted os started H enc)
end Go.Proofs.Ytimjlgglhonhkaa.ch.lawChainAlone
