/- DequeAlone: for any size, any deeds by bytes: alone a deque is a list: what is pushed last is popped first, what is pushed first is stolen first; full, and empty, are told. No condition. -/
import Derived.Test.YthjdjkcdlknhbaaDequeEx
import Derived.Test.YthjdjkcdlknhbaaDequeAloneP
import Derived.Test.YthjdjkcdlknhbaaMemOpen
namespace Go.Proofs.Ythjdjkcdlknhbaa.lawDequeAlone
open Go.RowKit Go.WideShapes Go.ChangeShapes Go.ChangeAt Go.Proofs Go.Proofs.Ythjdjkcdlknhbaa

theorem run_cu (k p s q b t x u : Int) (v : Value) (m : List Int) (w : World) (h : Cells w v m) (hbig : m.length * 8 ≤ 140737488351232) (hm : AllU m) (hd : McU ⟨k, p, s, q, b, t, x, u⟩) (most : Nat) (M : List Int) (k1 p1 s1 q1 b1 t1 x1 u1 : Int) (N : Nat)
    (hr : runF most m ⟨k, p, s, q, b, t, x, u⟩ = (M, ⟨k1, p1, s1, q1, b1, t1, x1, u1⟩, N)) (n : Nat) (hn : m.length = n) (hmost : most ≤ 1000) (mi Ni : Int) (hmi : (most : Int) = mi) (hNi : (N : Int) = Ni) :
    Calls Try.prog 26 #[v, mvv k p s q b t x u, .int .i64 mi] w fun e w' => ∃ A c, e = .returned (.tuple #[.slice A n c, mvv k1 p1 s1 q1 b1 t1 x1 u1, .int .i64 Ni]) ∧ (n ≤ c ∧ c ≤ 9223372036854775807) ∧ M.length = n ∧ Cells w' (.slice A n c) M ∧ Below w.heap.size w w' ∧ AllU M ∧ McU ⟨k1, p1, s1, q1, b1, t1, x1, u1⟩ := by
  subst hn hmi hNi
  refine (run_any k p s q b t x u v m w h hbig hm hd most hmost).mono ?_
  rw [hr]
  rintro e w' ⟨A, c, rfl, h1, h2, h3, h4, h5, h6⟩
  exact ⟨A, c, rfl, h1, h2, h3, h4, h5, h6⟩
/-- three numbers of 64 bits, one behind the other, are in no machine's box -/
theorem not_box {w : World} {A : Option Addr} {L c R : Nat} {m : List Int} {d : Mc} (h : Cells w (.slice A L c) m) (h3 : 3 ≤ m.length) (hb : Mb w R d) : 0 < m.length → ∀ y, (Value.slice A L c).ownBlock = some y → y ≠ R := by
  intro _ y hy e
  subst e
  obtain ⟨b0, o0, rfl, -, c0⟩ := cells_at h (k := 0) (by omega)
  obtain ⟨b1, o1, e1, -, c1⟩ := cells_at h (k := 1) (by omega)
  obtain ⟨b2, o2, e2, -, c2⟩ := cells_at h (k := 2) (by omega)
  injection e1 with e1; injection e1 with e1 e1'; subst e1; subst e1'
  injection e2 with e2; injection e2 with e2 e2'; subst e2; subst e2'
  simp only [Value.ownBlock, Option.some.injEq] at hy
  subst hy
  rw [hb.cell] at c0 c1 c2
  match o0, c0, c1, c2 with
  | 0, c0, _, _ => simp [mcs] at c0
  | 1, c0, _, _ => simp [mcs] at c0
  | 2, c0, _, _ => simp [mcs] at c0
  | 3, c0, _, _ => simp [mcs] at c0
  | 4, _, _, c2 => simp [mcs] at c2
  | 5, _, c1, _ => simp [mcs] at c1
  | 6, c0, _, _ => simp [mcs] at c0
  | 7, c0, _, _ => simp [mcs] at c0
  | _ + 8, c0, _, _ => simp [mcs] at c0
structure AlAt (w0 : World) (n X : Nat) (A : Option Addr) (c : Nat) (M : List Int) (B : Option Addr) (Ln cl : Nat) (list : List Int) (wr : World) : Prop where
  cells : Cells wr (.slice A (n + 2) c) M
  ints : Ints wr (.slice B Ln cl) list
  below : Below w0.heap.size w0 wr
  len : list.length = Ln
  mlen : M.length = n + 2
  all : AllU M
  al : Al n X M list
theorem bytes_at {w : World} {A : Option Addr} {n c k : Nat} {l : List Int} (h : Bytes w (.slice A n c) l) (hk : k < l.length) :
    ∃ b off, A = some ⟨b, off, none⟩ ∧ w.cell? ⟨b, off + k, none⟩ = some (.int .u8 l[k]) := by
  obtain ⟨A', c', e, h1, h2, h3⟩ := h
  injection e with e1 e2 e3
  subst e1
  obtain ⟨b, off, rfl, hb, hc⟩ := h3 (by omega)
  refine ⟨b, off, rfl, ?_⟩
  have := hc k l[k] (List.getElem?_eq_getElem hk) 0 (.int .u8 l[k]) rfl
  simpa using this
theorem ints_form {w : World} {v : Value} {l : List Int} (h : Ints w v l) : ∃ A c, v = .slice A l.length c ∧ l.length ≤ c ∧ c ≤ 9223372036854775807 := by
  obtain ⟨A, c, rfl, h1, h2, -⟩ := h
  exact ⟨A, c, rfl, h1, by unfold maxLen at h2; omega⟩

set_option maxRecDepth 100000 in
set_option maxHeartbeats 40000000 in
theorem walk (a0 : Int) (v : Value) (lb : List Int) (w : World) (h : Bytes w v lb) (hlb : ∀ p ∈ lb, 0 ≤ p ∧ p ≤ 255) (ha : 0 ≤ a0 ∧ a0 ≤ 255) : Calls Try.prog 6 #[.int .u8 a0, v] w fun e w' => e = .returned (.bool true) ∧ Below w.heap.size w w' := by
  have hB : Below w.heap.size w w := Below.refl _ _
  obtain ⟨iI, hiI, hzI0, hzI1, hzI2⟩ := info_parts infoI
  obtain ⟨Ab, cb, rfl, hcb1, hcb2, -⟩ := id h
  unfold maxLen at hcb2
  have GB := hide h
  have HLB := hide hlb
  obtain ⟨n, hn⟩ : ∃ n : Nat, 1 + a0 % 5 = (n : Int) := ⟨(1 + a0 % 5).toNat, by omega⟩
  have hn1 : 1 ≤ n ∧ n ≤ 5 := by omega
  obtain ⟨ha1, ha2⟩ := ha
  have hn2 : 1 + a0.tmod 5 = (n : Int) := by rw [Int.tmod_eq_emod_of_nonneg ha1]; exact hn
  have HI6 := hide (show I6 (n : Int) by unfold I6; omega)
  have HAL0 := hide (al_start (cap := n) hn1.1 (by omega))
  have HCL := hide (show (cellsF (n : Int)).length = n + 2 by have := cellsF_len (n : Int); omega)
  have HCU := hide (show AllU (cellsF (n : Int)) by intro y hy; unfold cellsF at hy; simp only [List.mem_cons, List.mem_replicate] at hy; rcases hy with rfl | rfl | ⟨-, rfl⟩ <;> simp [U])
  clear h hlb
  go_enter Try.func6, Try.ntmps6
  go_wp2_with fail
  (with_reducible refine (examples_any _).mono ?_)
  rintro e w0_ ⟨rfl, hb0_⟩
  have GB := hide (GB.out.below hb0_)
  have hB := bcall hB hb0_
  go_wp2_with fail
  (with_reducible refine (Cells_any n HI6.out (n + 2) HCL.out _).mono ?_)
  rintro e w1_ ⟨A0, c0, rfl, ⟨p0, q0⟩, G0, hb1_⟩
  have GB := hide (GB.out.below hb1_)
  have hB := bcall hB hb1_
  have G0 := hide G0
  have HST := hide (show AlAt w1_ n 0 A0 c0 (cellsF (n : Int)) none 0 0 [] w1_ from ⟨G0.out, Sl.nil_, Below.refl _ _, rfl, HCL.out, HCU.out, HAL0.out⟩)
  go_wp2
  go_loopw [7, 8, 9] (fun mv lv iv wr => ∃ (X : Nat) (A : Option Addr) (c : Nat) (M : List Int) (B : Option Addr) (Ln cl : Nat) (list : List Int), X ≤ 100 ∧ iv = .int .i64 X ∧ mv = .slice A (n + 2) c ∧ lv = .slice B Ln cl ∧ (n + 2 ≤ c ∧ c ≤ 9223372036854775807) ∧ (Ln ≤ cl ∧ cl ≤ 9223372036854775807) ∧ Ln ≤ n ∧ Hid (AlAt w1_ n X A c M B Ln cl list wr)) (fun _ _ iv _ => 100 - (Go.RowKit.intOf iv).toNat)
  case atStart => exact ⟨0, A0, c0, _, none, 0, 0, [], by omega, rfl, rfl, rfl, ⟨p0, q0⟩, ⟨by omega, by omega⟩, by omega, HST⟩
  case round =>
    obtain ⟨X, A, c, M, B, Ln, cl, list, hX, rfl, rfl, rfl, ⟨hc1, hc2⟩, ⟨hcl1, hcl2⟩, hLn, HA⟩ := hrel
    have GBr := hide (GB.out.below HA.out.below)
    have hBr := hide (bcall hB HA.out.below)
    by_cases hlt : X < lb.length
    · by_cases h100 : X < 100
      · obtain ⟨bg, bo, rfl, d0⟩ := bytes_at GBr.out hlt
        have hy := HLB.out _ (List.getElem_mem hlt)
        obtain ⟨y, hyy⟩ : ∃ y, lb[X] = y := ⟨_, rfl⟩
        rw [hyy] at d0 hy
        clear hyy
        obtain ⟨hy1, hy2⟩ := hy
        have h100i : (X : Int) < 100 := by omega
        have HBG := hide (show M.length * 8 ≤ 140737488351232 by rw [HA.out.mlen]; omega)
        have HLL := hide HA.out.len
        obtain hk1 | hk2 | hk3 : y % 3 = 0 ∨ y % 3 = 1 ∨ y % 3 = 2 := by omega
        · by_cases hfull : list.length = n
          · obtain ⟨D1, N1, hr, hout, hx, hal⟩ := al_full HA.out.al hX hfull
            have ek : y % 3 = 0 := by omega
            have ek2 : y.tmod 3 = 0 := by rw [Int.tmod_eq_emod_of_nonneg hy1]; exact ek
            have HSU := hide (show McU ⟨1, 0, 0, (n : Int), 0, 0, (X : Int) + 1, 0⟩ from start_U (by unfold I6; omega) (by unfold I6; omega) HI6.out (by unfold I6; omega))
            obtain ⟨k1, p1, s1, q1, b1, t1, x1, u1⟩ := D1
            simp only at hout hx
            subst hout
            have hx := hx.symm
            subst hx
            have HRR := hide (show runF 20 M ⟨1, 0, 0, (n : Int), 0, 0, (X : Int) + 1, 0⟩ = _ from hr)
            have HAL := hide hal
            clear hr hal
            obtain ⟨wz, ez, hbz, MZ⟩ := box_res wr 0 0 0 0 0 0 0 0
            have EZ := hide ez
            have MZ := hide MZ
            clear ez
            have hszz : wr.heap.size < wz.heap.size := MZ.out.lt
            go_upto_region 12 with (fail)
            rw [EZ.out]
            go_wp2_with fail
            (with_reducible refine (Start_any 1 0 n ((X : Int) + 1) _).mono ?_)
            rintro e wS ⟨rfl, hbS⟩
            have hb1 := bcall hbz hbS
            have MZ := hide (MZ.out.below hbS)
            have HC1 := hide (HA.out.cells.below hb1)
            go_wp2_with fail
            (with_reducible refine (run_cu 1 0 0 n 0 0 ((X : Int) + 1) 0 _ M _ HC1.out HBG.out HA.out.all HSU.out 20 M k1 p1 s1 q1 b1 t1 ((X : Int) + 1) 3 _ HRR.out (n + 2) HA.out.mlen (by decide) 20 _ rfl rfl).mono ?_)
            rintro e w6 ⟨A1, c1, rfl, ⟨hg1, hg2⟩, hml, hC6, hb6, hAU, hMU⟩
            have hbr6 := bcall hb1 hb6
            have MZ := hide (MZ.out.below hb6)
            obtain ⟨a0_, a1, a2, a3, a4, a5, a6, a7⟩ := MZ.out.cells
            obtain ⟨f0, f1, f2, f3, f4, f5, f6, f7⟩ := MZ.out.unfs
            obtain ⟨w7, e7⟩ : ∃ w7, set8 w6 wr.heap.size k1 p1 s1 q1 b1 t1 ((X : Int) + 1) 3 = w7 := ⟨_, rfl⟩
            have HE7 := hide (show (((((((w6.setCell ⟨wr.heap.size, 0, none⟩ (.int .i64 k1)).setCell ⟨wr.heap.size, 1, none⟩ (.int .i64 p1)).setCell ⟨wr.heap.size, 2, none⟩ (.int .i64 s1)).setCell ⟨wr.heap.size, 3, none⟩ (.int .i64 q1)).setCell ⟨wr.heap.size, 4, none⟩ (.int .u64 b1)).setCell ⟨wr.heap.size, 5, none⟩ (.int .u64 t1)).setCell ⟨wr.heap.size, 6, none⟩ (.int .i64 ((X : Int) + 1))).setCell ⟨wr.heap.size, 7, none⟩ (.int .i64 3) = w7 from e7)
            have hb7 : Below wr.heap.size wr w7 := by rw [← e7]; exact set8_below hbr6 (Nat.le_refl _)
            have M7 := hide (show Mb w7 wr.heap.size ⟨k1, p1, s1, q1, b1, t1, (X : Int) + 1, 3⟩ by rw [← e7]; exact MZ.out.set8)
            have C7 := hide (show Cells w7 (.slice A1 (n + 2) c1) M by rw [← e7]; exact cells_set8 hC6 (not_box hC6 (by rw [hml]; omega) MZ.out))
            have I7 := hide (HA.out.ints.below hb7)
            have HB7 := hide (bcall HA.out.below hb7)
            have HAU := hide hAU
            have HMU := hide hMU
            have HML := hide hml
            have HBG1 := hide (show M.length * 8 ≤ 140737488351232 by rw [hml]; omega)
            have hs7 : wr.heap.size < w7.heap.size := M7.out.lt
            clear e7 hC6 hb6 hAU hMU hml hbS hbz hb1 hbr6
            go_upto_region 13 with (fail)
            rw [HE7.out]
            clear a0_ a1 a2 a3 a4 a5 a6 a7 f0 f1 f2 f3 f4 f5 f6 f7
            obtain ⟨a0_, a1, a2, a3, a4, a5, a6, a7⟩ := M7.out.cells
            have hneq : ((((X : Int) + 1) != ((X : Int) + 1))) = false := by simp
            have hq : ((Ln : Int) == (n : Int)) = true := by rw [beq_iff_eq]; have hL2 := HLL.out; omega
            have HAI := hide (al_items HAL.out (by omega) (o := ⟨0, 0, 0, 0, 0, 0, 0, 0⟩) (.inr (by decide)))
            have HAI2 := hide (al_items HAL.out (by omega) (o := ⟨k1, p1, s1, q1, b1, t1, (X : Int) + 1, 3⟩) (.inl (by simp)))
            have hln := al_len HAL.out
            rw [HA.out.len] at hln
            go_wp2_with fail
            (with_reducible refine (Items_any 0 0 0 0 0 0 0 0 _ M 0 n _ C7.out HAU.out HBG1.out (by unfold I6; omega) HI6.out list HAI.out Ln (HA.out.len)).mono ?_)
            rintro e w10 ⟨A10, c10, rfl, ⟨hd1, hd2⟩, -, hb10⟩
            have M7 := hide (M7.out.below hb10)
            have C7 := hide (C7.out.below hb10)
            have I7 := hide (I7.out.below hb10)
            have HB7 := hide (bcall HB7.out hb10)
            clear a0_ a1 a2 a3 a4 a5 a6 a7 hd1 hd2 hb10
            obtain ⟨a0_, a1, a2, a3, a4, a5, a6, a7⟩ := M7.out.cells
            go_wp2_with fail
            (with_reducible refine (Items_any k1 p1 s1 q1 b1 t1 ((X : Int) + 1) 3 _ M 0 n _ C7.out HAU.out HBG1.out (by unfold I6; omega) HI6.out list HAI2.out Ln (HA.out.len)).mono ?_)
            rintro e w11 ⟨A11, c11, rfl, ⟨hd1, hd2⟩, J11, hb11⟩
            have C7 := hide (C7.out.below hb11)
            have I7 := hide (I7.out.below hb11)
            have HB7 := hide (bcall HB7.out hb11)
            have J11 := hide J11
            clear a0_ a1 a2 a3 a4 a5 a6 a7 hb11
            go_wp2
            go_loopw [15] (fun iv wr2 => ∃ K2 : Nat, K2 ≤ Ln ∧ iv = .int .i64 K2 ∧ Below w11.heap.size w11 wr2) (fun iv _ => Ln - (Go.RowKit.intOf iv).toNat)
            case atStart => exact ⟨0, Nat.zero_le _, rfl, Below.refl _ _⟩
            case round =>
              obtain ⟨K2, hK2, rfl, hbw2⟩ := hrel
              by_cases hlt2 : K2 < Ln
              · have hl2 : K2 < list.length := by rw [HA.out.len]; exact hlt2
                obtain ⟨g1, o1, rfl, -, z1⟩ := ints_at (J11.out.below hbw2) hl2
                obtain ⟨g2, o2, e2, -, z2⟩ := ints_at (I7.out.below hbw2) hl2
                subst e2
                generalize list[K2] = zz at *
                have r1 : (zz != zz) = false := by simp
                go_wp2
                go_quiet (fail)
                go_wp2
                go_roundw
                case rel => exact ⟨K2 + 1, by omega, by go_num, bdrewN hbw2 _⟩
                case measure => simp [Go.RowKit.intOf]; omega
              · have hCw := hide (C7.out.below hbw2)
                have hIw := hide (I7.out.below hbw2)
                have hBw := hide (bcall HB7.out hbw2)
                go_wp2
                go_roundw
                case rel => exact ⟨X + 1, A1, c1, M, B, Ln, cl, list, by omega, by go_num, rfl, rfl, ⟨hg1, hg2⟩, ⟨by omega, by omega⟩, hln, hide ⟨hCw.out, hIw.out, hBw.out, HA.out.len, HML.out, HAU.out, HAL.out⟩⟩
                case measure => simp [Go.RowKit.intOf]; omega
          · obtain ⟨M1, D1, N1, hr, hout, hx, hal⟩ := al_push HA.out.al hX hfull
            have ek : y % 3 = 0 := by omega
            have ek2 : y.tmod 3 = 0 := by rw [Int.tmod_eq_emod_of_nonneg hy1]; exact ek
            have HSU := hide (show McU ⟨1, 0, 0, (n : Int), 0, 0, (X : Int) + 1, 0⟩ from start_U (by unfold I6; omega) (by unfold I6; omega) HI6.out (by unfold I6; omega))
            obtain ⟨k1, p1, s1, q1, b1, t1, x1, u1⟩ := D1
            simp only at hout hx
            subst hout
            have hx := hx.symm
            subst hx
            have HRR := hide (show runF 20 M ⟨1, 0, 0, (n : Int), 0, 0, (X : Int) + 1, 0⟩ = _ from hr)
            have HAL := hide hal
            clear hr hal
            obtain ⟨wz, ez, hbz, MZ⟩ := box_res wr 0 0 0 0 0 0 0 0
            have EZ := hide ez
            have MZ := hide MZ
            clear ez
            have hszz : wr.heap.size < wz.heap.size := MZ.out.lt
            go_upto_region 12 with (fail)
            rw [EZ.out]
            go_wp2_with fail
            (with_reducible refine (Start_any 1 0 n ((X : Int) + 1) _).mono ?_)
            rintro e wS ⟨rfl, hbS⟩
            have hb1 := bcall hbz hbS
            have MZ := hide (MZ.out.below hbS)
            have HC1 := hide (HA.out.cells.below hb1)
            go_wp2_with fail
            (with_reducible refine (run_cu 1 0 0 n 0 0 ((X : Int) + 1) 0 _ M _ HC1.out HBG.out HA.out.all HSU.out 20 M1 k1 p1 s1 q1 b1 t1 ((X : Int) + 1) 1 _ HRR.out (n + 2) HA.out.mlen (by decide) 20 _ rfl rfl).mono ?_)
            rintro e w6 ⟨A1, c1, rfl, ⟨hg1, hg2⟩, hml, hC6, hb6, hAU, hMU⟩
            have hbr6 := bcall hb1 hb6
            have MZ := hide (MZ.out.below hb6)
            obtain ⟨a0_, a1, a2, a3, a4, a5, a6, a7⟩ := MZ.out.cells
            obtain ⟨f0, f1, f2, f3, f4, f5, f6, f7⟩ := MZ.out.unfs
            obtain ⟨w7, e7⟩ : ∃ w7, set8 w6 wr.heap.size k1 p1 s1 q1 b1 t1 ((X : Int) + 1) 1 = w7 := ⟨_, rfl⟩
            have HE7 := hide (show (((((((w6.setCell ⟨wr.heap.size, 0, none⟩ (.int .i64 k1)).setCell ⟨wr.heap.size, 1, none⟩ (.int .i64 p1)).setCell ⟨wr.heap.size, 2, none⟩ (.int .i64 s1)).setCell ⟨wr.heap.size, 3, none⟩ (.int .i64 q1)).setCell ⟨wr.heap.size, 4, none⟩ (.int .u64 b1)).setCell ⟨wr.heap.size, 5, none⟩ (.int .u64 t1)).setCell ⟨wr.heap.size, 6, none⟩ (.int .i64 ((X : Int) + 1))).setCell ⟨wr.heap.size, 7, none⟩ (.int .i64 1) = w7 from e7)
            have hb7 : Below wr.heap.size wr w7 := by rw [← e7]; exact set8_below hbr6 (Nat.le_refl _)
            have M7 := hide (show Mb w7 wr.heap.size ⟨k1, p1, s1, q1, b1, t1, (X : Int) + 1, 1⟩ by rw [← e7]; exact MZ.out.set8)
            have C7 := hide (show Cells w7 (.slice A1 (n + 2) c1) M1 by rw [← e7]; exact cells_set8 hC6 (not_box hC6 (by rw [hml]; omega) MZ.out))
            have I7 := hide (HA.out.ints.below hb7)
            have HB7 := hide (bcall HA.out.below hb7)
            have HAU := hide hAU
            have HMU := hide hMU
            have HML := hide hml
            have HBG1 := hide (show M1.length * 8 ≤ 140737488351232 by rw [hml]; omega)
            have hs7 : wr.heap.size < w7.heap.size := M7.out.lt
            clear e7 hC6 hb6 hAU hMU hml hbS hbz hb1 hbr6
            go_upto_region 13 with (fail)
            rw [HE7.out]
            clear a0_ a1 a2 a3 a4 a5 a6 a7 f0 f1 f2 f3 f4 f5 f6 f7
            obtain ⟨a0_, a1, a2, a3, a4, a5, a6, a7⟩ := M7.out.cells
            have hneq : ((((X : Int) + 1) != ((X : Int) + 1))) = false := by simp
            have hq : ((Ln : Int) == (n : Int)) = false := by rw [beq_eq_false_iff_ne]; have hL2 := HLL.out; omega
            go_wp2_with (at_builtin; refine wpList_append_sl _ rfl _ _ 34 rfl w7.heap.size 3 iI (.int .i64 0) 1 8 Try.underlying34 hiI hzI0 hzI1 hzI2 rfl (by decide) _ _ _ rfl (World.ownsRow_nil _ _ _ _) _ list rfl I7.out ic_len (fun _ u hu => by simp [ic] at hu; subst hu; rfl) (by rw [HLL.out]; unfold maxLen; omega) (by rw [HLL.out]; omega) (by simp) ?_)
            intro v8 w8 hown8 hba8
            have HO8 := hide (show w8.ownsRow w7.heap.size 3 1 v8 Ln (list.flatMap ic) by rw [← HLL.out]; simpa using hown8)
            have hs8 := hba8.size
            clear hown8
            go_wp2_with (at_builtin; refine wpList_append_own _ rfl _ _ 34 rfl w7.heap.size 3 iI (.int .i64 0) 1 8 Try.underlying34 hiI hzI0 hzI1 hzI2 rfl (by decide) _ _ _ rfl (HO8.out.alloc _) ⟨_, 0, none⟩ 1 1 [.int .i64 ((X : Int) + 1)] rfl rfl (row_at _ _ _ (by simp)) (by simp [Value.oneCell']) (by simp only [maxLen]; omega) (by omega) (by simp; omega) ?_)
            intro v9 w9 hown9 hgrow9 _
            have hb79 : Below w7.heap.size w7 w9 := (hba8.alloc hs8 _).grown hgrow9 (by simp; omega) (own_ge HO8.out)
            have HI9 := hide (show Ints w9 v9 (list ++ [(X : Int) + 1]) by refine Sl.of_own ic_len (base := w7.heap.size) (e := 3) ?_; rw [List.length_append, HLL.out, List.flatMap_append]; exact hown9)
            obtain ⟨B9, c9, rfl, hd91, hd92⟩ := own_form hown9
            unfold maxLen at hd92
            have HL9 := hide (show (list ++ [(X : Int) + 1]).length = Ln + 1 by rw [List.length_append, HLL.out]; rfl)
            have M7 := hide (M7.out.below hb79)
            have C7 := hide (C7.out.below hb79)
            have HB7 := hide (bcall HB7.out hb79)
            clear hown9 hgrow9 hba8 a0_ a1 a2 a3 a4 a5 a6 a7
            obtain ⟨a0_, a1, a2, a3, a4, a5, a6, a7⟩ := M7.out.cells
            have HAI := hide (al_items HAL.out (by omega) (o := ⟨0, 0, 0, 0, 0, 0, 0, 0⟩) (.inr (by decide)))
            have HAI2 := hide (al_items HAL.out (by omega) (o := ⟨k1, p1, s1, q1, b1, t1, (X : Int) + 1, 1⟩) (.inl (by simp)))
            have hln := al_len HAL.out
            rw [HL9.out] at hln
            go_wp2_with fail
            (with_reducible refine (Items_any 0 0 0 0 0 0 0 0 _ M1 0 n _ C7.out HAU.out HBG1.out (by unfold I6; omega) HI6.out (list ++ [(X : Int) + 1]) HAI.out (Ln + 1) (HL9.out)).mono ?_)
            rintro e w10 ⟨A10, c10, rfl, ⟨hd1, hd2⟩, -, hb10⟩
            have M7 := hide (M7.out.below hb10)
            have C7 := hide (C7.out.below hb10)
            have HI9 := hide (HI9.out.below hb10)
            have HB7 := hide (bcall HB7.out hb10)
            clear a0_ a1 a2 a3 a4 a5 a6 a7 hd1 hd2 hb10
            obtain ⟨a0_, a1, a2, a3, a4, a5, a6, a7⟩ := M7.out.cells
            go_wp2_with fail
            (with_reducible refine (Items_any k1 p1 s1 q1 b1 t1 ((X : Int) + 1) 1 _ M1 0 n _ C7.out HAU.out HBG1.out (by unfold I6; omega) HI6.out (list ++ [(X : Int) + 1]) HAI2.out (Ln + 1) (HL9.out)).mono ?_)
            rintro e w11 ⟨A11, c11, rfl, ⟨hd1, hd2⟩, J11, hb11⟩
            have C7 := hide (C7.out.below hb11)
            have HI9 := hide (HI9.out.below hb11)
            have HB7 := hide (bcall HB7.out hb11)
            have J11 := hide J11
            clear a0_ a1 a2 a3 a4 a5 a6 a7 hb11
            go_wp2
            go_loopw [15] (fun iv wr2 => ∃ K2 : Nat, K2 ≤ (Ln + 1) ∧ iv = .int .i64 K2 ∧ Below w11.heap.size w11 wr2) (fun iv _ => (Ln + 1) - (Go.RowKit.intOf iv).toNat)
            case atStart => exact ⟨0, Nat.zero_le _, rfl, Below.refl _ _⟩
            case round =>
              obtain ⟨K2, hK2, rfl, hbw2⟩ := hrel
              by_cases hlt2 : K2 < (Ln + 1)
              · have hl2 : K2 < (list ++ [(X : Int) + 1]).length := by rw [HL9.out]; exact hlt2
                obtain ⟨g1, o1, rfl, -, z1⟩ := ints_at (J11.out.below hbw2) hl2
                obtain ⟨g2, o2, e2, -, z2⟩ := ints_at (HI9.out.below hbw2) hl2
                subst e2
                generalize (list ++ [(X : Int) + 1])[K2] = zz at *
                have r1 : (zz != zz) = false := by simp
                go_wp2
                go_quiet (fail)
                go_wp2
                go_roundw
                case rel => exact ⟨K2 + 1, by omega, by go_num, bdrewN hbw2 _⟩
                case measure => simp [Go.RowKit.intOf]; omega
              · have hCw := hide (C7.out.below hbw2)
                have hIw := hide (HI9.out.below hbw2)
                have hBw := hide (bcall HB7.out hbw2)
                go_wp2
                go_roundw
                case rel => exact ⟨X + 1, A1, c1, M1, B9, (Ln + 1), c9, (list ++ [(X : Int) + 1]), by omega, by go_num, rfl, rfl, ⟨hg1, hg2⟩, ⟨by omega, by omega⟩, hln, hide ⟨hCw.out, hIw.out, hBw.out, HL9.out, HML.out, HAU.out, HAL.out⟩⟩
                case measure => simp [Go.RowKit.intOf]; omega
        · by_cases hempty : list = []
          · subst hempty
            obtain rfl : Ln = 0 := by have := HA.out.len; simpa using this.symm
            obtain ⟨D1, N1, hr, hout, hx, hal⟩ := al_pop0 HA.out.al hX ((X : Int) + 1)
            have ek : y % 3 = 1 := by omega
            have ek2 : y.tmod 3 = 1 := by rw [Int.tmod_eq_emod_of_nonneg hy1]; exact ek
            have HSU := hide (show McU ⟨2, 0, 0, (n : Int), 0, 0, (X : Int) + 1, 0⟩ from start_U (by unfold I6; omega) (by unfold I6; omega) HI6.out (by unfold I6; omega))
            obtain ⟨k1, p1, s1, q1, b1, t1, x1, u1⟩ := D1
            simp only at hout hx
            subst hout
            have hx := hx.symm
            subst hx
            have HRR := hide (show runF 20 M ⟨2, 0, 0, (n : Int), 0, 0, (X : Int) + 1, 0⟩ = _ from hr)
            have HAL := hide hal
            clear hr hal
            obtain ⟨wz, ez, hbz, MZ⟩ := box_res wr 0 0 0 0 0 0 0 0
            have EZ := hide ez
            have MZ := hide MZ
            clear ez
            have hszz : wr.heap.size < wz.heap.size := MZ.out.lt
            go_upto_region 12 with (fail)
            rw [EZ.out]
            go_wp2_with fail
            (with_reducible refine (Start_any 2 0 n ((X : Int) + 1) _).mono ?_)
            rintro e wS ⟨rfl, hbS⟩
            have hb1 := bcall hbz hbS
            have MZ := hide (MZ.out.below hbS)
            have HC1 := hide (HA.out.cells.below hb1)
            go_wp2_with fail
            (with_reducible refine (run_cu 2 0 0 n 0 0 ((X : Int) + 1) 0 _ M _ HC1.out HBG.out HA.out.all HSU.out 20 M k1 p1 s1 q1 b1 t1 0 2 _ HRR.out (n + 2) HA.out.mlen (by decide) 20 _ rfl rfl).mono ?_)
            rintro e w6 ⟨A1, c1, rfl, ⟨hg1, hg2⟩, hml, hC6, hb6, hAU, hMU⟩
            have hbr6 := bcall hb1 hb6
            have MZ := hide (MZ.out.below hb6)
            obtain ⟨a0_, a1, a2, a3, a4, a5, a6, a7⟩ := MZ.out.cells
            obtain ⟨f0, f1, f2, f3, f4, f5, f6, f7⟩ := MZ.out.unfs
            obtain ⟨w7, e7⟩ : ∃ w7, set8 w6 wr.heap.size k1 p1 s1 q1 b1 t1 0 2 = w7 := ⟨_, rfl⟩
            have HE7 := hide (show (((((((w6.setCell ⟨wr.heap.size, 0, none⟩ (.int .i64 k1)).setCell ⟨wr.heap.size, 1, none⟩ (.int .i64 p1)).setCell ⟨wr.heap.size, 2, none⟩ (.int .i64 s1)).setCell ⟨wr.heap.size, 3, none⟩ (.int .i64 q1)).setCell ⟨wr.heap.size, 4, none⟩ (.int .u64 b1)).setCell ⟨wr.heap.size, 5, none⟩ (.int .u64 t1)).setCell ⟨wr.heap.size, 6, none⟩ (.int .i64 0)).setCell ⟨wr.heap.size, 7, none⟩ (.int .i64 2) = w7 from e7)
            have hb7 : Below wr.heap.size wr w7 := by rw [← e7]; exact set8_below hbr6 (Nat.le_refl _)
            have M7 := hide (show Mb w7 wr.heap.size ⟨k1, p1, s1, q1, b1, t1, 0, 2⟩ by rw [← e7]; exact MZ.out.set8)
            have C7 := hide (show Cells w7 (.slice A1 (n + 2) c1) M by rw [← e7]; exact cells_set8 hC6 (not_box hC6 (by rw [hml]; omega) MZ.out))
            have I7 := hide (HA.out.ints.below hb7)
            have HB7 := hide (bcall HA.out.below hb7)
            have HAU := hide hAU
            have HMU := hide hMU
            have HML := hide hml
            have HBG1 := hide (show M.length * 8 ≤ 140737488351232 by rw [hml]; omega)
            have hs7 : wr.heap.size < w7.heap.size := M7.out.lt
            clear e7 hC6 hb6 hAU hMU hml hbS hbz hb1 hbr6
            go_upto_region 13 with (fail)
            rw [HE7.out]
            clear a0_ a1 a2 a3 a4 a5 a6 a7 f0 f1 f2 f3 f4 f5 f6 f7
            obtain ⟨a0_, a1, a2, a3, a4, a5, a6, a7⟩ := M7.out.cells
            have hneq : ((0 : Int) != 0) = false := by simp
            have HAI := hide (al_items HAL.out (by omega) (o := ⟨0, 0, 0, 0, 0, 0, 0, 0⟩) (.inr (by decide)))
            have HAI2 := hide (al_items HAL.out (by omega) (o := ⟨k1, p1, s1, q1, b1, t1, 0, 2⟩) (.inl (by simp)))
            have hln := al_len HAL.out
            simp only [List.length_nil] at hln
            go_wp2_with fail
            (with_reducible refine (Items_any 0 0 0 0 0 0 0 0 _ M 0 n _ C7.out HAU.out HBG1.out (by unfold I6; omega) HI6.out [] HAI.out 0 rfl).mono ?_)
            rintro e w10 ⟨A10, c10, rfl, ⟨hd1, hd2⟩, -, hb10⟩
            have M7 := hide (M7.out.below hb10)
            have C7 := hide (C7.out.below hb10)
            have I7 := hide (I7.out.below hb10)
            have HB7 := hide (bcall HB7.out hb10)
            clear a0_ a1 a2 a3 a4 a5 a6 a7 hd1 hd2 hb10
            obtain ⟨a0_, a1, a2, a3, a4, a5, a6, a7⟩ := M7.out.cells
            go_wp2_with fail
            (with_reducible refine (Items_any k1 p1 s1 q1 b1 t1 0 2 _ M 0 n _ C7.out HAU.out HBG1.out (by unfold I6; omega) HI6.out [] HAI2.out 0 rfl).mono ?_)
            rintro e w11 ⟨A11, c11, rfl, ⟨hd1, hd2⟩, J11, hb11⟩
            have C7 := hide (C7.out.below hb11)
            have I7 := hide (I7.out.below hb11)
            have HB7 := hide (bcall HB7.out hb11)
            have J11 := hide J11
            clear a0_ a1 a2 a3 a4 a5 a6 a7 hb11
            go_wp2
            go_loopw [15] (fun iv wr2 => ∃ K2 : Nat, K2 ≤ 0 ∧ iv = .int .i64 K2 ∧ Below w11.heap.size w11 wr2) (fun iv _ => 0 - (Go.RowKit.intOf iv).toNat)
            case atStart => exact ⟨0, Nat.zero_le _, rfl, Below.refl _ _⟩
            case round =>
              obtain ⟨K2, hK2, rfl, hbw2⟩ := hrel
              by_cases hlt2 : K2 < 0
              · exact absurd hlt2 (by omega)
              · have hCw := hide (C7.out.below hbw2)
                have hIw := hide (I7.out.below hbw2)
                have hBw := hide (bcall HB7.out hbw2)
                go_wp2
                go_roundw
                case rel => exact ⟨X + 1, A1, c1, M, B, 0, cl, [], by omega, by go_num, rfl, rfl, ⟨hg1, hg2⟩, ⟨by omega, by omega⟩, hln, hide ⟨hCw.out, hIw.out, hBw.out, rfl, HML.out, HAU.out, HAL.out⟩⟩
                case measure => simp [Go.RowKit.intOf]; omega
          · obtain ⟨M1, D1, N1, l', z, rfl, hr, hout, hx, hal⟩ := al_pop HA.out.al hX hempty ((X : Int) + 1)
            obtain ⟨K, rfl⟩ : ∃ K, Ln = K + 1 := ⟨Ln - 1, by have := HA.out.len; simp at this; omega⟩
            clear hempty
            have ek : y % 3 = 1 := by omega
            have ek2 : y.tmod 3 = 1 := by rw [Int.tmod_eq_emod_of_nonneg hy1]; exact ek
            have HSU := hide (show McU ⟨2, 0, 0, (n : Int), 0, 0, (X : Int) + 1, 0⟩ from start_U (by unfold I6; omega) (by unfold I6; omega) HI6.out (by unfold I6; omega))
            obtain ⟨k1, p1, s1, q1, b1, t1, x1, u1⟩ := D1
            simp only at hout hx
            subst hout
            have hx := hx.symm
            subst hx
            have HRR := hide (show runF 20 M ⟨2, 0, 0, (n : Int), 0, 0, (X : Int) + 1, 0⟩ = _ from hr)
            have HAL := hide hal
            clear hr hal
            obtain ⟨wz, ez, hbz, MZ⟩ := box_res wr 0 0 0 0 0 0 0 0
            have EZ := hide ez
            have MZ := hide MZ
            clear ez
            have hszz : wr.heap.size < wz.heap.size := MZ.out.lt
            go_upto_region 12 with (fail)
            rw [EZ.out]
            go_wp2_with fail
            (with_reducible refine (Start_any 2 0 n ((X : Int) + 1) _).mono ?_)
            rintro e wS ⟨rfl, hbS⟩
            have hb1 := bcall hbz hbS
            have MZ := hide (MZ.out.below hbS)
            have HC1 := hide (HA.out.cells.below hb1)
            go_wp2_with fail
            (with_reducible refine (run_cu 2 0 0 n 0 0 ((X : Int) + 1) 0 _ M _ HC1.out HBG.out HA.out.all HSU.out 20 M1 k1 p1 s1 q1 b1 t1 z 1 _ HRR.out (n + 2) HA.out.mlen (by decide) 20 _ rfl rfl).mono ?_)
            rintro e w6 ⟨A1, c1, rfl, ⟨hg1, hg2⟩, hml, hC6, hb6, hAU, hMU⟩
            have hbr6 := bcall hb1 hb6
            have MZ := hide (MZ.out.below hb6)
            obtain ⟨a0_, a1, a2, a3, a4, a5, a6, a7⟩ := MZ.out.cells
            obtain ⟨f0, f1, f2, f3, f4, f5, f6, f7⟩ := MZ.out.unfs
            obtain ⟨w7, e7⟩ : ∃ w7, set8 w6 wr.heap.size k1 p1 s1 q1 b1 t1 z 1 = w7 := ⟨_, rfl⟩
            have HE7 := hide (show (((((((w6.setCell ⟨wr.heap.size, 0, none⟩ (.int .i64 k1)).setCell ⟨wr.heap.size, 1, none⟩ (.int .i64 p1)).setCell ⟨wr.heap.size, 2, none⟩ (.int .i64 s1)).setCell ⟨wr.heap.size, 3, none⟩ (.int .i64 q1)).setCell ⟨wr.heap.size, 4, none⟩ (.int .u64 b1)).setCell ⟨wr.heap.size, 5, none⟩ (.int .u64 t1)).setCell ⟨wr.heap.size, 6, none⟩ (.int .i64 z)).setCell ⟨wr.heap.size, 7, none⟩ (.int .i64 1) = w7 from e7)
            have hb7 : Below wr.heap.size wr w7 := by rw [← e7]; exact set8_below hbr6 (Nat.le_refl _)
            have M7 := hide (show Mb w7 wr.heap.size ⟨k1, p1, s1, q1, b1, t1, z, 1⟩ by rw [← e7]; exact MZ.out.set8)
            have C7 := hide (show Cells w7 (.slice A1 (n + 2) c1) M1 by rw [← e7]; exact cells_set8 hC6 (not_box hC6 (by rw [hml]; omega) MZ.out))
            have I7 := hide (HA.out.ints.below hb7)
            have HB7 := hide (bcall HA.out.below hb7)
            have HAU := hide hAU
            have HMU := hide hMU
            have HML := hide hml
            have HBG1 := hide (show M1.length * 8 ≤ 140737488351232 by rw [hml]; omega)
            have hs7 : wr.heap.size < w7.heap.size := M7.out.lt
            clear e7 hC6 hb6 hAU hMU hml hbS hbz hb1 hbr6
            go_upto_region 13 with (fail)
            rw [HE7.out]
            clear a0_ a1 a2 a3 a4 a5 a6 a7 f0 f1 f2 f3 f4 f5 f6 f7
            obtain ⟨a0_, a1, a2, a3, a4, a5, a6, a7⟩ := M7.out.cells
            have hneq : (z != z) = false := by simp
            have hq : (((K : Int) + 1) == 0) = false := by rw [beq_eq_false_iff_ne]; omega
            have HL2 := hide (show l'.length = K by have := HLL.out; rw [List.length_append] at this; simpa using this)
            obtain ⟨bl, ol, rfl, -, dK⟩ := ints_at I7.out (k := K) (by rw [HLL.out]; omega)
            have hzK : (l' ++ [z])[K]'(by rw [HLL.out]; omega) = z := by have h2 := HL2.out; subst h2; simp
            rw [hzK] at dK
            clear hzK
            have I8 := hide (show Ints w7 (.slice (some ⟨bl, ol, none⟩) K cl) l' by have h8 := sl_take (j := K) I7.out (by omega); rw [List.take_left' HL2.out] at h8; exact h8)
            have HAI := hide (al_items HAL.out (by omega) (o := ⟨0, 0, 0, 0, 0, 0, 0, 0⟩) (.inr (by decide)))
            have HAI2 := hide (al_items HAL.out (by omega) (o := ⟨k1, p1, s1, q1, b1, t1, z, 1⟩) (.inl (by simp)))
            have hln := al_len HAL.out
            rw [HL2.out] at hln
            go_wp2_with fail
            (with_reducible refine (Items_any 0 0 0 0 0 0 0 0 _ M1 0 n _ C7.out HAU.out HBG1.out (by unfold I6; omega) HI6.out l' HAI.out K (HL2.out)).mono ?_)
            rintro e w10 ⟨A10, c10, rfl, ⟨hd1, hd2⟩, -, hb10⟩
            have M7 := hide (M7.out.below hb10)
            have C7 := hide (C7.out.below hb10)
            have I8 := hide (I8.out.below hb10)
            have HB7 := hide (bcall HB7.out hb10)
            clear a0_ a1 a2 a3 a4 a5 a6 a7 hd1 hd2 hb10
            obtain ⟨a0_, a1, a2, a3, a4, a5, a6, a7⟩ := M7.out.cells
            go_wp2_with fail
            (with_reducible refine (Items_any k1 p1 s1 q1 b1 t1 z 1 _ M1 0 n _ C7.out HAU.out HBG1.out (by unfold I6; omega) HI6.out l' HAI2.out K (HL2.out)).mono ?_)
            rintro e w11 ⟨A11, c11, rfl, ⟨hd1, hd2⟩, J11, hb11⟩
            have C7 := hide (C7.out.below hb11)
            have I8 := hide (I8.out.below hb11)
            have HB7 := hide (bcall HB7.out hb11)
            have J11 := hide J11
            clear a0_ a1 a2 a3 a4 a5 a6 a7 hb11
            go_wp2
            go_loopw [15] (fun iv wr2 => ∃ K2 : Nat, K2 ≤ K ∧ iv = .int .i64 K2 ∧ Below w11.heap.size w11 wr2) (fun iv _ => K - (Go.RowKit.intOf iv).toNat)
            case atStart => exact ⟨0, Nat.zero_le _, rfl, Below.refl _ _⟩
            case round =>
              obtain ⟨K2, hK2, rfl, hbw2⟩ := hrel
              by_cases hlt2 : K2 < K
              · have hl2 : K2 < l'.length := by rw [HL2.out]; exact hlt2
                obtain ⟨g1, o1, rfl, -, z1⟩ := ints_at (J11.out.below hbw2) hl2
                obtain ⟨g2, o2, e2, -, z2⟩ := ints_at (I8.out.below hbw2) hl2
                injection e2 with e2; injection e2 with e21 e22; subst e21; subst e22
                generalize l'[K2] = zz at *
                have r1 : (zz != zz) = false := by simp
                go_wp2
                go_quiet (fail)
                go_wp2
                go_roundw
                case rel => exact ⟨K2 + 1, by omega, by go_num, bdrewN hbw2 _⟩
                case measure => simp [Go.RowKit.intOf]; omega
              · have hCw := hide (C7.out.below hbw2)
                have hIw := hide (I8.out.below hbw2)
                have hBw := hide (bcall HB7.out hbw2)
                go_wp2
                go_roundw
                case rel => exact ⟨X + 1, A1, c1, M1, (some ⟨bl, ol, none⟩), K, cl, l', by omega, by go_num, rfl, rfl, ⟨hg1, hg2⟩, ⟨by omega, by omega⟩, hln, hide ⟨hCw.out, hIw.out, hBw.out, HL2.out, HML.out, HAU.out, HAL.out⟩⟩
                case measure => simp [Go.RowKit.intOf]; omega
        · by_cases hempty : list = []
          · subst hempty
            obtain rfl : Ln = 0 := by have := HA.out.len; simpa using this.symm
            obtain ⟨D1, N1, hr, hout, hx, hal⟩ := al_steal0 HA.out.al hX ((X : Int) + 1)
            have ek : y % 3 = 2 := by omega
            have ek2 : y.tmod 3 = 2 := by rw [Int.tmod_eq_emod_of_nonneg hy1]; exact ek
            have HSU := hide (show McU ⟨3, 0, 0, (n : Int), 0, 0, (X : Int) + 1, 0⟩ from start_U (by unfold I6; omega) (by unfold I6; omega) HI6.out (by unfold I6; omega))
            obtain ⟨k1, p1, s1, q1, b1, t1, x1, u1⟩ := D1
            simp only at hout hx
            subst hout
            have hx := hx.symm
            subst hx
            have HRR := hide (show runF 20 M ⟨3, 0, 0, (n : Int), 0, 0, (X : Int) + 1, 0⟩ = _ from hr)
            have HAL := hide hal
            clear hr hal
            obtain ⟨wz, ez, hbz, MZ⟩ := box_res wr 0 0 0 0 0 0 0 0
            have EZ := hide ez
            have MZ := hide MZ
            clear ez
            have hszz : wr.heap.size < wz.heap.size := MZ.out.lt
            go_upto_region 12 with (fail)
            rw [EZ.out]
            go_wp2_with fail
            (with_reducible refine (Start_any 3 0 n ((X : Int) + 1) _).mono ?_)
            rintro e wS ⟨rfl, hbS⟩
            have hb1 := bcall hbz hbS
            have MZ := hide (MZ.out.below hbS)
            have HC1 := hide (HA.out.cells.below hb1)
            go_wp2_with fail
            (with_reducible refine (run_cu 3 0 0 n 0 0 ((X : Int) + 1) 0 _ M _ HC1.out HBG.out HA.out.all HSU.out 20 M k1 p1 s1 q1 b1 t1 ((X : Int) + 1) 2 _ HRR.out (n + 2) HA.out.mlen (by decide) 20 _ rfl rfl).mono ?_)
            rintro e w6 ⟨A1, c1, rfl, ⟨hg1, hg2⟩, hml, hC6, hb6, hAU, hMU⟩
            have hbr6 := bcall hb1 hb6
            have MZ := hide (MZ.out.below hb6)
            obtain ⟨a0_, a1, a2, a3, a4, a5, a6, a7⟩ := MZ.out.cells
            obtain ⟨f0, f1, f2, f3, f4, f5, f6, f7⟩ := MZ.out.unfs
            obtain ⟨w7, e7⟩ : ∃ w7, set8 w6 wr.heap.size k1 p1 s1 q1 b1 t1 ((X : Int) + 1) 2 = w7 := ⟨_, rfl⟩
            have HE7 := hide (show (((((((w6.setCell ⟨wr.heap.size, 0, none⟩ (.int .i64 k1)).setCell ⟨wr.heap.size, 1, none⟩ (.int .i64 p1)).setCell ⟨wr.heap.size, 2, none⟩ (.int .i64 s1)).setCell ⟨wr.heap.size, 3, none⟩ (.int .i64 q1)).setCell ⟨wr.heap.size, 4, none⟩ (.int .u64 b1)).setCell ⟨wr.heap.size, 5, none⟩ (.int .u64 t1)).setCell ⟨wr.heap.size, 6, none⟩ (.int .i64 ((X : Int) + 1))).setCell ⟨wr.heap.size, 7, none⟩ (.int .i64 2) = w7 from e7)
            have hb7 : Below wr.heap.size wr w7 := by rw [← e7]; exact set8_below hbr6 (Nat.le_refl _)
            have M7 := hide (show Mb w7 wr.heap.size ⟨k1, p1, s1, q1, b1, t1, (X : Int) + 1, 2⟩ by rw [← e7]; exact MZ.out.set8)
            have C7 := hide (show Cells w7 (.slice A1 (n + 2) c1) M by rw [← e7]; exact cells_set8 hC6 (not_box hC6 (by rw [hml]; omega) MZ.out))
            have I7 := hide (HA.out.ints.below hb7)
            have HB7 := hide (bcall HA.out.below hb7)
            have HAU := hide hAU
            have HMU := hide hMU
            have HML := hide hml
            have HBG1 := hide (show M.length * 8 ≤ 140737488351232 by rw [hml]; omega)
            have hs7 : wr.heap.size < w7.heap.size := M7.out.lt
            clear e7 hC6 hb6 hAU hMU hml hbS hbz hb1 hbr6
            go_upto_region 13 with (fail)
            rw [HE7.out]
            clear a0_ a1 a2 a3 a4 a5 a6 a7 f0 f1 f2 f3 f4 f5 f6 f7
            obtain ⟨a0_, a1, a2, a3, a4, a5, a6, a7⟩ := M7.out.cells
            have hneq : ((3 : Int) != 3) = false := by simp
            have hneq2 : (((X : Int) + 1) != 0) = true := by rw [bne_iff_ne]; omega
            have HAI := hide (al_items HAL.out (by omega) (o := ⟨0, 0, 0, 0, 0, 0, 0, 0⟩) (.inr (by decide)))
            have HAI2 := hide (al_items HAL.out (by omega) (o := ⟨k1, p1, s1, q1, b1, t1, (X : Int) + 1, 2⟩) (.inl (by simp)))
            have hln := al_len HAL.out
            simp only [List.length_nil] at hln
            go_wp2_with fail
            (with_reducible refine (Items_any 0 0 0 0 0 0 0 0 _ M 0 n _ C7.out HAU.out HBG1.out (by unfold I6; omega) HI6.out [] HAI.out 0 rfl).mono ?_)
            rintro e w10 ⟨A10, c10, rfl, ⟨hd1, hd2⟩, -, hb10⟩
            have M7 := hide (M7.out.below hb10)
            have C7 := hide (C7.out.below hb10)
            have I7 := hide (I7.out.below hb10)
            have HB7 := hide (bcall HB7.out hb10)
            clear a0_ a1 a2 a3 a4 a5 a6 a7 hd1 hd2 hb10
            obtain ⟨a0_, a1, a2, a3, a4, a5, a6, a7⟩ := M7.out.cells
            go_wp2_with fail
            (with_reducible refine (Items_any k1 p1 s1 q1 b1 t1 ((X : Int) + 1) 2 _ M 0 n _ C7.out HAU.out HBG1.out (by unfold I6; omega) HI6.out [] HAI2.out 0 rfl).mono ?_)
            rintro e w11 ⟨A11, c11, rfl, ⟨hd1, hd2⟩, J11, hb11⟩
            have C7 := hide (C7.out.below hb11)
            have I7 := hide (I7.out.below hb11)
            have HB7 := hide (bcall HB7.out hb11)
            have J11 := hide J11
            clear a0_ a1 a2 a3 a4 a5 a6 a7 hb11
            go_wp2
            go_loopw [15] (fun iv wr2 => ∃ K2 : Nat, K2 ≤ 0 ∧ iv = .int .i64 K2 ∧ Below w11.heap.size w11 wr2) (fun iv _ => 0 - (Go.RowKit.intOf iv).toNat)
            case atStart => exact ⟨0, Nat.zero_le _, rfl, Below.refl _ _⟩
            case round =>
              obtain ⟨K2, hK2, rfl, hbw2⟩ := hrel
              by_cases hlt2 : K2 < 0
              · exact absurd hlt2 (by omega)
              · have hCw := hide (C7.out.below hbw2)
                have hIw := hide (I7.out.below hbw2)
                have hBw := hide (bcall HB7.out hbw2)
                go_wp2
                go_roundw
                case rel => exact ⟨X + 1, A1, c1, M, B, 0, cl, [], by omega, by go_num, rfl, rfl, ⟨hg1, hg2⟩, ⟨by omega, by omega⟩, hln, hide ⟨hCw.out, hIw.out, hBw.out, rfl, HML.out, HAU.out, HAL.out⟩⟩
                case measure => simp [Go.RowKit.intOf]; omega
          · obtain ⟨M1, D1, N1, l', z, rfl, hr, hout, hx, hal⟩ := al_steal HA.out.al hX hempty ((X : Int) + 1)
            obtain ⟨K, rfl⟩ : ∃ K, Ln = K + 1 := ⟨Ln - 1, by have := HA.out.len; simp at this; omega⟩
            clear hempty
            by_cases hcl : cl = 1
            · subst hcl
              obtain rfl : K = 0 := by omega
              have ek : y % 3 = 2 := by omega
              have ek2 : y.tmod 3 = 2 := by rw [Int.tmod_eq_emod_of_nonneg hy1]; exact ek
              have HSU := hide (show McU ⟨3, 0, 0, (n : Int), 0, 0, (X : Int) + 1, 0⟩ from start_U (by unfold I6; omega) (by unfold I6; omega) HI6.out (by unfold I6; omega))
              obtain ⟨k1, p1, s1, q1, b1, t1, x1, u1⟩ := D1
              simp only at hout hx
              subst hout
              have hx := hx.symm
              subst hx
              have HRR := hide (show runF 20 M ⟨3, 0, 0, (n : Int), 0, 0, (X : Int) + 1, 0⟩ = _ from hr)
              have HAL := hide hal
              clear hr hal
              obtain ⟨wz, ez, hbz, MZ⟩ := box_res wr 0 0 0 0 0 0 0 0
              have EZ := hide ez
              have MZ := hide MZ
              clear ez
              have hszz : wr.heap.size < wz.heap.size := MZ.out.lt
              go_upto_region 12 with (fail)
              rw [EZ.out]
              go_wp2_with fail
              (with_reducible refine (Start_any 3 0 n ((X : Int) + 1) _).mono ?_)
              rintro e wS ⟨rfl, hbS⟩
              have hb1 := bcall hbz hbS
              have MZ := hide (MZ.out.below hbS)
              have HC1 := hide (HA.out.cells.below hb1)
              go_wp2_with fail
              (with_reducible refine (run_cu 3 0 0 n 0 0 ((X : Int) + 1) 0 _ M _ HC1.out HBG.out HA.out.all HSU.out 20 M1 k1 p1 s1 q1 b1 t1 z 1 _ HRR.out (n + 2) HA.out.mlen (by decide) 20 _ rfl rfl).mono ?_)
              rintro e w6 ⟨A1, c1, rfl, ⟨hg1, hg2⟩, hml, hC6, hb6, hAU, hMU⟩
              have hbr6 := bcall hb1 hb6
              have MZ := hide (MZ.out.below hb6)
              obtain ⟨a0_, a1, a2, a3, a4, a5, a6, a7⟩ := MZ.out.cells
              obtain ⟨f0, f1, f2, f3, f4, f5, f6, f7⟩ := MZ.out.unfs
              obtain ⟨w7, e7⟩ : ∃ w7, set8 w6 wr.heap.size k1 p1 s1 q1 b1 t1 z 1 = w7 := ⟨_, rfl⟩
              have HE7 := hide (show (((((((w6.setCell ⟨wr.heap.size, 0, none⟩ (.int .i64 k1)).setCell ⟨wr.heap.size, 1, none⟩ (.int .i64 p1)).setCell ⟨wr.heap.size, 2, none⟩ (.int .i64 s1)).setCell ⟨wr.heap.size, 3, none⟩ (.int .i64 q1)).setCell ⟨wr.heap.size, 4, none⟩ (.int .u64 b1)).setCell ⟨wr.heap.size, 5, none⟩ (.int .u64 t1)).setCell ⟨wr.heap.size, 6, none⟩ (.int .i64 z)).setCell ⟨wr.heap.size, 7, none⟩ (.int .i64 1) = w7 from e7)
              have hb7 : Below wr.heap.size wr w7 := by rw [← e7]; exact set8_below hbr6 (Nat.le_refl _)
              have M7 := hide (show Mb w7 wr.heap.size ⟨k1, p1, s1, q1, b1, t1, z, 1⟩ by rw [← e7]; exact MZ.out.set8)
              have C7 := hide (show Cells w7 (.slice A1 (n + 2) c1) M1 by rw [← e7]; exact cells_set8 hC6 (not_box hC6 (by rw [hml]; omega) MZ.out))
              have I7 := hide (HA.out.ints.below hb7)
              have HB7 := hide (bcall HA.out.below hb7)
              have HAU := hide hAU
              have HMU := hide hMU
              have HML := hide hml
              have HBG1 := hide (show M1.length * 8 ≤ 140737488351232 by rw [hml]; omega)
              have hs7 : wr.heap.size < w7.heap.size := M7.out.lt
              clear e7 hC6 hb6 hAU hMU hml hbS hbz hb1 hbr6
              go_upto_region 13 with (fail)
              rw [HE7.out]
              clear a0_ a1 a2 a3 a4 a5 a6 a7 f0 f1 f2 f3 f4 f5 f6 f7
              obtain ⟨a0_, a1, a2, a3, a4, a5, a6, a7⟩ := M7.out.cells
              have hneq : (z != z) = false := by simp
              have HL2 := hide (show l'.length = 0 by have := HLL.out; rw [List.length_cons] at this; omega)
              obtain ⟨bl, ol, rfl, -, dK⟩ := ints_at I7.out (k := 0) (by rw [HLL.out]; omega)
              simp only [List.getElem_cons_zero, Nat.add_zero] at dK
              have I8 := hide (show Ints w7 (.slice (some ⟨bl, ol, none⟩) 0 0) l' by have h8 := sl_cut0 (j := 1) I7.out (by omega); simpa using h8)
              have HAI := hide (al_items HAL.out (by omega) (o := ⟨0, 0, 0, 0, 0, 0, 0, 0⟩) (.inr (by decide)))
              have HAI2 := hide (al_items HAL.out (by omega) (o := ⟨k1, p1, s1, q1, b1, t1, z, 1⟩) (.inl (by simp)))
              have hln := al_len HAL.out
              rw [HL2.out] at hln
              go_wp2_with fail
              (with_reducible refine (Items_any 0 0 0 0 0 0 0 0 _ M1 0 n _ C7.out HAU.out HBG1.out (by unfold I6; omega) HI6.out l' HAI.out 0 (HL2.out)).mono ?_)
              rintro e w10 ⟨A10, c10, rfl, ⟨hd1, hd2⟩, -, hb10⟩
              have M7 := hide (M7.out.below hb10)
              have C7 := hide (C7.out.below hb10)
              have I8 := hide (I8.out.below hb10)
              have HB7 := hide (bcall HB7.out hb10)
              clear a0_ a1 a2 a3 a4 a5 a6 a7 hd1 hd2 hb10
              obtain ⟨a0_, a1, a2, a3, a4, a5, a6, a7⟩ := M7.out.cells
              go_wp2_with fail
              (with_reducible refine (Items_any k1 p1 s1 q1 b1 t1 z 1 _ M1 0 n _ C7.out HAU.out HBG1.out (by unfold I6; omega) HI6.out l' HAI2.out 0 (HL2.out)).mono ?_)
              rintro e w11 ⟨A11, c11, rfl, ⟨hd1, hd2⟩, J11, hb11⟩
              have C7 := hide (C7.out.below hb11)
              have I8 := hide (I8.out.below hb11)
              have HB7 := hide (bcall HB7.out hb11)
              have J11 := hide J11
              clear a0_ a1 a2 a3 a4 a5 a6 a7 hb11
              go_wp2
              go_loopw [15] (fun iv wr2 => ∃ K2 : Nat, K2 ≤ 0 ∧ iv = .int .i64 K2 ∧ Below w11.heap.size w11 wr2) (fun iv _ => 0 - (Go.RowKit.intOf iv).toNat)
              case atStart => exact ⟨0, Nat.zero_le _, rfl, Below.refl _ _⟩
              case round =>
                obtain ⟨K2, hK2, rfl, hbw2⟩ := hrel
                by_cases hlt2 : K2 < 0
                · exact absurd hlt2 (by omega)
                · have hCw := hide (C7.out.below hbw2)
                  have hIw := hide (I8.out.below hbw2)
                  have hBw := hide (bcall HB7.out hbw2)
                  go_wp2
                  go_roundw
                  case rel => exact ⟨X + 1, A1, c1, M1, (some ⟨bl, ol, none⟩), 0, 0, l', by omega, by go_num, rfl, rfl, ⟨hg1, hg2⟩, ⟨by omega, by omega⟩, hln, hide ⟨hCw.out, hIw.out, hBw.out, HL2.out, HML.out, HAU.out, HAL.out⟩⟩
                  case measure => simp [Go.RowKit.intOf]; omega
            · have hclf : decide (cl = 1) = false := decide_eq_false hcl
              have ek : y % 3 = 2 := by omega
              have ek2 : y.tmod 3 = 2 := by rw [Int.tmod_eq_emod_of_nonneg hy1]; exact ek
              have HSU := hide (show McU ⟨3, 0, 0, (n : Int), 0, 0, (X : Int) + 1, 0⟩ from start_U (by unfold I6; omega) (by unfold I6; omega) HI6.out (by unfold I6; omega))
              obtain ⟨k1, p1, s1, q1, b1, t1, x1, u1⟩ := D1
              simp only at hout hx
              subst hout
              have hx := hx.symm
              subst hx
              have HRR := hide (show runF 20 M ⟨3, 0, 0, (n : Int), 0, 0, (X : Int) + 1, 0⟩ = _ from hr)
              have HAL := hide hal
              clear hr hal
              obtain ⟨wz, ez, hbz, MZ⟩ := box_res wr 0 0 0 0 0 0 0 0
              have EZ := hide ez
              have MZ := hide MZ
              clear ez
              have hszz : wr.heap.size < wz.heap.size := MZ.out.lt
              go_upto_region 12 with (fail)
              rw [EZ.out]
              go_wp2_with fail
              (with_reducible refine (Start_any 3 0 n ((X : Int) + 1) _).mono ?_)
              rintro e wS ⟨rfl, hbS⟩
              have hb1 := bcall hbz hbS
              have MZ := hide (MZ.out.below hbS)
              have HC1 := hide (HA.out.cells.below hb1)
              go_wp2_with fail
              (with_reducible refine (run_cu 3 0 0 n 0 0 ((X : Int) + 1) 0 _ M _ HC1.out HBG.out HA.out.all HSU.out 20 M1 k1 p1 s1 q1 b1 t1 z 1 _ HRR.out (n + 2) HA.out.mlen (by decide) 20 _ rfl rfl).mono ?_)
              rintro e w6 ⟨A1, c1, rfl, ⟨hg1, hg2⟩, hml, hC6, hb6, hAU, hMU⟩
              have hbr6 := bcall hb1 hb6
              have MZ := hide (MZ.out.below hb6)
              obtain ⟨a0_, a1, a2, a3, a4, a5, a6, a7⟩ := MZ.out.cells
              obtain ⟨f0, f1, f2, f3, f4, f5, f6, f7⟩ := MZ.out.unfs
              obtain ⟨w7, e7⟩ : ∃ w7, set8 w6 wr.heap.size k1 p1 s1 q1 b1 t1 z 1 = w7 := ⟨_, rfl⟩
              have HE7 := hide (show (((((((w6.setCell ⟨wr.heap.size, 0, none⟩ (.int .i64 k1)).setCell ⟨wr.heap.size, 1, none⟩ (.int .i64 p1)).setCell ⟨wr.heap.size, 2, none⟩ (.int .i64 s1)).setCell ⟨wr.heap.size, 3, none⟩ (.int .i64 q1)).setCell ⟨wr.heap.size, 4, none⟩ (.int .u64 b1)).setCell ⟨wr.heap.size, 5, none⟩ (.int .u64 t1)).setCell ⟨wr.heap.size, 6, none⟩ (.int .i64 z)).setCell ⟨wr.heap.size, 7, none⟩ (.int .i64 1) = w7 from e7)
              have hb7 : Below wr.heap.size wr w7 := by rw [← e7]; exact set8_below hbr6 (Nat.le_refl _)
              have M7 := hide (show Mb w7 wr.heap.size ⟨k1, p1, s1, q1, b1, t1, z, 1⟩ by rw [← e7]; exact MZ.out.set8)
              have C7 := hide (show Cells w7 (.slice A1 (n + 2) c1) M1 by rw [← e7]; exact cells_set8 hC6 (not_box hC6 (by rw [hml]; omega) MZ.out))
              have I7 := hide (HA.out.ints.below hb7)
              have HB7 := hide (bcall HA.out.below hb7)
              have HAU := hide hAU
              have HMU := hide hMU
              have HML := hide hml
              have HBG1 := hide (show M1.length * 8 ≤ 140737488351232 by rw [hml]; omega)
              have hs7 : wr.heap.size < w7.heap.size := M7.out.lt
              clear e7 hC6 hb6 hAU hMU hml hbS hbz hb1 hbr6
              go_upto_region 13 with (fail)
              rw [HE7.out]
              clear a0_ a1 a2 a3 a4 a5 a6 a7 f0 f1 f2 f3 f4 f5 f6 f7
              obtain ⟨a0_, a1, a2, a3, a4, a5, a6, a7⟩ := M7.out.cells
              have hneq : (z != z) = false := by simp
              have hq : (((K : Int) + 1) == 0) = false := by rw [beq_eq_false_iff_ne]; omega
              have HL2 := hide (show l'.length = K by have := HLL.out; rw [List.length_cons] at this; omega)
              obtain ⟨bl, ol, rfl, -, dK⟩ := ints_at I7.out (k := 0) (by rw [HLL.out]; omega)
              simp only [List.getElem_cons_zero, Nat.add_zero] at dK
              have I8 := hide (show Ints w7 (.slice (some ⟨bl, ol + 1, none⟩) K (cl - 1)) l' by have h8 := sl_cut (j := 1) I7.out (by omega); simpa [add_none] using h8)
              have HAI := hide (al_items HAL.out (by omega) (o := ⟨0, 0, 0, 0, 0, 0, 0, 0⟩) (.inr (by decide)))
              have HAI2 := hide (al_items HAL.out (by omega) (o := ⟨k1, p1, s1, q1, b1, t1, z, 1⟩) (.inl (by simp)))
              have hln := al_len HAL.out
              rw [HL2.out] at hln
              go_wp2_with fail
              (with_reducible refine (Items_any 0 0 0 0 0 0 0 0 _ M1 0 n _ C7.out HAU.out HBG1.out (by unfold I6; omega) HI6.out l' HAI.out K (HL2.out)).mono ?_)
              rintro e w10 ⟨A10, c10, rfl, ⟨hd1, hd2⟩, -, hb10⟩
              have M7 := hide (M7.out.below hb10)
              have C7 := hide (C7.out.below hb10)
              have I8 := hide (I8.out.below hb10)
              have HB7 := hide (bcall HB7.out hb10)
              clear a0_ a1 a2 a3 a4 a5 a6 a7 hd1 hd2 hb10
              obtain ⟨a0_, a1, a2, a3, a4, a5, a6, a7⟩ := M7.out.cells
              go_wp2_with fail
              (with_reducible refine (Items_any k1 p1 s1 q1 b1 t1 z 1 _ M1 0 n _ C7.out HAU.out HBG1.out (by unfold I6; omega) HI6.out l' HAI2.out K (HL2.out)).mono ?_)
              rintro e w11 ⟨A11, c11, rfl, ⟨hd1, hd2⟩, J11, hb11⟩
              have C7 := hide (C7.out.below hb11)
              have I8 := hide (I8.out.below hb11)
              have HB7 := hide (bcall HB7.out hb11)
              have J11 := hide J11
              clear a0_ a1 a2 a3 a4 a5 a6 a7 hb11
              go_wp2
              go_loopw [15] (fun iv wr2 => ∃ K2 : Nat, K2 ≤ K ∧ iv = .int .i64 K2 ∧ Below w11.heap.size w11 wr2) (fun iv _ => K - (Go.RowKit.intOf iv).toNat)
              case atStart => exact ⟨0, Nat.zero_le _, rfl, Below.refl _ _⟩
              case round =>
                obtain ⟨K2, hK2, rfl, hbw2⟩ := hrel
                by_cases hlt2 : K2 < K
                · have hl2 : K2 < l'.length := by rw [HL2.out]; exact hlt2
                  obtain ⟨g1, o1, rfl, -, z1⟩ := ints_at (J11.out.below hbw2) hl2
                  obtain ⟨g2, o2, e2, -, z2⟩ := ints_at (I8.out.below hbw2) hl2
                  injection e2 with e2; injection e2 with e21 e22; subst e21; subst e22
                  generalize l'[K2] = zz at *
                  have r1 : (zz != zz) = false := by simp
                  go_wp2
                  go_quiet (fail)
                  go_wp2
                  go_roundw
                  case rel => exact ⟨K2 + 1, by omega, by go_num, bdrewN hbw2 _⟩
                  case measure => simp [Go.RowKit.intOf]; omega
                · have hCw := hide (C7.out.below hbw2)
                  have hIw := hide (I8.out.below hbw2)
                  have hBw := hide (bcall HB7.out hbw2)
                  go_wp2
                  go_roundw
                  case rel => exact ⟨X + 1, A1, c1, M1, (some ⟨bl, ol + 1, none⟩), K, (cl - 1), l', by omega, by go_num, rfl, rfl, ⟨hg1, hg2⟩, ⟨by omega, by omega⟩, hln, hide ⟨hCw.out, hIw.out, hBw.out, HL2.out, HML.out, HAU.out, HAL.out⟩⟩
                  case measure => simp [Go.RowKit.intOf]; omega
      · go_wp2
        go_ret
        exact ⟨rfl, hBr⟩
    · go_wp2
      go_ret
      exact ⟨rfl, hBr⟩

set_option maxRecDepth 100000 in
theorem lifted (os : Os) (started : os.Started) (H : Type) (enc : TypeId × Value → H) :
    ReturnsInHanded {} Try.checked os 6 .any (Rows.dequeAloneSpec.pre6 enc Try.prog Try.f6 Rows.dequeAloneRow.domain false) (Rows.dequeAloneSpec.post enc Try.prog Try.f6 false true false false) := by
  refine returnsInHanded_of_change_sized (C := Try.checked) ownL started (by kernel_rfl) Try.func6
    (ChangeSpec.witness6 (enc := enc) (C := Try.checked) false ⟨#[], #[.int .u8 0, .slice none 0 0], []⟩ 8 (by kernel_rfl) (by kernel_rfl) (by kernel_rfl) (by kernel_rfl)) ?_
  intro W base args ds gs before hval hW _ hsz0 _
  have hW' := hW
  obtain ⟨p, q, hA0, hV, rfl, hfz, hnd⟩ := hW
  have hA : DataW.TrodAll enc Try.prog W 0 (fun _ => true) true Try.f6.params.toList args.toList ds p := hA0
  rw [Try.params6] at hA hval
  obtain ⟨v0, vs0, d0, ds0, p0, q0, hargs, rfl, rfl, h0, r0⟩ := trodAll_cons hA
  obtain ⟨v1, vs1, d1, ds1, p1, q1, rfl, rfl, rfl, h1, r1⟩ := trodAll_cons r0
  obtain ⟨rfl, rfl, rfl⟩ := trodAll_nil r1
  obtain rfl : args = #[v0, v1] := by cases args; simp_all
  obtain ⟨rfl, rfl⟩ := trodVars_none hV
  obtain ⟨a0, rfl, rfl, rfl, w0⟩ := open_int Try.underlying5 (hval 0 5 v0 rfl rfl) h0
  have hx0 : 0 ≤ a0 ∧ a0 ≤ 255 := by simpa [Lit.wf, IntKind.min, IntKind.max, IntKind.signed, IntKind.bits] using w0
  obtain ⟨l1, hl1, hq1, hd1⟩ := open_bytes (hval 1 43 v1 rfl rfl) h1
  have hsz : (DataW.weightsEach Try.prog [5, 43] ([.lit (.int .u8 a0), d1] : List (DataW H))).all (· ≤ reachBytes) = true := hsz0
  have e1 : l1.length * 1 ≤ 140737488351232 := slice_reach hsz 1 rfl rfl Try.underlying43 (by kernel_rfl) hd1
  refine (walk a0 v1 l1 W hl1 hq1 hx0).mono fun e W' ⟨he, hg⟩ => ?_
  subst he
  exact ⟨_, rfl, law_post laidOutL (by kernel_rfl) rfl Try.underlying4 rfl ⟨rfl, rfl, rfl⟩ hW' hg⟩

/-- THE STATEMENT -/
theorem proved : Rows.DequeAloneSaid :=
  OpenClaim.holds_of_wide 6 Try.f6 rfl rfl rfl rfl rfl rfl rfl ⟨rfl, rfl, rfl, rfl, rfl⟩ rfl rfl rfl rfl rfl (by kernel_rfl) Try.func6 (by kernel_rfl)
    (of_decide_eq_true (by kernel_rfl)) (by unfold Func.isWrapper; first | (rw [if_pos (by decide +kernel)]; kernel_rfl) | (rw [if_neg (by decide +kernel)]; exact ⟨rfl, rfl⟩))
    (fun os started H enc _ => lifted os started H enc)
end Go.Proofs.Ythjdjkcdlknhbaa.lawDequeAlone
