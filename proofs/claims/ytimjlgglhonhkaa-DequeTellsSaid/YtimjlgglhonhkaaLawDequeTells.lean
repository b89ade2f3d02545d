/- DequeTells: for any cells, any machine, any number: a step is what the document's own answer says, and so are items, and new cells. No condition. -/
import Derived.Test.YtimjlgglhonhkaaDequeQs
import Derived.Test.YtimjlgglhonhkaaRefDequeItemsAll
import Derived.Test.YtimjlgglhonhkaaRefDequeSmalls
import Derived.Test.YtimjlgglhonhkaaMemOpen
import Derived.Deep.RegionLaw
import Derived.Deep.RegionHeldLaw
import Derived.Shelf.SortM.Plain
namespace Go.Proofs.Ytimjlgglhonhkaa.lawDequeTells
open Go.RowKit Go.WideShapes Go.ChangeShapes Go.ChangeAt Go.Proofs Go.Proofs.Ytimjlgglhonhkaa

theorem rStep_c (k p s c b t x u : Int) (v : Value) (m : List Int) (w : World) (h : Cells w v m) (hbig : m.length * 8 ≤ 140737488351232) (hd : McU ⟨k, p, s, c, b, t, x, u⟩) (m1 : List Int) (k1 p1 s1 c1 b1 t1 x1 u1 : Int)
    (hr : stepF m ⟨k, p, s, c, b, t, x, u⟩ = (m1, ⟨k1, p1, s1, c1, b1, t1, x1, u1⟩)) (n : Nat) (hn : m1.length = n) :
    Calls Try.prog 13 #[v, mvv k p s c b t x u] w fun e w' => ∃ A c, e = .returned (.tuple #[.slice A n c, mvv k1 p1 s1 c1 b1 t1 x1 u1]) ∧ (n ≤ c ∧ c ≤ 9223372036854775807) ∧ Cells w' (.slice A n c) m1 ∧ Below w.heap.size w w' := by
  subst hn
  refine (rStep_any k p s c b t x u v m w h hbig hd).mono ?_
  rw [hr]
  rintro e w' ⟨A, c, rfl, h1, h2, -, h4⟩
  exact ⟨A, c, rfl, h1, h2, h4⟩
theorem rSame_yes (va vb : Value) (a : List Int) (w : World) (ha : Cells w va a) (hb : Cells w vb a) : Calls Try.prog 17 #[va, vb] w fun e w' => e = .returned (.bool true) ∧ Below w.heap.size w w' := by
  refine (rSame_any va vb a a w ha hb).mono ?_
  rintro e w' ⟨rfl, h⟩
  exact ⟨by simp, h⟩
set_option maxRecDepth 100000 in
set_option maxHeartbeats 8000000 in
theorem walk (k p s c b t x u : Int) (v : Value) (m : List Int) (n : Int) (w : World) (h : Cells w v m) (hm : AllU m) (hbig : m.length * 8 ≤ 140737488351232) (hd : McU ⟨k, p, s, c, b, t, x, u⟩) (hn : I6 n) :
    Calls Try.prog 3 #[v, mvv k p s c b t x u, .int .i64 n] w fun e w' => e = .returned (.bool true) ∧ Below w.heap.size w w' := by
  have hB := hide (Below.refl w.heap.size w)
  have GM := hide h
  obtain ⟨A, c0, rfl, hc1, hc2⟩ := cells_form' h
  obtain ⟨r, hr⟩ : ∃ r, stepF m ⟨k, p, s, c, b, t, x, u⟩ = r := ⟨_, rfl⟩
  obtain ⟨m1, ⟨k1, p1, s1, c1, b1, t1, x1, u1⟩⟩ := r
  obtain ⟨L1, hL1⟩ : ∃ L1, m1.length = L1 := ⟨_, rfl⟩
  obtain ⟨it, hit⟩ : ∃ it, itemsF m s n ⟨k, p, s, c, b, t, x, u⟩ = it := ⟨_, rfl⟩
  obtain ⟨NI, hNI⟩ : ∃ NI, it.length = NI := ⟨_, rfl⟩
  obtain ⟨NC, hNC⟩ : ∃ NC, (cellsF n).length = NC := ⟨_, rfl⟩
  have HSR := hide hr
  have HL1 := hide hL1
  have HIT := hide hit
  have HNI := hide hNI
  have HNC := hide hNC
  have HD := hide hd
  have HMU := hide hm
  have HBG := hide hbig
  have HNN := hide hn
  have HBS := hide hd.base
  have r_k1 : (k1 == k1) = true := by simp
  have r_p1 : (p1 == p1) = true := by simp
  have r_s1 : (s1 == s1) = true := by simp
  have r_c1 : (c1 == c1) = true := by simp
  have r_b1 : (b1 == b1) = true := by simp
  have r_t1 : (t1 == t1) = true := by simp
  have r_x1 : (x1 == x1) = true := by simp
  have r_u1 : (u1 == u1) = true := by simp
  have r_k : (k == k) = true := by simp
  have r_s : (s == s) = true := by simp
  have r_n : (n == n) = true := by simp
  have r_x : (x == x) = true := by simp
  clear h hm hd hr hn hL1 hit hNI hNC hbig
  obtain ⟨wp, ep, hbp, MD⟩ := box_res w k p s c b t x u
  have EP := hide ep
  replace MD := hide MD
  clear ep
  replace GM := hide (GM.out.below hbp)
  replace hB := hide (bcall hB.out hbp)
  clear hbp
  go_enter Try.func3, Try.ntmps3
  go_wp2_with fail
  rw [EP.out]
  (with_reducible refine (examples_any _).mono ?_)
  rintro e w0_ ⟨rfl, hb_⟩
  replace GM := hide (GM.out.below hb_)
  replace MD := hide (MD.out.below hb_)
  replace hB := hide (bcall hB.out hb_)
  clear hb_
  obtain ⟨a0, a1, a2, a3, a4, a5, a6, a7⟩ := MD.out.cells
  go_wp2_with fail
  (with_reducible refine (Step_c k p s c b t x u _ m _ GM.out HBG.out HD.out m1 k1 p1 s1 c1 b1 t1 x1 u1 HSR.out L1 HL1.out).mono ?_)
  rintro e w1_ ⟨A1, c1_, rfl, ⟨p1_, q1_⟩, G1, hb_, -⟩
  replace G1 := hide G1
  replace GM := hide (GM.out.below hb_)
  replace MD := hide (MD.out.below hb_)
  replace hB := hide (bcall hB.out hb_)
  clear hb_
  clear a0 a1 a2 a3 a4 a5 a6 a7
  obtain ⟨w2_, e2_, hb_, ME⟩ := box_res w1_ k1 p1 s1 c1 b1 t1 x1 u1
  have E2_ := hide e2_
  replace ME := hide ME
  clear e2_
  replace GM := hide (GM.out.below hb_)
  replace MD := hide (MD.out.below hb_)
  replace G1 := hide (G1.out.below hb_)
  replace hB := hide (bcall hB.out hb_)
  clear hb_
  go_upto_region 5 with (fail)
  rw [E2_.out]
  obtain ⟨a0, a1, a2, a3, a4, a5, a6, a7⟩ := MD.out.cells
  go_wp2_with fail
  (with_reducible refine (refDeque_any k p s c b t x u _).mono ?_)
  rintro e w3_ ⟨rfl, hb_⟩
  replace GM := hide (GM.out.below hb_)
  replace MD := hide (MD.out.below hb_)
  replace G1 := hide (G1.out.below hb_)
  replace ME := hide (ME.out.below hb_)
  replace hB := hide (bcall hB.out hb_)
  clear hb_
  clear a0 a1 a2 a3 a4 a5 a6 a7
  go_wp2_with fail
  (with_reducible refine (rStep_c k p s c b t x u _ m _ GM.out HBG.out HD.out m1 k1 p1 s1 c1 b1 t1 x1 u1 HSR.out L1 HL1.out).mono ?_)
  rintro e w4_ ⟨A2, c2_, rfl, ⟨p2_, q2_⟩, G2, hb_⟩
  replace G2 := hide G2
  replace GM := hide (GM.out.below hb_)
  replace MD := hide (MD.out.below hb_)
  replace G1 := hide (G1.out.below hb_)
  replace ME := hide (ME.out.below hb_)
  replace hB := hide (bcall hB.out hb_)
  clear hb_
  obtain ⟨w5_, e5_, hb_, MF⟩ := rbox_one w4_ k1 p1 s1 c1 b1 t1 x1 u1
  have E5_ := hide e5_
  replace MF := hide MF
  clear e5_
  replace GM := hide (GM.out.below hb_)
  replace MD := hide (MD.out.below hb_)
  replace G1 := hide (G1.out.below hb_)
  replace ME := hide (ME.out.below hb_)
  replace G2 := hide (G2.out.below hb_)
  replace hB := hide (bcall hB.out hb_)
  clear hb_
  go_upto_region 6 with (fail)
  rw [E5_.out]
  obtain ⟨a0, a1, a2, a3, a4, a5, a6, a7⟩ := MD.out.cells
  go_wp2_with fail
  (with_reducible refine (Items_any k p s c b t x u _ m s n _ GM.out HMU.out HBG.out HBS.out HNN.out it HIT.out NI HNI.out).mono ?_)
  rintro e w6_ ⟨A3, c3_, rfl, ⟨p3_, q3_⟩, G3, hb_⟩
  replace G3 := hide G3
  replace GM := hide (GM.out.below hb_)
  replace MD := hide (MD.out.below hb_)
  replace G1 := hide (G1.out.below hb_)
  replace ME := hide (ME.out.below hb_)
  replace G2 := hide (G2.out.below hb_)
  replace MF := hide (MF.out.below hb_)
  replace hB := hide (bcall hB.out hb_)
  clear hb_
  clear a0 a1 a2 a3 a4 a5 a6 a7
  go_upto_region 7 with (fail)
  have GMD := hide (cells_drew GM.out)
  have MDD := hide ((⟨MD.out.blk⟩ : Mb w6_.drew _ _))
  have G1D := hide (cells_drew G1.out)
  have MED := hide ((⟨ME.out.blk⟩ : Mb w6_.drew _ _))
  have G2D := hide (cells_drew G2.out)
  have MFD := hide ((⟨MF.out.blk⟩ : RMb w6_.drew _ _))
  have G3D := hide ((show Ints w6_.drew _ _ from G3.out))
  obtain ⟨a0, a1, a2, a3, a4, a5, a6, a7⟩ := MDD.out.cells
  have hBD := hide hB.out.drew
  go_region_law (first
    | (go_simp; go_at_call 14; (with_reducible refine (refDeque_any k p s c b t x u _).mono ?_); rintro e w7_ ⟨rfl, hb_⟩; have GME := hide (GMD.out.below hb_); have MDE := hide (MDD.out.below hb_); have G1E := hide (G1D.out.below hb_); have MEE := hide (MED.out.below hb_); have G2E := hide (G2D.out.below hb_); have MFE := hide (MFD.out.below hb_); have G3E := hide (G3D.out.below hb_); have hBE := hide (bcall hBD.out hb_); clear hb_ a0 a1 a2 a3 a4 a5 a6 a7; obtain ⟨a0, a1, a2, a3, a4, a5, a6, a7⟩ := MDE.out.cells)
    | (go_simp; go_at_call 16; (with_reducible refine (rItems_any k p s c b t x u _ m s n _ GME.out HMU.out HBG.out HBS.out HNN.out it HIT.out NI HNI.out).mono ?_); rintro e w8_ ⟨A4, c4_, rfl, ⟨p4_, q4_⟩, G4, hb_⟩; have G4 := hide G4; have GMF := hide (GME.out.below hb_); have MDF := hide (MDE.out.below hb_); have G1F := hide (G1E.out.below hb_); have MEF := hide (MEE.out.below hb_); have G2F := hide (G2E.out.below hb_); have MFF := hide (MFE.out.below hb_); have G3F := hide (G3E.out.below hb_); have hBF := hide (bcall hBE.out hb_); clear hb_))
  all_goals
    clear a0 a1 a2 a3 a4 a5 a6 a7
    have r_N : ((NI : Int) != NI) = false := by simp
    go_wp2
    go_loopw [14] (fun iv wr => ∃ X : Nat, X ≤ NI ∧ iv = .int .i64 X ∧ Below w8_.heap.size w8_ wr) (fun iv _ => NI - (Go.RowKit.intOf iv).toNat)
    case atStart => exact ⟨0, Nat.zero_le _, rfl, Below.refl _ _⟩
    case round =>
      obtain ⟨X, hX, rfl, hbw⟩ := hrel
      by_cases hlt : X < NI
      · have hl2 : X < it.length := by rw [HNI.out]; exact hlt
        obtain ⟨g1, o1, rfl, -, z1⟩ := ints_at (G3F.out.below hbw) hl2
        obtain ⟨g2, o2, rfl, -, z2⟩ := ints_at (G4.out.below hbw) hl2
        generalize it[X] = zz at *
        have r1 : (zz != zz) = false := by simp
        go_wp2
        go_quiet (fail)
        go_wp2
        go_roundw
        case rel => exact ⟨X + 1, by omega, by go_num, bdrewN hbw _⟩
        case measure => simp [Go.RowKit.intOf]; omega
      · go_upto_region 15 with (fail)
        clear GM MD G1 ME G2 MF G3 hB GMD MDD G1D MED G2D MFD G3D hBD GME MDE G1E MEE G2E MFE G3E hBE
        have G1 := hide (cells_drew (G1F.out.below hbw))
        have G2 := hide (cells_drew (G2F.out.below hbw))
        have ME := hide ((⟨(MEF.out.below hbw).blk⟩ : Mb wr.drew _ _))
        have MF := hide ((⟨(MFF.out.below hbw).blk⟩ : RMb wr.drew _ _))
        have MD := hide ((⟨(MDF.out.below hbw).blk⟩ : Mb wr.drew _ _))
        have hBz := hide ((bcall hBF.out hbw).drew)
        clear GMF MDF G1F MEF G2F MFF G3F G4 hBF HSR HL1 HIT HNI HD HMU HBG HBS hbw hX hlt
        go_region_held_law (fun w' => w'.cell? ⟨w.heap.size, 0, none⟩ = some (.int .i64 k) ∧ w'.cell? ⟨w.heap.size, 2, none⟩ = some (.int .i64 s) ∧ w'.cell? ⟨w.heap.size, 6, none⟩ = some (.int .i64 x) ∧ (w'.cell? ⟨w1_.heap.size, 0, none⟩ = some (.int .i64 k1) ∧ w'.cell? ⟨w1_.heap.size, 1, none⟩ = some (.int .i64 p1) ∧ w'.cell? ⟨w1_.heap.size, 2, none⟩ = some (.int .i64 s1) ∧ w'.cell? ⟨w1_.heap.size, 3, none⟩ = some (.int .i64 c1) ∧ w'.cell? ⟨w1_.heap.size, 4, none⟩ = some (.int .u64 b1) ∧ w'.cell? ⟨w1_.heap.size, 5, none⟩ = some (.int .u64 t1) ∧ w'.cell? ⟨w1_.heap.size, 6, none⟩ = some (.int .i64 x1) ∧ w'.cell? ⟨w1_.heap.size, 7, none⟩ = some (.int .i64 u1)) ∧ (w'.cell? ⟨w4_.heap.size, 0, none⟩ = some (.int .i64 k1) ∧ w'.cell? ⟨w4_.heap.size, 1, none⟩ = some (.int .i64 p1) ∧ w'.cell? ⟨w4_.heap.size, 2, none⟩ = some (.int .i64 s1) ∧ w'.cell? ⟨w4_.heap.size, 3, none⟩ = some (.int .i64 c1) ∧ w'.cell? ⟨w4_.heap.size, 4, none⟩ = some (.int .u64 b1) ∧ w'.cell? ⟨w4_.heap.size, 5, none⟩ = some (.int .u64 t1) ∧ w'.cell? ⟨w4_.heap.size, 6, none⟩ = some (.int .i64 x1) ∧ w'.cell? ⟨w4_.heap.size, 7, none⟩ = some (.int .i64 u1))) (exact ⟨MD.out.cells.1, MD.out.cells.2.2.1, MD.out.cells.2.2.2.2.2.2.1, ME.out.cells, MF.out.cells⟩) ((go_simp; first
          | (go_at_call 17; (with_reducible refine (rSame_yes _ _ m1 _ G1.out G2.out).mono ?_); rintro e w9_ ⟨rfl, hb_⟩; replace G1 := hide (G1.out.below hb_); replace G2 := hide (G2.out.below hb_); replace ME := hide (ME.out.below hb_); replace MF := hide (MF.out.below hb_); replace MD := hide (MD.out.below hb_); (try replace C1 := hide (C1.out.below hb_)); (try replace C2 := hide (C2.out.below hb_)); replace hBz := hide (bcall hBz.out hb_); clear hb_; (try go_simp))
          | (go_at_call 17; (with_reducible refine (rSame_yes _ _ (cellsF n) _ C1.out C2.out).mono ?_); rintro e w9_ ⟨rfl, hb_⟩; replace G1 := hide (G1.out.below hb_); replace G2 := hide (G2.out.below hb_); replace ME := hide (ME.out.below hb_); replace MF := hide (MF.out.below hb_); replace MD := hide (MD.out.below hb_); (try replace C1 := hide (C1.out.below hb_)); (try replace C2 := hide (C2.out.below hb_)); replace hBz := hide (bcall hBz.out hb_); clear hb_; (try go_simp))
          | (go_at_call 14; (with_reducible refine (refDeque_any k1 p1 s1 c1 b1 t1 x1 u1 _).mono ?_); rintro e w9_ ⟨rfl, hb_⟩; replace G1 := hide (G1.out.below hb_); replace G2 := hide (G2.out.below hb_); replace ME := hide (ME.out.below hb_); replace MF := hide (MF.out.below hb_); replace MD := hide (MD.out.below hb_); (try replace C1 := hide (C1.out.below hb_)); (try replace C2 := hide (C2.out.below hb_)); replace hBz := hide (bcall hBz.out hb_); clear hb_; (try go_simp))
          | (go_at_call 14; (with_reducible refine (refDeque_any k 0 s n 0 0 x 0 _).mono ?_); rintro e w9_ ⟨rfl, hb_⟩; replace G1 := hide (G1.out.below hb_); replace G2 := hide (G2.out.below hb_); replace ME := hide (ME.out.below hb_); replace MF := hide (MF.out.below hb_); replace MD := hide (MD.out.below hb_); (try replace C1 := hide (C1.out.below hb_)); (try replace C2 := hide (C2.out.below hb_)); replace hBz := hide (bcall hBz.out hb_); clear hb_; (try go_simp))
          | (go_at_call 18; (with_reducible refine (Cells_any n HNN.out NC HNC.out _).mono ?_); rintro e w9_ ⟨A5, c5_, rfl, ⟨p5_, q5_⟩, C5, hb_⟩; replace G1 := hide (G1.out.below hb_); replace G2 := hide (G2.out.below hb_); replace ME := hide (ME.out.below hb_); replace MF := hide (MF.out.below hb_); replace MD := hide (MD.out.below hb_); (try replace C1 := hide (C1.out.below hb_)); (try replace C2 := hide (C2.out.below hb_)); replace hBz := hide (bcall hBz.out hb_); clear hb_; have C1 := hide C5; clear C5; (try go_simp))
          | (go_at_call 19; (with_reducible refine (rCells_any n HNN.out NC HNC.out _).mono ?_); rintro e w9_ ⟨A6, c6_, rfl, ⟨p6_, q6_⟩, C6, hb_⟩; replace G1 := hide (G1.out.below hb_); replace G2 := hide (G2.out.below hb_); replace ME := hide (ME.out.below hb_); replace MF := hide (MF.out.below hb_); replace MD := hide (MD.out.below hb_); (try replace C1 := hide (C1.out.below hb_)); (try replace C2 := hide (C2.out.below hb_)); replace hBz := hide (bcall hBz.out hb_); clear hb_; have C2 := hide C6; clear C6; (try go_simp))
          | (go_at_call 20; (with_reducible refine (Start_any k s n x _).mono ?_); rintro e w9_ ⟨rfl, hb_⟩; replace G1 := hide (G1.out.below hb_); replace G2 := hide (G2.out.below hb_); replace ME := hide (ME.out.below hb_); replace MF := hide (MF.out.below hb_); replace MD := hide (MD.out.below hb_); (try replace C1 := hide (C1.out.below hb_)); (try replace C2 := hide (C2.out.below hb_)); replace hBz := hide (bcall hBz.out hb_); clear hb_; (try go_simp))
          | (go_at_call 21; (with_reducible refine (rStart_any k s n x _).mono ?_); rintro e w9_ ⟨rfl, hb_⟩; replace G1 := hide (G1.out.below hb_); replace G2 := hide (G2.out.below hb_); replace ME := hide (ME.out.below hb_); replace MF := hide (MF.out.below hb_); replace MD := hide (MD.out.below hb_); (try replace C1 := hide (C1.out.below hb_)); (try replace C2 := hide (C2.out.below hb_)); replace hBz := hide (bcall hBz.out hb_); clear hb_; (try go_simp))))
        all_goals
          go_wp2
          go_ret
          exact ⟨rfl, hBz.out⟩

set_option maxRecDepth 100000 in
theorem lifted (os : Os) (started : os.Started) (H : Type) (enc : TypeId × Value → H) :
    ReturnsInHanded {} Try.checked os 3 .any (Rows.dequeTellsSpec.pre6 enc Try.prog Try.f3 Rows.dequeTellsRow.domain false) (Rows.dequeTellsSpec.post enc Try.prog Try.f3 false true false false) := by
  refine returnsInHanded_of_change_sized (C := Try.checked) ownL started (by kernel_rfl) Try.func3
    (ChangeSpec.witness6 (enc := enc) (C := Try.checked) false ⟨#[], #[.slice none 0 0, .agg #[.int .i64 0, .int .i64 0, .int .i64 0, .int .i64 0, .int .u64 0, .int .u64 0, .int .i64 0, .int .i64 0], .int .i64 0], []⟩ 8 (by kernel_rfl) (by kernel_rfl) (by kernel_rfl) (by kernel_rfl)) ?_
  intro W base args ds gs before hval hW _ hsz0 _
  have hW' := hW
  obtain ⟨p, q, hA0, hV, rfl, hfz, hnd⟩ := hW
  have hA : DataW.TrodAll enc Try.prog W 0 (fun _ => true) true Try.f3.params.toList args.toList ds p := hA0
  rw [Try.params3] at hA hval
  obtain ⟨v0, vs0, d0, ds0, p0, q0, hargs, rfl, rfl, h0, r0⟩ := trodAll_cons hA
  obtain ⟨v1, vs1, d1, ds1, p1, q1, rfl, rfl, rfl, h1, r1⟩ := trodAll_cons r0
  obtain ⟨v2, vs2, d2, ds2, p2, q2, rfl, rfl, rfl, h2, r2⟩ := trodAll_cons r1
  obtain ⟨rfl, rfl, rfl⟩ := trodAll_nil r2
  obtain rfl : args = #[v0, v1, v2] := by cases args; simp_all
  obtain ⟨rfl, rfl⟩ := trodVars_none hV
  obtain ⟨l0, hl0, hq0, hd0⟩ := open_cells (hval 0 23 v0 rfl rfl) h0
  obtain ⟨k1, p1, s1, c1, b1, t1, x1, u1, rfl, hq1⟩ := open_mach (hval 1 26 v1 rfl rfl) h1
  obtain ⟨a2, rfl, rfl, rfl, w2⟩ := open_int Try.underlying3 (hval 2 3 v2 rfl rfl) h2
  have hx2 : -9223372036854775808 ≤ a2 ∧ a2 ≤ 9223372036854775807 := by simpa [Lit.wf, IntKind.min, IntKind.max, IntKind.signed, IntKind.bits] using w2
  have hsz : (DataW.weightsEach Try.prog [23, 26, 3] ([d0, d1, .lit (.int .i64 a2)] : List (DataW H))).all (· ≤ reachBytes) = true := hsz0
  have e0 : l0.length * 8 ≤ 140737488351232 := slice_reach hsz 0 rfl rfl Try.underlying23 (by kernel_rfl) hd0
  refine (walk k1 p1 s1 c1 b1 t1 x1 u1 v0 l0 a2 W hl0 hq0 (by omega) hq1 hx2).mono fun e W' ⟨he, hg⟩ => ?_
  subst he
  exact ⟨_, rfl, law_post laidOutL (by kernel_rfl) rfl Try.underlying4 rfl ⟨rfl, rfl, rfl⟩ hW' hg⟩

/-- THE STATEMENT -/
theorem proved : Rows.DequeTellsSaid :=
  OpenClaim.holds_of_wide 3 Try.f3 rfl rfl rfl rfl rfl rfl rfl ⟨rfl, rfl, rfl, rfl, rfl⟩ rfl rfl rfl rfl rfl (by kernel_rfl) Try.func3 (by kernel_rfl)
    (of_decide_eq_true (by kernel_rfl)) (by unfold Func.isWrapper; first | (rw [if_pos (by decide +kernel)]; kernel_rfl) | (rw [if_neg (by decide +kernel)]; exact ⟨rfl, rfl⟩))
    (fun os started H enc _ => lifted os started H enc)
end Go.Proofs.Ytimjlgglhonhkaa.lawDequeTells
