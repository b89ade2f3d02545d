/- ChainTells: for any cells, any machine, a list, two numbers: a step is what the document's own answer says, and so are lists, what is laid, heads and machines. Condition: all together hold at most 1048576 values (the form upto). -/
import Derived.Test.YtpffknlbffnafaaChainEx
import Derived.Test.YtpffknlbffnafaaRefChainSL
import Derived.Test.YtpffknlbffnafaaMemOpen
import Derived.Test.YtpffknlbffnafaaHeldImp
import Derived.Laws.StructEq
namespace Go.Proofs.Ytpffknlbffnafaa.ch.lawChainTells
open Go.RowKit Go.WideShapes Go.ChangeShapes Go.ChangeAt Go.Proofs Go.Proofs.Ytpffknlbffnafaa

set_option maxRecDepth 100000 in
theorem open_ints {H : Type} {enc : TypeId × Value → H} {W : World} {base : Nat} {spare : Nat → Bool} {held : Bool} {v : Value} {d : DataW H} {ps : List MemPlace} {r : Reach} {b0 : Nat} (ok : Value.okWide Try.prog W r b0 27 v) (h : DataW.Trod enc Try.prog W base spare held 27 v d ps) :
    ∃ l : List Int, Ints W v l ∧ (∀ o ∈ l, -9223372036854775808 ≤ o ∧ o ≤ 9223372036854775807) ∧ ((d = .nil ∧ l = []) ∨ ∃ el rest, d = .slice el rest ∧ el.length = l.length) :=
  sl_of_trod Try.underlying27 (by kernel_rfl) (by decide) (fun _ => rfl) (fun n cs x hx => by
    obtain ⟨a, ha, _, wa⟩ := DataW.trod_int Try.underlying3 hx
    exact ⟨a, ha, by simpa [Lit.wf, IntKind.min, IntKind.max, IntKind.signed, IntKind.bits] using wa⟩) ok h
theorem guardR : Try.prog.eqGuardType Try.prog.depth 31 = false := by kernel_rfl
theorem rStep_c (k p s c b t x u : Int) (v : Value) (m : List Int) (w : World) (h : Cells w v m) (hbig : m.length * 8 ≤ 140737488351232) (hb : U b) (hm : ∀ x ∈ m, U x) (m1 : List Int) (k1 p1 s1 c1 b1 t1 x1 u1 : Int)
    (hr : cstepF m ⟨k, p, s, c, b, t, x, u⟩ = (m1, ⟨k1, p1, s1, c1, b1, t1, x1, u1⟩)) (n : Nat) (hn : m1.length = n) :
    Calls Try.prog 7 #[v, mvv k p s c b t x u] w fun e w' => ∃ A c, e = .returned (.tuple #[.slice A n c, mvv k1 p1 s1 c1 b1 t1 x1 u1]) ∧ (n ≤ c ∧ c ≤ 9223372036854775807) ∧ Cells w' (.slice A n c) m1 ∧ Below w.heap.size w w' := by
  subst hn
  refine (rStep_any k p s c b t x u v m w h hbig hb hm).mono ?_
  rw [hr]
  rintro e w' ⟨A, c, rfl, h1, h2, -, h4⟩
  exact ⟨A, c, rfl, h1, h2, h4⟩
theorem rSame_yes (va vb : Value) (a : List Int) (w : World) (ha : Cells w va a) (hb : Cells w vb a) : Calls Try.prog 9 #[va, vb] w fun e w' => e = .returned (.bool true) ∧ Below w.heap.size w w' := by
  refine (rSame_any va vb a a w ha hb).mono ?_
  rintro e w' ⟨rfl, h⟩
  exact ⟨by simp, h⟩
set_option maxRecDepth 100000 in
set_option maxHeartbeats 16000000 in
theorem walk (k p s c b t x u : Int) (v lv : Value) (m l : List Int) (most n : Int) (w : World) (h : Cells w v m) (hm : AllU m) (hbig : m.length * 8 ≤ 140737488351232) (hd : McU ⟨k, p, s, c, b, t, x, u⟩) (hl : Ints w lv l) (hbl : l.length ≤ 1048576) (hn : U n) :
    Calls Try.prog 3 #[v, mvv k p s c b t x u, lv, .int .i64 most, .int .u64 n] w fun e w' => e = .returned (.bool true) ∧ Below w.heap.size w w' := by
  have hB := hide (Below.refl w.heap.size w)
  have GM := hide h
  have GL := hide hl
  obtain ⟨A, c0, rfl, hc1, hc2⟩ := cells_form' h
  obtain ⟨B0, b0, rfl, hb01, hb02, -⟩ := id hl
  unfold maxLen at hb02
  obtain ⟨r, hr⟩ : ∃ r, cstepF m ⟨k, p, s, c, b, t, x, u⟩ = r := ⟨_, rfl⟩
  obtain ⟨m1, ⟨k1, p1, s1, c1, b1, t1, x1, u1⟩⟩ := r
  obtain ⟨L1, hL1⟩ : ∃ L1, m1.length = L1 := ⟨_, rfl⟩
  obtain ⟨ly, hly⟩ : ∃ ly, layF m s c l = ly := ⟨_, rfl⟩
  obtain ⟨ls, hls⟩ : ∃ ls, listF m s c most = ls := ⟨_, rfl⟩
  obtain ⟨NL, hNL⟩ : ∃ NL, ls.length = NL := ⟨_, rfl⟩
  obtain ⟨pk, hpk⟩ : ∃ pk, packF n x = pk := ⟨_, rfl⟩
  obtain ⟨nd, hnd⟩ : ∃ nd, nodeF n = nd := ⟨_, rfl⟩
  have HSR := hide hr
  have HL1 := hide hL1
  have HLY := hide hly
  have HLS := hide hls
  have HNL := hide hNL
  have HPK := hide (show packF n t = packF n t from rfl)
  have HND := hide hnd
  have HUB := hide hd.h
  have HMU := hide (show ∀ x ∈ m, U x from hm)
  have HBG := hide hbig
  have HBL := hide hbl
  have HNN := hide hn
  have gR := guardR
  have r_k1 : (k1 == k1) = true := by simp
  have r_p1 : (p1 == p1) = true := by simp
  have r_s1 : (s1 == s1) = true := by simp
  have r_c1 : (c1 == c1) = true := by simp
  have r_b1 : (b1 == b1) = true := by simp
  have r_t1 : (t1 == t1) = true := by simp
  have r_x1 : (x1 == x1) = true := by simp
  have r_u1 : (u1 == u1) = true := by simp
  have r_k : (k == k) = true := by simp
  have r_s : (s == s) = true := by simp
  have r_c : (c == c) = true := by simp
  have r_t : (t == t) = true := by simp
  have r_nd : (nd == nd) = true := by simp
  clear h hm hd hr hn hL1 hly hls hNL hbig hl hbl hnd hpk pk HPK
  obtain ⟨pk, hpk⟩ : ∃ pk, packF n t = pk := ⟨_, rfl⟩
  have HPK := hide hpk
  have r_pk : (pk == pk) = true := by simp
  clear hpk
  obtain ⟨wp, ep, hbp, MD⟩ := box_res w k p s c b t x u
  have EP := hide ep
  replace MD := hide MD
  clear ep
  replace GM := hide (GM.out.below hbp)
  replace GL := hide (GL.out.below hbp)
  replace hB := hide (bcall hB.out hbp)
  clear hbp
  go_enter Try.func3, Try.ntmps3
  go_wp2_with fail
  rw [EP.out]
  (with_reducible refine (examples_any _).mono ?_)
  rintro e w0_ ⟨rfl, hb_⟩
  replace GM := hide (GM.out.below hb_)
  replace GL := hide (GL.out.below hb_)
  replace MD := hide (MD.out.below hb_)
  replace hB := hide (bcall hB.out hb_)
  clear hb_
  obtain ⟨a0, a1, a2, a3, a4, a5, a6, a7⟩ := MD.out.cells
  go_wp2_with fail
  (with_reducible refine (Step_c k p s c b t x u _ m _ GM.out HBG.out m1 k1 p1 s1 c1 b1 t1 x1 u1 HSR.out L1 HL1.out).mono ?_)
  rintro e w1_ ⟨A1, c1_, rfl, ⟨p1_, q1_⟩, G1, hb_, -⟩
  replace G1 := hide G1
  replace GM := hide (GM.out.below hb_)
  replace GL := hide (GL.out.below hb_)
  replace MD := hide (MD.out.below hb_)
  replace hB := hide (bcall hB.out hb_)
  clear hb_
  clear a0 a1 a2 a3 a4 a5 a6 a7
  obtain ⟨w2_, e2_, hb_, ME⟩ := box_res w1_ k1 p1 s1 c1 b1 t1 x1 u1
  have E2_ := hide e2_
  replace ME := hide ME
  clear e2_
  replace GM := hide (GM.out.below hb_)
  replace GL := hide (GL.out.below hb_)
  replace MD := hide (MD.out.below hb_)
  replace G1 := hide (G1.out.below hb_)
  replace hB := hide (bcall hB.out hb_)
  clear hb_
  go_upto_region 5 with (fail)
  rw [E2_.out]
  obtain ⟨a0, a1, a2, a3, a4, a5, a6, a7⟩ := MD.out.cells
  go_wp2_with fail
  (with_reducible refine (refChain_any k p s c b t x u _).mono ?_)
  rintro e w3_ ⟨rfl, hb_⟩
  replace GM := hide (GM.out.below hb_)
  replace GL := hide (GL.out.below hb_)
  replace MD := hide (MD.out.below hb_)
  replace G1 := hide (G1.out.below hb_)
  replace ME := hide (ME.out.below hb_)
  replace hB := hide (bcall hB.out hb_)
  clear hb_
  clear a0 a1 a2 a3 a4 a5 a6 a7
  go_wp2_with fail
  (with_reducible refine (rStep_c k p s c b t x u _ m _ GM.out HBG.out HUB.out HMU.out m1 k1 p1 s1 c1 b1 t1 x1 u1 HSR.out L1 HL1.out).mono ?_)
  rintro e w4_ ⟨A2, c2_, rfl, ⟨p2_, q2_⟩, G2, hb_⟩
  replace G2 := hide G2
  replace GM := hide (GM.out.below hb_)
  replace GL := hide (GL.out.below hb_)
  replace MD := hide (MD.out.below hb_)
  replace G1 := hide (G1.out.below hb_)
  replace ME := hide (ME.out.below hb_)
  replace hB := hide (bcall hB.out hb_)
  clear hb_
  obtain ⟨w5_, e5_, hb_, MF⟩ := rbox_one w4_ k1 p1 s1 c1 b1 t1 x1 u1
  have E5_ := hide e5_
  replace MF := hide MF
  clear e5_
  replace GM := hide (GM.out.below hb_)
  replace GL := hide (GL.out.below hb_)
  replace MD := hide (MD.out.below hb_)
  replace G1 := hide (G1.out.below hb_)
  replace ME := hide (ME.out.below hb_)
  replace G2 := hide (G2.out.below hb_)
  replace hB := hide (bcall hB.out hb_)
  clear hb_
  go_upto_region 6 with (fail)
  rw [E5_.out]
  replace GM := hide (cells_drew GM.out)
  replace GL := hide ((show Ints w5_.drew _ _ from GL.out))
  replace MD := hide ((⟨MD.out.blk⟩ : Mb w5_.drew _ _))
  replace G1 := hide (cells_drew G1.out)
  replace ME := hide ((⟨ME.out.blk⟩ : Mb w5_.drew _ _))
  replace G2 := hide (cells_drew G2.out)
  replace MF := hide ((⟨MF.out.blk⟩ : RMb w5_.drew _ _))
  replace hB := hide hB.out.drew
  simp only [List.append_eq, List.cons_append, List.nil_append]
  refine wp_region_held_drew (S := fun w' => w'.cell? ⟨w.heap.size, 0, none⟩ = some (.int .i64 k) ∧ w'.cell? ⟨w.heap.size, 2, none⟩ = some (.int .i64 s) ∧ w'.cell? ⟨w.heap.size, 3, none⟩ = some (.int .i64 c) ∧ w'.cell? ⟨w.heap.size, 5, none⟩ = some (.int .i64 t) ∧ w'.cell? ⟨w1_.heap.size, 0, none⟩ = some (.int .i64 k1) ∧ w'.cell? ⟨w1_.heap.size, 1, none⟩ = some (.int .i64 p1) ∧ w'.cell? ⟨w1_.heap.size, 2, none⟩ = some (.int .i64 s1) ∧ w'.cell? ⟨w1_.heap.size, 3, none⟩ = some (.int .i64 c1) ∧ w'.cell? ⟨w1_.heap.size, 4, none⟩ = some (.int .u64 b1) ∧ w'.cell? ⟨w1_.heap.size, 5, none⟩ = some (.int .i64 t1) ∧ w'.cell? ⟨w1_.heap.size, 6, none⟩ = some (.int .i64 x1) ∧ w'.cell? ⟨w1_.heap.size, 7, none⟩ = some (.int .i64 u1) ∧ w'.cell? ⟨w4_.heap.size, 0, none⟩ = some (.int .i64 k1) ∧ w'.cell? ⟨w4_.heap.size, 1, none⟩ = some (.int .i64 p1) ∧ w'.cell? ⟨w4_.heap.size, 2, none⟩ = some (.int .i64 s1) ∧ w'.cell? ⟨w4_.heap.size, 3, none⟩ = some (.int .i64 c1) ∧ w'.cell? ⟨w4_.heap.size, 4, none⟩ = some (.int .u64 b1) ∧ w'.cell? ⟨w4_.heap.size, 5, none⟩ = some (.int .i64 t1) ∧ w'.cell? ⟨w4_.heap.size, 6, none⟩ = some (.int .i64 x1) ∧ w'.cell? ⟨w4_.heap.size, 7, none⟩ = some (.int .i64 u1)) (by kernel_rfl) ?_ (fun hHeld => ?_)
  · exact ⟨MD.out.cells.1, MD.out.cells.2.2.1, MD.out.cells.2.2.2.1, MD.out.cells.2.2.2.2.2.1, ME.out.cells.1, ME.out.cells.2.1, ME.out.cells.2.2.1, ME.out.cells.2.2.2.1, ME.out.cells.2.2.2.2.1, ME.out.cells.2.2.2.2.2.1, ME.out.cells.2.2.2.2.2.2.1, ME.out.cells.2.2.2.2.2.2.2, MF.out.cells.1, MF.out.cells.2.1, MF.out.cells.2.2.1, MF.out.cells.2.2.2.1, MF.out.cells.2.2.2.2.1, MF.out.cells.2.2.2.2.2.1, MF.out.cells.2.2.2.2.2.2.1, MF.out.cells.2.2.2.2.2.2.2⟩
  refine wpAnyH_take (i := 0) (oi := { dst := some 32, op := Op.move (Operand.tmp 11), type := 4, pos := "law.go:62", after := #[], guard := none }) (v := ?_) rfl (by kernel_rfl) (by kernel_rfl) (by kernel_rfl) (fun _ _ _ h => h) (Or.inl ⟨by rfl, ?_⟩) (by assumption) ?_
  rotate_left
  · intro w_ hSw; (try dsimp only at hSw); go_simp; (try with_reducible rfl)
  (try simp only [Act.put, List.setIfInBounds_toArray, List.set_cons_zero, List.set_cons_succ])
  refine wpAnyH_take (i := 1) (oi := { dst := some 33, op := Op.move (Operand.tmp 32), type := 4, pos := "law.go:62", after := #[{ on := 0, ground := Ground.data }], guard := none }) (v := ?_) rfl (by kernel_rfl) (by kernel_rfl) (by kernel_rfl) (fun _ _ _ h => h) (Or.inl ⟨by rfl, ?_⟩) (by assumption) ?_
  rotate_left
  · intro w_ hSw; (try dsimp only at hSw); go_simp; (try with_reducible rfl)
  (try simp only [Act.put, List.setIfInBounds_toArray, List.set_cons_zero, List.set_cons_succ])
  refine wpAnyH_take (i := 2) (oi := { dst := some 34, op := Op.move (Operand.tmp 12), type := 23, pos := "law.go:62", after := #[{ on := 1, ground := Ground.guard }], guard := some (1, true) }) (v := ?_) rfl (by kernel_rfl) (by kernel_rfl) (by kernel_rfl) (fun _ _ _ h => h) (Or.inl ⟨by rfl, ?_⟩) (by assumption) ?_
  rotate_left
  · intro w_ hSw; (try dsimp only at hSw); go_simp; (try with_reducible rfl)
  (try simp only [Act.put, List.setIfInBounds_toArray, List.set_cons_zero, List.set_cons_succ])
  refine wpAnyH_take (i := 3) (oi := { dst := some 35, op := Op.move (Operand.tmp 14), type := 22, pos := "law.go:62", after := #[{ on := 1, ground := Ground.guard }], guard := some (1, true) }) (v := ?_) rfl (by kernel_rfl) (by kernel_rfl) (by kernel_rfl) (fun _ _ _ h => h) (Or.inl ⟨by rfl, ?_⟩) (by assumption) ?_
  rotate_left
  · intro w_ hSw; (try dsimp only at hSw); go_simp; (try with_reducible rfl)
  (try simp only [Act.put, List.setIfInBounds_toArray, List.set_cons_zero, List.set_cons_succ])
  refine wpAnyH_ready (rs := [4]) (by kernel_rfl) (by simp) ?_
  refine AllReadyH.cons rfl (fun K hK => ?_) AllReadyH.nil
  go_simp
  go_at_call 9
  (with_reducible refine (rSame_yes _ _ m1 _ G1.out G2.out).mono ?_)
  rintro e w49_ ⟨rfl, hb_⟩
  replace GM := hide (GM.out.below hb_)
  replace GL := hide (GL.out.below hb_)
  replace MD := hide (MD.out.below hb_)
  replace G1 := hide (G1.out.below hb_)
  replace ME := hide (ME.out.below hb_)
  replace G2 := hide (G2.out.below hb_)
  replace MF := hide (MF.out.below hb_)
  replace hB := hide (bcall hB.out hb_)
  clear hb_
  (try go_simp)
  refine hK.out _ _ ⟨MD.out.cells.1, MD.out.cells.2.2.1, MD.out.cells.2.2.2.1, MD.out.cells.2.2.2.2.2.1, ME.out.cells.1, ME.out.cells.2.1, ME.out.cells.2.2.1, ME.out.cells.2.2.2.1, ME.out.cells.2.2.2.2.1, ME.out.cells.2.2.2.2.2.1, ME.out.cells.2.2.2.2.2.2.1, ME.out.cells.2.2.2.2.2.2.2, MF.out.cells.1, MF.out.cells.2.1, MF.out.cells.2.2.1, MF.out.cells.2.2.2.1, MF.out.cells.2.2.2.2.1, MF.out.cells.2.2.2.2.2.1, MF.out.cells.2.2.2.2.2.2.1, MF.out.cells.2.2.2.2.2.2.2⟩ (fun hHeld => ?_)
  (try simp only [Act.put, List.setIfInBounds_toArray, List.set_cons_zero, List.set_cons_succ])
  refine wpAnyH_take (i := 5) (oi := { dst := some 37, op := Op.pick (Operand.tmp 33) (Operand.tmp 36) (Operand.const (Value.bool false)), type := 4, pos := "law.go:62", after := #[{ on := 1, ground := Ground.data }, { on := 4, ground := Ground.data }], guard := none }) (v := ?_) rfl (by kernel_rfl) (by kernel_rfl) (by kernel_rfl) (fun _ _ _ h => h) (Or.inl ⟨by rfl, ?_⟩) (by assumption) ?_
  rotate_left
  · intro w_ hSw; (try dsimp only at hSw); go_simp; (try with_reducible rfl)
  (try simp only [Act.put, List.setIfInBounds_toArray, List.set_cons_zero, List.set_cons_succ])
  refine wpAnyH_take (i := 6) (oi := { dst := some 38, op := Op.move (Operand.tmp 37), type := 4, pos := "law.go:62", after := #[{ on := 5, ground := Ground.data }, { on := 4, ground := Ground.chain }], guard := none }) (v := ?_) rfl (by kernel_rfl) (by kernel_rfl) (by kernel_rfl) (fun _ _ _ h => h) (Or.inl ⟨by rfl, ?_⟩) (by assumption) ?_
  rotate_left
  · intro w_ hSw; (try dsimp only at hSw); go_simp; (try with_reducible rfl)
  (try simp only [Act.put, List.setIfInBounds_toArray, List.set_cons_zero, List.set_cons_succ])
  refine wpAnyH_take (i := 7) (oi := { dst := some 39, op := Op.load 26 (Operand.tmp 13), type := 26, pos := "law.go:62", after := #[{ on := 6, ground := Ground.guard }], guard := some (6, true) }) (v := ?_) rfl (by kernel_rfl) (by kernel_rfl) (by kernel_rfl) (fun _ _ _ h => h) (Or.inl ⟨by rfl, ?_⟩) (by assumption) ?_
  rotate_left
  · intro w_ hSw; (try dsimp only at hSw); go_simp; (try with_reducible rfl)
  (try simp only [Act.put, List.setIfInBounds_toArray, List.set_cons_zero, List.set_cons_succ])
  refine wpAnyH_take (i := 9) (oi := { dst := some 41, op := Op.load 31 (Operand.tmp 15), type := 31, pos := "law.go:62", after := #[{ on := 6, ground := Ground.guard }], guard := some (6, true) }) (v := ?_) rfl (by kernel_rfl) (by kernel_rfl) (by kernel_rfl) (fun _ _ _ h => h) (Or.inl ⟨by rfl, ?_⟩) (by assumption) ?_
  rotate_left
  · intro w_ hSw; (try dsimp only at hSw); go_simp; (try with_reducible rfl)
  (try simp only [Act.put, List.setIfInBounds_toArray, List.set_cons_zero, List.set_cons_succ])
  refine wpAnyH_ready (rs := [8]) (by kernel_rfl) (by simp) ?_
  refine AllReadyH.cons rfl (fun K hK => ?_) AllReadyH.nil
  go_simp
  go_at_call 8
  (with_reducible refine (refChain_any k1 p1 s1 c1 b1 t1 x1 u1 _).mono ?_)
  rintro e w89_ ⟨rfl, hb_⟩
  replace GM := hide (GM.out.below hb_)
  replace GL := hide (GL.out.below hb_)
  replace MD := hide (MD.out.below hb_)
  replace G1 := hide (G1.out.below hb_)
  replace ME := hide (ME.out.below hb_)
  replace G2 := hide (G2.out.below hb_)
  replace MF := hide (MF.out.below hb_)
  replace hB := hide (bcall hB.out hb_)
  clear hb_
  (try go_simp)
  refine hK.out _ _ ⟨MD.out.cells.1, MD.out.cells.2.2.1, MD.out.cells.2.2.2.1, MD.out.cells.2.2.2.2.2.1, ME.out.cells.1, ME.out.cells.2.1, ME.out.cells.2.2.1, ME.out.cells.2.2.2.1, ME.out.cells.2.2.2.2.1, ME.out.cells.2.2.2.2.2.1, ME.out.cells.2.2.2.2.2.2.1, ME.out.cells.2.2.2.2.2.2.2, MF.out.cells.1, MF.out.cells.2.1, MF.out.cells.2.2.1, MF.out.cells.2.2.2.1, MF.out.cells.2.2.2.2.1, MF.out.cells.2.2.2.2.2.1, MF.out.cells.2.2.2.2.2.2.1, MF.out.cells.2.2.2.2.2.2.2⟩ (fun hHeld => ?_)
  (try simp only [Act.put, List.setIfInBounds_toArray, List.set_cons_zero, List.set_cons_succ])
  refine wpAnyH_take (i := 10) (oi := { dst := some 42, op := Op.binOp BinOp.eql 31 (Operand.tmp 40) (Operand.tmp 41) 31, type := 4, pos := "law.go:62", after := #[{ on := 8, ground := Ground.data }, { on := 9, ground := Ground.data }, { on := 6, ground := Ground.guard }], guard := some (6, true) }) (v := ?_) rfl (by kernel_rfl) (by kernel_rfl) (by kernel_rfl) (fun _ _ _ h => h) (Or.inl ⟨by rfl, ?_⟩) (by assumption) ?_
  rotate_left
  · intro w_ hSw; (try dsimp only at hSw); go_simp; (try with_reducible rfl)
  (try simp only [Act.put, List.setIfInBounds_toArray, List.set_cons_zero, List.set_cons_succ])
  refine wpAnyH_take (i := 11) (oi := { dst := some 43, op := Op.pick (Operand.tmp 38) (Operand.tmp 42) (Operand.const (Value.bool false)), type := 4, pos := "law.go:62", after := #[{ on := 6, ground := Ground.data }, { on := 10, ground := Ground.data }], guard := none }) (v := ?_) rfl (by kernel_rfl) (by kernel_rfl) (by kernel_rfl) (fun _ _ _ h => h) (Or.inl ⟨by rfl, ?_⟩) (by assumption) ?_
  rotate_left
  · intro w_ hSw; (try dsimp only at hSw); go_simp; (try with_reducible rfl)
  (try simp only [Act.put, List.setIfInBounds_toArray, List.set_cons_zero, List.set_cons_succ])
  refine wpAnyH_take (i := 12) (oi := { dst := some 44, op := Op.move (Operand.tmp 43), type := 4, pos := "law.go:62", after := #[{ on := 11, ground := Ground.data }, { on := 8, ground := Ground.chain }], guard := none }) (v := ?_) rfl (by kernel_rfl) (by kernel_rfl) (by kernel_rfl) (fun _ _ _ h => h) (Or.inl ⟨by rfl, ?_⟩) (by assumption) ?_
  rotate_left
  · intro w_ hSw; (try dsimp only at hSw); go_simp; (try with_reducible rfl)
  (try simp only [Act.put, List.setIfInBounds_toArray, List.set_cons_zero, List.set_cons_succ])
  refine wpAnyH_take (i := 13) (oi := { dst := some 45, op := Op.move (Operand.tmp 0), type := 23, pos := "law.go:62", after := #[{ on := 12, ground := Ground.guard }], guard := some (12, true) }) (v := ?_) rfl (by kernel_rfl) (by kernel_rfl) (by kernel_rfl) (fun _ _ _ h => h) (Or.inl ⟨by rfl, ?_⟩) (by assumption) ?_
  rotate_left
  · intro w_ hSw; (try dsimp only at hSw); go_simp; (try with_reducible rfl)
  (try simp only [Act.put, List.setIfInBounds_toArray, List.set_cons_zero, List.set_cons_succ])
  refine wpAnyH_take (i := 14) (oi := { dst := some 46, op := Op.fieldAddr 26 (Operand.tmp 6) 2, type := 0, pos := "law.go:62", after := #[{ on := 12, ground := Ground.guard }], guard := some (12, true) }) (v := ?_) rfl (by kernel_rfl) (by kernel_rfl) (by kernel_rfl) (fun _ _ _ h => h) (Or.inl ⟨by rfl, ?_⟩) (by assumption) ?_
  rotate_left
  · intro w_ hSw; (try dsimp only at hSw); go_simp; (try with_reducible rfl)
  (try simp only [Act.put, List.setIfInBounds_toArray, List.set_cons_zero, List.set_cons_succ])
  refine wpAnyH_take (i := 15) (oi := { dst := some 47, op := Op.load 3 (Operand.tmp 46), type := 3, pos := "law.go:62", after := #[{ on := 14, ground := Ground.data }, { on := 12, ground := Ground.guard }], guard := some (12, true) }) (v := ?_) rfl (by kernel_rfl) (by kernel_rfl) (by kernel_rfl) (fun _ _ _ h => h) (Or.inl ⟨by rfl, ?_⟩) (by assumption) ?_
  rotate_left
  · intro w_ hSw; (try dsimp only at hSw); go_simp; (try with_reducible rfl)
  (try simp only [Act.put, List.setIfInBounds_toArray, List.set_cons_zero, List.set_cons_succ])
  refine wpAnyH_take (i := 16) (oi := { dst := some 48, op := Op.fieldAddr 26 (Operand.tmp 6) 3, type := 0, pos := "law.go:62", after := #[{ on := 12, ground := Ground.guard }], guard := some (12, true) }) (v := ?_) rfl (by kernel_rfl) (by kernel_rfl) (by kernel_rfl) (fun _ _ _ h => h) (Or.inl ⟨by rfl, ?_⟩) (by assumption) ?_
  rotate_left
  · intro w_ hSw; (try dsimp only at hSw); go_simp; (try with_reducible rfl)
  (try simp only [Act.put, List.setIfInBounds_toArray, List.set_cons_zero, List.set_cons_succ])
  refine wpAnyH_take (i := 17) (oi := { dst := some 49, op := Op.load 3 (Operand.tmp 48), type := 3, pos := "law.go:62", after := #[{ on := 16, ground := Ground.data }, { on := 12, ground := Ground.guard }], guard := some (12, true) }) (v := ?_) rfl (by kernel_rfl) (by kernel_rfl) (by kernel_rfl) (fun _ _ _ h => h) (Or.inl ⟨by rfl, ?_⟩) (by assumption) ?_
  rotate_left
  · intro w_ hSw; (try dsimp only at hSw); go_simp; (try with_reducible rfl)
  (try simp only [Act.put, List.setIfInBounds_toArray, List.set_cons_zero, List.set_cons_succ])
  refine wpAnyH_take (i := 18) (oi := { dst := some 50, op := Op.move (Operand.tmp 2), type := 27, pos := "law.go:62", after := #[{ on := 12, ground := Ground.guard }], guard := some (12, true) }) (v := ?_) rfl (by kernel_rfl) (by kernel_rfl) (by kernel_rfl) (fun _ _ _ h => h) (Or.inl ⟨by rfl, ?_⟩) (by assumption) ?_
  rotate_left
  · intro w_ hSw; (try dsimp only at hSw); go_simp; (try with_reducible rfl)
  (try simp only [Act.put, List.setIfInBounds_toArray, List.set_cons_zero, List.set_cons_succ])
  refine wpAnyH_take (i := 20) (oi := { dst := some 52, op := Op.move (Operand.tmp 0), type := 23, pos := "law.go:62", after := #[{ on := 12, ground := Ground.guard }], guard := some (12, true) }) (v := ?_) rfl (by kernel_rfl) (by kernel_rfl) (by kernel_rfl) (fun _ _ _ h => h) (Or.inl ⟨by rfl, ?_⟩) (by assumption) ?_
  rotate_left
  · intro w_ hSw; (try dsimp only at hSw); go_simp; (try with_reducible rfl)
  (try simp only [Act.put, List.setIfInBounds_toArray, List.set_cons_zero, List.set_cons_succ])
  refine wpAnyH_take (i := 21) (oi := { dst := some 53, op := Op.fieldAddr 26 (Operand.tmp 6) 2, type := 0, pos := "law.go:62", after := #[{ on := 12, ground := Ground.guard }], guard := some (12, true) }) (v := ?_) rfl (by kernel_rfl) (by kernel_rfl) (by kernel_rfl) (fun _ _ _ h => h) (Or.inl ⟨by rfl, ?_⟩) (by assumption) ?_
  rotate_left
  · intro w_ hSw; (try dsimp only at hSw); go_simp; (try with_reducible rfl)
  (try simp only [Act.put, List.setIfInBounds_toArray, List.set_cons_zero, List.set_cons_succ])
  refine wpAnyH_take (i := 22) (oi := { dst := some 54, op := Op.load 3 (Operand.tmp 53), type := 3, pos := "law.go:62", after := #[{ on := 21, ground := Ground.data }, { on := 12, ground := Ground.guard }], guard := some (12, true) }) (v := ?_) rfl (by kernel_rfl) (by kernel_rfl) (by kernel_rfl) (fun _ _ _ h => h) (Or.inl ⟨by rfl, ?_⟩) (by assumption) ?_
  rotate_left
  · intro w_ hSw; (try dsimp only at hSw); go_simp; (try with_reducible rfl)
  (try simp only [Act.put, List.setIfInBounds_toArray, List.set_cons_zero, List.set_cons_succ])
  refine wpAnyH_take (i := 23) (oi := { dst := some 55, op := Op.fieldAddr 26 (Operand.tmp 6) 3, type := 0, pos := "law.go:62", after := #[{ on := 12, ground := Ground.guard }], guard := some (12, true) }) (v := ?_) rfl (by kernel_rfl) (by kernel_rfl) (by kernel_rfl) (fun _ _ _ h => h) (Or.inl ⟨by rfl, ?_⟩) (by assumption) ?_
  rotate_left
  · intro w_ hSw; (try dsimp only at hSw); go_simp; (try with_reducible rfl)
  (try simp only [Act.put, List.setIfInBounds_toArray, List.set_cons_zero, List.set_cons_succ])
  refine wpAnyH_take (i := 24) (oi := { dst := some 56, op := Op.load 3 (Operand.tmp 55), type := 3, pos := "law.go:62", after := #[{ on := 23, ground := Ground.data }, { on := 12, ground := Ground.guard }], guard := some (12, true) }) (v := ?_) rfl (by kernel_rfl) (by kernel_rfl) (by kernel_rfl) (fun _ _ _ h => h) (Or.inl ⟨by rfl, ?_⟩) (by assumption) ?_
  rotate_left
  · intro w_ hSw; (try dsimp only at hSw); go_simp; (try with_reducible rfl)
  (try simp only [Act.put, List.setIfInBounds_toArray, List.set_cons_zero, List.set_cons_succ])
  refine wpAnyH_take (i := 25) (oi := { dst := some 57, op := Op.move (Operand.tmp 2), type := 27, pos := "law.go:62", after := #[{ on := 12, ground := Ground.guard }], guard := some (12, true) }) (v := ?_) rfl (by kernel_rfl) (by kernel_rfl) (by kernel_rfl) (fun _ _ _ h => h) (Or.inl ⟨by rfl, ?_⟩) (by assumption) ?_
  rotate_left
  · intro w_ hSw; (try dsimp only at hSw); go_simp; (try with_reducible rfl)
  (try simp only [Act.put, List.setIfInBounds_toArray, List.set_cons_zero, List.set_cons_succ])
  refine wpAnyH_ready (rs := [19]) (by kernel_rfl) (by simp) ?_
  refine AllReadyH.cons rfl (fun K hK => ?_) AllReadyH.nil
  go_simp
  go_at_call 10
  (with_reducible refine (lay_any _ _ m l s c _ GM.out GL.out HBG.out HBL.out ly HLY.out _ rfl).mono ?_)
  rintro e w199_ ⟨A3, c3_, rfl, ⟨p3_, q3_⟩, C1, hb_⟩
  replace C1 := hide C1
  replace GM := hide (GM.out.below hb_)
  replace GL := hide (GL.out.below hb_)
  replace MD := hide (MD.out.below hb_)
  replace G1 := hide (G1.out.below hb_)
  replace ME := hide (ME.out.below hb_)
  replace G2 := hide (G2.out.below hb_)
  replace MF := hide (MF.out.below hb_)
  replace hB := hide (bcall hB.out hb_)
  clear hb_
  (try go_simp)
  refine hK.out _ _ ⟨MD.out.cells.1, MD.out.cells.2.2.1, MD.out.cells.2.2.2.1, MD.out.cells.2.2.2.2.2.1, ME.out.cells.1, ME.out.cells.2.1, ME.out.cells.2.2.1, ME.out.cells.2.2.2.1, ME.out.cells.2.2.2.2.1, ME.out.cells.2.2.2.2.2.1, ME.out.cells.2.2.2.2.2.2.1, ME.out.cells.2.2.2.2.2.2.2, MF.out.cells.1, MF.out.cells.2.1, MF.out.cells.2.2.1, MF.out.cells.2.2.2.1, MF.out.cells.2.2.2.2.1, MF.out.cells.2.2.2.2.2.1, MF.out.cells.2.2.2.2.2.2.1, MF.out.cells.2.2.2.2.2.2.2⟩ (fun hHeld => ?_)
  (try simp only [Act.put, List.setIfInBounds_toArray, List.set_cons_zero, List.set_cons_succ])
  refine wpAnyH_ready (rs := [26]) (by kernel_rfl) (by simp) ?_
  refine AllReadyH.cons rfl (fun K hK => ?_) AllReadyH.nil
  go_simp
  go_at_call 11
  (with_reducible refine (rLay_any _ _ m l s c _ GM.out GL.out HBG.out ly HLY.out _ rfl).mono ?_)
  rintro e w269_ ⟨A4, c4_, rfl, ⟨p4_, q4_⟩, C2, hb_⟩
  replace C2 := hide C2
  replace GM := hide (GM.out.below hb_)
  replace GL := hide (GL.out.below hb_)
  replace MD := hide (MD.out.below hb_)
  replace G1 := hide (G1.out.below hb_)
  replace ME := hide (ME.out.below hb_)
  replace G2 := hide (G2.out.below hb_)
  replace MF := hide (MF.out.below hb_)
  replace C1 := hide (C1.out.below hb_)
  replace hB := hide (bcall hB.out hb_)
  clear hb_
  (try go_simp)
  refine hK.out _ _ ⟨MD.out.cells.1, MD.out.cells.2.2.1, MD.out.cells.2.2.2.1, MD.out.cells.2.2.2.2.2.1, ME.out.cells.1, ME.out.cells.2.1, ME.out.cells.2.2.1, ME.out.cells.2.2.2.1, ME.out.cells.2.2.2.2.1, ME.out.cells.2.2.2.2.2.1, ME.out.cells.2.2.2.2.2.2.1, ME.out.cells.2.2.2.2.2.2.2, MF.out.cells.1, MF.out.cells.2.1, MF.out.cells.2.2.1, MF.out.cells.2.2.2.1, MF.out.cells.2.2.2.2.1, MF.out.cells.2.2.2.2.2.1, MF.out.cells.2.2.2.2.2.2.1, MF.out.cells.2.2.2.2.2.2.2⟩ (fun hHeld => ?_)
  (try simp only [Act.put, List.setIfInBounds_toArray, List.set_cons_zero, List.set_cons_succ])
  refine wpAnyH_ready (rs := [27]) (by kernel_rfl) (by simp) ?_
  refine AllReadyH.cons rfl (fun K hK => ?_) AllReadyH.nil
  go_simp
  go_at_call 9
  (with_reducible refine (rSame_yes _ _ ly _ C1.out C2.out).mono ?_)
  rintro e w279_ ⟨rfl, hb_⟩
  replace GM := hide (GM.out.below hb_)
  replace GL := hide (GL.out.below hb_)
  replace MD := hide (MD.out.below hb_)
  replace G1 := hide (G1.out.below hb_)
  replace ME := hide (ME.out.below hb_)
  replace G2 := hide (G2.out.below hb_)
  replace MF := hide (MF.out.below hb_)
  replace C1 := hide (C1.out.below hb_)
  replace C2 := hide (C2.out.below hb_)
  replace hB := hide (bcall hB.out hb_)
  clear hb_
  (try go_simp)
  refine hK.out _ _ ⟨MD.out.cells.1, MD.out.cells.2.2.1, MD.out.cells.2.2.2.1, MD.out.cells.2.2.2.2.2.1, ME.out.cells.1, ME.out.cells.2.1, ME.out.cells.2.2.1, ME.out.cells.2.2.2.1, ME.out.cells.2.2.2.2.1, ME.out.cells.2.2.2.2.2.1, ME.out.cells.2.2.2.2.2.2.1, ME.out.cells.2.2.2.2.2.2.2, MF.out.cells.1, MF.out.cells.2.1, MF.out.cells.2.2.1, MF.out.cells.2.2.2.1, MF.out.cells.2.2.2.2.1, MF.out.cells.2.2.2.2.2.1, MF.out.cells.2.2.2.2.2.2.1, MF.out.cells.2.2.2.2.2.2.2⟩ (fun hHeld => ?_)
  (try simp only [Act.put, List.setIfInBounds_toArray, List.set_cons_zero, List.set_cons_succ])
  refine wpAnyH_take (i := 28) (oi := { dst := some 60, op := Op.pick (Operand.tmp 44) (Operand.tmp 59) (Operand.const (Value.bool false)), type := 4, pos := "law.go:62", after := #[{ on := 12, ground := Ground.data }, { on := 27, ground := Ground.data }], guard := none }) (v := ?_) rfl (by kernel_rfl) (by kernel_rfl) (by kernel_rfl) (fun _ _ _ h => h) (Or.inl ⟨by rfl, ?_⟩) (by assumption) ?_
  rotate_left
  · intro w_ hSw; (try dsimp only at hSw); go_simp; (try with_reducible rfl)
  (try simp only [Act.put, List.setIfInBounds_toArray, List.set_cons_zero, List.set_cons_succ])
  refine wpAnyH_take (i := 29) (oi := { dst := some 61, op := Op.move (Operand.tmp 60), type := 4, pos := "law.go:62", after := #[{ on := 28, ground := Ground.data }, { on := 27, ground := Ground.chain }], guard := none }) (v := ?_) rfl (by kernel_rfl) (by kernel_rfl) (by kernel_rfl) (fun _ _ _ h => h) (Or.inl ⟨by rfl, ?_⟩) (by assumption) ?_
  rotate_left
  · intro w_ hSw; (try dsimp only at hSw); go_simp; (try with_reducible rfl)
  (try simp only [Act.put, List.setIfInBounds_toArray, List.set_cons_zero, List.set_cons_succ])
  refine wpAnyH_take (i := 30) (oi := { dst := some 62, op := Op.move (Operand.tmp 0), type := 23, pos := "law.go:62", after := #[{ on := 29, ground := Ground.guard }], guard := some (29, true) }) (v := ?_) rfl (by kernel_rfl) (by kernel_rfl) (by kernel_rfl) (fun _ _ _ h => h) (Or.inl ⟨by rfl, ?_⟩) (by assumption) ?_
  rotate_left
  · intro w_ hSw; (try dsimp only at hSw); go_simp; (try with_reducible rfl)
  (try simp only [Act.put, List.setIfInBounds_toArray, List.set_cons_zero, List.set_cons_succ])
  refine wpAnyH_take (i := 31) (oi := { dst := some 63, op := Op.fieldAddr 26 (Operand.tmp 6) 2, type := 0, pos := "law.go:62", after := #[{ on := 29, ground := Ground.guard }], guard := some (29, true) }) (v := ?_) rfl (by kernel_rfl) (by kernel_rfl) (by kernel_rfl) (fun _ _ _ h => h) (Or.inl ⟨by rfl, ?_⟩) (by assumption) ?_
  rotate_left
  · intro w_ hSw; (try dsimp only at hSw); go_simp; (try with_reducible rfl)
  (try simp only [Act.put, List.setIfInBounds_toArray, List.set_cons_zero, List.set_cons_succ])
  refine wpAnyH_take (i := 32) (oi := { dst := some 64, op := Op.load 3 (Operand.tmp 63), type := 3, pos := "law.go:62", after := #[{ on := 31, ground := Ground.data }, { on := 29, ground := Ground.guard }], guard := some (29, true) }) (v := ?_) rfl (by kernel_rfl) (by kernel_rfl) (by kernel_rfl) (fun _ _ _ h => h) (Or.inl ⟨by rfl, ?_⟩) (by assumption) ?_
  rotate_left
  · intro w_ hSw; (try dsimp only at hSw); go_simp; (try with_reducible rfl)
  (try simp only [Act.put, List.setIfInBounds_toArray, List.set_cons_zero, List.set_cons_succ])
  refine wpAnyH_take (i := 33) (oi := { dst := some 65, op := Op.fieldAddr 26 (Operand.tmp 6) 3, type := 0, pos := "law.go:62", after := #[{ on := 29, ground := Ground.guard }], guard := some (29, true) }) (v := ?_) rfl (by kernel_rfl) (by kernel_rfl) (by kernel_rfl) (fun _ _ _ h => h) (Or.inl ⟨by rfl, ?_⟩) (by assumption) ?_
  rotate_left
  · intro w_ hSw; (try dsimp only at hSw); go_simp; (try with_reducible rfl)
  (try simp only [Act.put, List.setIfInBounds_toArray, List.set_cons_zero, List.set_cons_succ])
  refine wpAnyH_take (i := 34) (oi := { dst := some 66, op := Op.load 3 (Operand.tmp 65), type := 3, pos := "law.go:62", after := #[{ on := 33, ground := Ground.data }, { on := 29, ground := Ground.guard }], guard := some (29, true) }) (v := ?_) rfl (by kernel_rfl) (by kernel_rfl) (by kernel_rfl) (fun _ _ _ h => h) (Or.inl ⟨by rfl, ?_⟩) (by assumption) ?_
  rotate_left
  · intro w_ hSw; (try dsimp only at hSw); go_simp; (try with_reducible rfl)
  (try simp only [Act.put, List.setIfInBounds_toArray, List.set_cons_zero, List.set_cons_succ])
  refine wpAnyH_take (i := 35) (oi := { dst := some 67, op := Op.move (Operand.tmp 3), type := 3, pos := "law.go:62", after := #[{ on := 29, ground := Ground.guard }], guard := some (29, true) }) (v := ?_) rfl (by kernel_rfl) (by kernel_rfl) (by kernel_rfl) (fun _ _ _ h => h) (Or.inl ⟨by rfl, ?_⟩) (by assumption) ?_
  rotate_left
  · intro w_ hSw; (try dsimp only at hSw); go_simp; (try with_reducible rfl)
  (try simp only [Act.put, List.setIfInBounds_toArray, List.set_cons_zero, List.set_cons_succ])
  refine wpAnyH_take (i := 37) (oi := { dst := some 69, op := Op.move (Operand.tmp 0), type := 23, pos := "law.go:62", after := #[{ on := 29, ground := Ground.guard }], guard := some (29, true) }) (v := ?_) rfl (by kernel_rfl) (by kernel_rfl) (by kernel_rfl) (fun _ _ _ h => h) (Or.inl ⟨by rfl, ?_⟩) (by assumption) ?_
  rotate_left
  · intro w_ hSw; (try dsimp only at hSw); go_simp; (try with_reducible rfl)
  (try simp only [Act.put, List.setIfInBounds_toArray, List.set_cons_zero, List.set_cons_succ])
  refine wpAnyH_take (i := 38) (oi := { dst := some 70, op := Op.fieldAddr 26 (Operand.tmp 6) 2, type := 0, pos := "law.go:62", after := #[{ on := 29, ground := Ground.guard }], guard := some (29, true) }) (v := ?_) rfl (by kernel_rfl) (by kernel_rfl) (by kernel_rfl) (fun _ _ _ h => h) (Or.inl ⟨by rfl, ?_⟩) (by assumption) ?_
  rotate_left
  · intro w_ hSw; (try dsimp only at hSw); go_simp; (try with_reducible rfl)
  (try simp only [Act.put, List.setIfInBounds_toArray, List.set_cons_zero, List.set_cons_succ])
  refine wpAnyH_take (i := 39) (oi := { dst := some 71, op := Op.load 3 (Operand.tmp 70), type := 3, pos := "law.go:62", after := #[{ on := 38, ground := Ground.data }, { on := 29, ground := Ground.guard }], guard := some (29, true) }) (v := ?_) rfl (by kernel_rfl) (by kernel_rfl) (by kernel_rfl) (fun _ _ _ h => h) (Or.inl ⟨by rfl, ?_⟩) (by assumption) ?_
  rotate_left
  · intro w_ hSw; (try dsimp only at hSw); go_simp; (try with_reducible rfl)
  (try simp only [Act.put, List.setIfInBounds_toArray, List.set_cons_zero, List.set_cons_succ])
  refine wpAnyH_take (i := 40) (oi := { dst := some 72, op := Op.fieldAddr 26 (Operand.tmp 6) 3, type := 0, pos := "law.go:62", after := #[{ on := 29, ground := Ground.guard }], guard := some (29, true) }) (v := ?_) rfl (by kernel_rfl) (by kernel_rfl) (by kernel_rfl) (fun _ _ _ h => h) (Or.inl ⟨by rfl, ?_⟩) (by assumption) ?_
  rotate_left
  · intro w_ hSw; (try dsimp only at hSw); go_simp; (try with_reducible rfl)
  (try simp only [Act.put, List.setIfInBounds_toArray, List.set_cons_zero, List.set_cons_succ])
  refine wpAnyH_take (i := 41) (oi := { dst := some 73, op := Op.load 3 (Operand.tmp 72), type := 3, pos := "law.go:62", after := #[{ on := 40, ground := Ground.data }, { on := 29, ground := Ground.guard }], guard := some (29, true) }) (v := ?_) rfl (by kernel_rfl) (by kernel_rfl) (by kernel_rfl) (fun _ _ _ h => h) (Or.inl ⟨by rfl, ?_⟩) (by assumption) ?_
  rotate_left
  · intro w_ hSw; (try dsimp only at hSw); go_simp; (try with_reducible rfl)
  (try simp only [Act.put, List.setIfInBounds_toArray, List.set_cons_zero, List.set_cons_succ])
  refine wpAnyH_take (i := 42) (oi := { dst := some 74, op := Op.move (Operand.tmp 3), type := 3, pos := "law.go:62", after := #[{ on := 29, ground := Ground.guard }], guard := some (29, true) }) (v := ?_) rfl (by kernel_rfl) (by kernel_rfl) (by kernel_rfl) (fun _ _ _ h => h) (Or.inl ⟨by rfl, ?_⟩) (by assumption) ?_
  rotate_left
  · intro w_ hSw; (try dsimp only at hSw); go_simp; (try with_reducible rfl)
  (try simp only [Act.put, List.setIfInBounds_toArray, List.set_cons_zero, List.set_cons_succ])
  refine wpAnyH_ready (rs := [36]) (by kernel_rfl) (by simp) ?_
  refine AllReadyH.cons rfl (fun K hK => ?_) AllReadyH.nil
  go_simp
  go_at_call 13
  (with_reducible refine (list_any _ m s c most _ GM.out ls HLS.out NL HNL.out).mono ?_)
  rintro e w369_ ⟨A5, c5_, rfl, ⟨p5_, q5_⟩, I1, hb_⟩
  replace I1 := hide I1
  replace GM := hide (GM.out.below hb_)
  replace GL := hide (GL.out.below hb_)
  replace MD := hide (MD.out.below hb_)
  replace G1 := hide (G1.out.below hb_)
  replace ME := hide (ME.out.below hb_)
  replace G2 := hide (G2.out.below hb_)
  replace MF := hide (MF.out.below hb_)
  replace hB := hide (bcall hB.out hb_)
  clear hb_
  (try go_simp)
  refine hK.out _ _ ⟨MD.out.cells.1, MD.out.cells.2.2.1, MD.out.cells.2.2.2.1, MD.out.cells.2.2.2.2.2.1, ME.out.cells.1, ME.out.cells.2.1, ME.out.cells.2.2.1, ME.out.cells.2.2.2.1, ME.out.cells.2.2.2.2.1, ME.out.cells.2.2.2.2.2.1, ME.out.cells.2.2.2.2.2.2.1, ME.out.cells.2.2.2.2.2.2.2, MF.out.cells.1, MF.out.cells.2.1, MF.out.cells.2.2.1, MF.out.cells.2.2.2.1, MF.out.cells.2.2.2.2.1, MF.out.cells.2.2.2.2.2.1, MF.out.cells.2.2.2.2.2.2.1, MF.out.cells.2.2.2.2.2.2.2⟩ (fun hHeld => ?_)
  (try simp only [Act.put, List.setIfInBounds_toArray, List.set_cons_zero, List.set_cons_succ])
  refine wpAnyH_ready (rs := [43]) (by kernel_rfl) (by simp) ?_
  refine AllReadyH.cons rfl (fun K hK => ?_) AllReadyH.nil
  go_simp
  go_at_call 14
  (with_reducible refine (rList_any _ m s c most _ GM.out HBG.out HMU.out ls HLS.out NL HNL.out).mono ?_)
  rintro e w439_ ⟨A6, c6_, rfl, ⟨p6_, q6_⟩, I2, hb_⟩
  replace I2 := hide I2
  replace GM := hide (GM.out.below hb_)
  replace GL := hide (GL.out.below hb_)
  replace MD := hide (MD.out.below hb_)
  replace G1 := hide (G1.out.below hb_)
  replace ME := hide (ME.out.below hb_)
  replace G2 := hide (G2.out.below hb_)
  replace MF := hide (MF.out.below hb_)
  replace I1 := hide (I1.out.below hb_)
  replace hB := hide (bcall hB.out hb_)
  clear hb_
  (try go_simp)
  refine hK.out _ _ ⟨MD.out.cells.1, MD.out.cells.2.2.1, MD.out.cells.2.2.2.1, MD.out.cells.2.2.2.2.2.1, ME.out.cells.1, ME.out.cells.2.1, ME.out.cells.2.2.1, ME.out.cells.2.2.2.1, ME.out.cells.2.2.2.2.1, ME.out.cells.2.2.2.2.2.1, ME.out.cells.2.2.2.2.2.2.1, ME.out.cells.2.2.2.2.2.2.2, MF.out.cells.1, MF.out.cells.2.1, MF.out.cells.2.2.1, MF.out.cells.2.2.2.1, MF.out.cells.2.2.2.2.1, MF.out.cells.2.2.2.2.2.1, MF.out.cells.2.2.2.2.2.2.1, MF.out.cells.2.2.2.2.2.2.2⟩ (fun hHeld => ?_)
  (try simp only [Act.put, List.setIfInBounds_toArray, List.set_cons_zero, List.set_cons_succ])
  refine wpAnyH_ready (rs := [44]) (by kernel_rfl) (by simp) ?_
  refine AllReadyH.cons rfl (fun K hK => ?_) AllReadyH.nil
  go_simp
  go_at_call 12
  (with_reducible refine (ints_yes _ _ ls ls rfl _ I1.out I2.out).mono ?_)
  rintro e w449_ ⟨rfl, hb_⟩
  replace GM := hide (GM.out.below hb_)
  replace GL := hide (GL.out.below hb_)
  replace MD := hide (MD.out.below hb_)
  replace G1 := hide (G1.out.below hb_)
  replace ME := hide (ME.out.below hb_)
  replace G2 := hide (G2.out.below hb_)
  replace MF := hide (MF.out.below hb_)
  replace I1 := hide (I1.out.below hb_)
  replace I2 := hide (I2.out.below hb_)
  replace hB := hide (bcall hB.out hb_)
  clear hb_
  (try go_simp)
  refine hK.out _ _ ⟨MD.out.cells.1, MD.out.cells.2.2.1, MD.out.cells.2.2.2.1, MD.out.cells.2.2.2.2.2.1, ME.out.cells.1, ME.out.cells.2.1, ME.out.cells.2.2.1, ME.out.cells.2.2.2.1, ME.out.cells.2.2.2.2.1, ME.out.cells.2.2.2.2.2.1, ME.out.cells.2.2.2.2.2.2.1, ME.out.cells.2.2.2.2.2.2.2, MF.out.cells.1, MF.out.cells.2.1, MF.out.cells.2.2.1, MF.out.cells.2.2.2.1, MF.out.cells.2.2.2.2.1, MF.out.cells.2.2.2.2.2.1, MF.out.cells.2.2.2.2.2.2.1, MF.out.cells.2.2.2.2.2.2.2⟩ (fun hHeld => ?_)
  (try simp only [Act.put, List.setIfInBounds_toArray, List.set_cons_zero, List.set_cons_succ])
  refine wpAnyH_take (i := 45) (oi := { dst := some 77, op := Op.pick (Operand.tmp 61) (Operand.tmp 76) (Operand.const (Value.bool false)), type := 4, pos := "law.go:62", after := #[{ on := 29, ground := Ground.data }, { on := 44, ground := Ground.data }], guard := none }) (v := ?_) rfl (by kernel_rfl) (by kernel_rfl) (by kernel_rfl) (fun _ _ _ h => h) (Or.inl ⟨by rfl, ?_⟩) (by assumption) ?_
  rotate_left
  · intro w_ hSw; (try dsimp only at hSw); go_simp; (try with_reducible rfl)
  (try simp only [Act.put, List.setIfInBounds_toArray, List.set_cons_zero, List.set_cons_succ])
  refine wpAnyH_take (i := 46) (oi := { dst := some 78, op := Op.move (Operand.tmp 77), type := 4, pos := "law.go:62", after := #[{ on := 45, ground := Ground.data }, { on := 44, ground := Ground.chain }], guard := none }) (v := ?_) rfl (by kernel_rfl) (by kernel_rfl) (by kernel_rfl) (fun _ _ _ h => h) (Or.inl ⟨by rfl, ?_⟩) (by assumption) ?_
  rotate_left
  · intro w_ hSw; (try dsimp only at hSw); go_simp; (try with_reducible rfl)
  (try simp only [Act.put, List.setIfInBounds_toArray, List.set_cons_zero, List.set_cons_succ])
  refine wpAnyH_take (i := 47) (oi := { dst := some 79, op := Op.move (Operand.tmp 4), type := 24, pos := "law.go:62", after := #[{ on := 46, ground := Ground.guard }], guard := some (46, true) }) (v := ?_) rfl (by kernel_rfl) (by kernel_rfl) (by kernel_rfl) (fun _ _ _ h => h) (Or.inl ⟨by rfl, ?_⟩) (by assumption) ?_
  rotate_left
  · intro w_ hSw; (try dsimp only at hSw); go_simp; (try with_reducible rfl)
  (try simp only [Act.put, List.setIfInBounds_toArray, List.set_cons_zero, List.set_cons_succ])
  refine wpAnyH_take (i := 48) (oi := { dst := some 80, op := Op.fieldAddr 26 (Operand.tmp 6) 5, type := 0, pos := "law.go:62", after := #[{ on := 46, ground := Ground.guard }], guard := some (46, true) }) (v := ?_) rfl (by kernel_rfl) (by kernel_rfl) (by kernel_rfl) (fun _ _ _ h => h) (Or.inl ⟨by rfl, ?_⟩) (by assumption) ?_
  rotate_left
  · intro w_ hSw; (try dsimp only at hSw); go_simp; (try with_reducible rfl)
  (try simp only [Act.put, List.setIfInBounds_toArray, List.set_cons_zero, List.set_cons_succ])
  refine wpAnyH_take (i := 49) (oi := { dst := some 81, op := Op.load 3 (Operand.tmp 80), type := 3, pos := "law.go:62", after := #[{ on := 48, ground := Ground.data }, { on := 46, ground := Ground.guard }], guard := some (46, true) }) (v := ?_) rfl (by kernel_rfl) (by kernel_rfl) (by kernel_rfl) (fun _ _ _ h => h) (Or.inl ⟨by rfl, ?_⟩) (by assumption) ?_
  rotate_left
  · intro w_ hSw; (try dsimp only at hSw); go_simp; (try with_reducible rfl)
  (try simp only [Act.put, List.setIfInBounds_toArray, List.set_cons_zero, List.set_cons_succ])
  refine wpAnyH_take (i := 51) (oi := { dst := some 83, op := Op.move (Operand.tmp 4), type := 24, pos := "law.go:62", after := #[{ on := 46, ground := Ground.guard }], guard := some (46, true) }) (v := ?_) rfl (by kernel_rfl) (by kernel_rfl) (by kernel_rfl) (fun _ _ _ h => h) (Or.inl ⟨by rfl, ?_⟩) (by assumption) ?_
  rotate_left
  · intro w_ hSw; (try dsimp only at hSw); go_simp; (try with_reducible rfl)
  (try simp only [Act.put, List.setIfInBounds_toArray, List.set_cons_zero, List.set_cons_succ])
  refine wpAnyH_take (i := 52) (oi := { dst := some 84, op := Op.fieldAddr 26 (Operand.tmp 6) 5, type := 0, pos := "law.go:62", after := #[{ on := 46, ground := Ground.guard }], guard := some (46, true) }) (v := ?_) rfl (by kernel_rfl) (by kernel_rfl) (by kernel_rfl) (fun _ _ _ h => h) (Or.inl ⟨by rfl, ?_⟩) (by assumption) ?_
  rotate_left
  · intro w_ hSw; (try dsimp only at hSw); go_simp; (try with_reducible rfl)
  (try simp only [Act.put, List.setIfInBounds_toArray, List.set_cons_zero, List.set_cons_succ])
  refine wpAnyH_take (i := 53) (oi := { dst := some 85, op := Op.load 3 (Operand.tmp 84), type := 3, pos := "law.go:62", after := #[{ on := 52, ground := Ground.data }, { on := 46, ground := Ground.guard }], guard := some (46, true) }) (v := ?_) rfl (by kernel_rfl) (by kernel_rfl) (by kernel_rfl) (fun _ _ _ h => h) (Or.inl ⟨by rfl, ?_⟩) (by assumption) ?_
  rotate_left
  · intro w_ hSw; (try dsimp only at hSw); go_simp; (try with_reducible rfl)
  (try simp only [Act.put, List.setIfInBounds_toArray, List.set_cons_zero, List.set_cons_succ])
  refine wpAnyH_ready (rs := [50]) (by kernel_rfl) (by simp) ?_
  refine AllReadyH.cons rfl (fun K hK => ?_) AllReadyH.nil
  go_simp
  go_at_call 15
  (with_reducible refine (Pack_same n t pk HPK.out _).mono ?_)
  rintro e w509_ ⟨rfl, rfl⟩
  (try go_simp)
  refine hK.out _ _ ⟨MD.out.cells.1, MD.out.cells.2.2.1, MD.out.cells.2.2.2.1, MD.out.cells.2.2.2.2.2.1, ME.out.cells.1, ME.out.cells.2.1, ME.out.cells.2.2.1, ME.out.cells.2.2.2.1, ME.out.cells.2.2.2.2.1, ME.out.cells.2.2.2.2.2.1, ME.out.cells.2.2.2.2.2.2.1, ME.out.cells.2.2.2.2.2.2.2, MF.out.cells.1, MF.out.cells.2.1, MF.out.cells.2.2.1, MF.out.cells.2.2.2.1, MF.out.cells.2.2.2.2.1, MF.out.cells.2.2.2.2.2.1, MF.out.cells.2.2.2.2.2.2.1, MF.out.cells.2.2.2.2.2.2.2⟩ (fun hHeld => ?_)
  (try simp only [Act.put, List.setIfInBounds_toArray, List.set_cons_zero, List.set_cons_succ])
  refine wpAnyH_ready (rs := [54]) (by kernel_rfl) (by simp) ?_
  refine AllReadyH.cons rfl (fun K hK => ?_) AllReadyH.nil
  go_simp
  go_at_call 16
  (with_reducible refine (rPack_same n t pk HNN.out HPK.out _).mono ?_)
  rintro e w549_ ⟨rfl, rfl⟩
  (try go_simp)
  refine hK.out _ _ ⟨MD.out.cells.1, MD.out.cells.2.2.1, MD.out.cells.2.2.2.1, MD.out.cells.2.2.2.2.2.1, ME.out.cells.1, ME.out.cells.2.1, ME.out.cells.2.2.1, ME.out.cells.2.2.2.1, ME.out.cells.2.2.2.2.1, ME.out.cells.2.2.2.2.2.1, ME.out.cells.2.2.2.2.2.2.1, ME.out.cells.2.2.2.2.2.2.2, MF.out.cells.1, MF.out.cells.2.1, MF.out.cells.2.2.1, MF.out.cells.2.2.2.1, MF.out.cells.2.2.2.2.1, MF.out.cells.2.2.2.2.2.1, MF.out.cells.2.2.2.2.2.2.1, MF.out.cells.2.2.2.2.2.2.2⟩ (fun hHeld => ?_)
  (try simp only [Act.put, List.setIfInBounds_toArray, List.set_cons_zero, List.set_cons_succ])
  refine wpAnyH_take (i := 55) (oi := { dst := some 87, op := Op.binOp BinOp.eql 24 (Operand.tmp 82) (Operand.tmp 86) 24, type := 4, pos := "law.go:62", after := #[{ on := 50, ground := Ground.data }, { on := 54, ground := Ground.data }, { on := 46, ground := Ground.guard }], guard := some (46, true) }) (v := ?_) rfl (by kernel_rfl) (by kernel_rfl) (by kernel_rfl) (fun _ _ _ h => h) (Or.inl ⟨by rfl, ?_⟩) (by assumption) ?_
  rotate_left
  · intro w_ hSw; (try dsimp only at hSw); go_simp; (try with_reducible rfl)
  (try simp only [Act.put, List.setIfInBounds_toArray, List.set_cons_zero, List.set_cons_succ])
  refine wpAnyH_take (i := 56) (oi := { dst := some 88, op := Op.pick (Operand.tmp 78) (Operand.tmp 87) (Operand.const (Value.bool false)), type := 4, pos := "law.go:62", after := #[{ on := 46, ground := Ground.data }, { on := 55, ground := Ground.data }], guard := none }) (v := ?_) rfl (by kernel_rfl) (by kernel_rfl) (by kernel_rfl) (fun _ _ _ h => h) (Or.inl ⟨by rfl, ?_⟩) (by assumption) ?_
  rotate_left
  · intro w_ hSw; (try dsimp only at hSw); go_simp; (try with_reducible rfl)
  (try simp only [Act.put, List.setIfInBounds_toArray, List.set_cons_zero, List.set_cons_succ])
  refine wpAnyH_take (i := 57) (oi := { dst := some 89, op := Op.move (Operand.tmp 88), type := 4, pos := "law.go:62", after := #[{ on := 56, ground := Ground.data }, { on := 54, ground := Ground.chain }], guard := none }) (v := ?_) rfl (by kernel_rfl) (by kernel_rfl) (by kernel_rfl) (fun _ _ _ h => h) (Or.inl ⟨by rfl, ?_⟩) (by assumption) ?_
  rotate_left
  · intro w_ hSw; (try dsimp only at hSw); go_simp; (try with_reducible rfl)
  (try simp only [Act.put, List.setIfInBounds_toArray, List.set_cons_zero, List.set_cons_succ])
  refine wpAnyH_take (i := 58) (oi := { dst := some 90, op := Op.move (Operand.tmp 4), type := 24, pos := "law.go:62", after := #[{ on := 57, ground := Ground.guard }], guard := some (57, true) }) (v := ?_) rfl (by kernel_rfl) (by kernel_rfl) (by kernel_rfl) (fun _ _ _ h => h) (Or.inl ⟨by rfl, ?_⟩) (by assumption) ?_
  rotate_left
  · intro w_ hSw; (try dsimp only at hSw); go_simp; (try with_reducible rfl)
  (try simp only [Act.put, List.setIfInBounds_toArray, List.set_cons_zero, List.set_cons_succ])
  refine wpAnyH_take (i := 60) (oi := { dst := some 92, op := Op.move (Operand.tmp 4), type := 24, pos := "law.go:62", after := #[{ on := 57, ground := Ground.guard }], guard := some (57, true) }) (v := ?_) rfl (by kernel_rfl) (by kernel_rfl) (by kernel_rfl) (fun _ _ _ h => h) (Or.inl ⟨by rfl, ?_⟩) (by assumption) ?_
  rotate_left
  · intro w_ hSw; (try dsimp only at hSw); go_simp; (try with_reducible rfl)
  (try simp only [Act.put, List.setIfInBounds_toArray, List.set_cons_zero, List.set_cons_succ])
  refine wpAnyH_ready (rs := [59]) (by kernel_rfl) (by simp) ?_
  refine AllReadyH.cons rfl (fun K hK => ?_) AllReadyH.nil
  go_simp
  go_at_call 17
  (with_reducible refine (Node_same n nd HND.out _).mono ?_)
  rintro e w599_ ⟨rfl, rfl⟩
  (try go_simp)
  refine hK.out _ _ ⟨MD.out.cells.1, MD.out.cells.2.2.1, MD.out.cells.2.2.2.1, MD.out.cells.2.2.2.2.2.1, ME.out.cells.1, ME.out.cells.2.1, ME.out.cells.2.2.1, ME.out.cells.2.2.2.1, ME.out.cells.2.2.2.2.1, ME.out.cells.2.2.2.2.2.1, ME.out.cells.2.2.2.2.2.2.1, ME.out.cells.2.2.2.2.2.2.2, MF.out.cells.1, MF.out.cells.2.1, MF.out.cells.2.2.1, MF.out.cells.2.2.2.1, MF.out.cells.2.2.2.2.1, MF.out.cells.2.2.2.2.2.1, MF.out.cells.2.2.2.2.2.2.1, MF.out.cells.2.2.2.2.2.2.2⟩ (fun hHeld => ?_)
  (try simp only [Act.put, List.setIfInBounds_toArray, List.set_cons_zero, List.set_cons_succ])
  refine wpAnyH_ready (rs := [61]) (by kernel_rfl) (by simp) ?_
  refine AllReadyH.cons rfl (fun K hK => ?_) AllReadyH.nil
  go_simp
  go_at_call 18
  (with_reducible refine (rNode_same n nd HNN.out HND.out _).mono ?_)
  rintro e w619_ ⟨rfl, rfl⟩
  (try go_simp)
  refine hK.out _ _ ⟨MD.out.cells.1, MD.out.cells.2.2.1, MD.out.cells.2.2.2.1, MD.out.cells.2.2.2.2.2.1, ME.out.cells.1, ME.out.cells.2.1, ME.out.cells.2.2.1, ME.out.cells.2.2.2.1, ME.out.cells.2.2.2.2.1, ME.out.cells.2.2.2.2.2.1, ME.out.cells.2.2.2.2.2.2.1, ME.out.cells.2.2.2.2.2.2.2, MF.out.cells.1, MF.out.cells.2.1, MF.out.cells.2.2.1, MF.out.cells.2.2.2.1, MF.out.cells.2.2.2.2.1, MF.out.cells.2.2.2.2.2.1, MF.out.cells.2.2.2.2.2.2.1, MF.out.cells.2.2.2.2.2.2.2⟩ (fun hHeld => ?_)
  (try simp only [Act.put, List.setIfInBounds_toArray, List.set_cons_zero, List.set_cons_succ])
  refine wpAnyH_take (i := 62) (oi := { dst := some 94, op := Op.binOp BinOp.eql 3 (Operand.tmp 91) (Operand.tmp 93) 3, type := 4, pos := "law.go:62", after := #[{ on := 59, ground := Ground.data }, { on := 61, ground := Ground.data }, { on := 57, ground := Ground.guard }], guard := some (57, true) }) (v := ?_) rfl (by kernel_rfl) (by kernel_rfl) (by kernel_rfl) (fun _ _ _ h => h) (Or.inl ⟨by rfl, ?_⟩) (by assumption) ?_
  rotate_left
  · intro w_ hSw; (try dsimp only at hSw); go_simp; (try with_reducible rfl)
  (try simp only [Act.put, List.setIfInBounds_toArray, List.set_cons_zero, List.set_cons_succ])
  refine wpAnyH_take (i := 63) (oi := { dst := some 95, op := Op.pick (Operand.tmp 89) (Operand.tmp 94) (Operand.const (Value.bool false)), type := 4, pos := "law.go:62", after := #[{ on := 57, ground := Ground.data }, { on := 62, ground := Ground.data }], guard := none }) (v := ?_) rfl (by kernel_rfl) (by kernel_rfl) (by kernel_rfl) (fun _ _ _ h => h) (Or.inl ⟨by rfl, ?_⟩) (by assumption) ?_
  rotate_left
  · intro w_ hSw; (try dsimp only at hSw); go_simp; (try with_reducible rfl)
  (try simp only [Act.put, List.setIfInBounds_toArray, List.set_cons_zero, List.set_cons_succ])
  refine wpAnyH_take (i := 64) (oi := { dst := some 96, op := Op.move (Operand.tmp 95), type := 4, pos := "law.go:62", after := #[{ on := 63, ground := Ground.data }, { on := 61, ground := Ground.chain }], guard := none }) (v := ?_) rfl (by kernel_rfl) (by kernel_rfl) (by kernel_rfl) (fun _ _ _ h => h) (Or.inl ⟨by rfl, ?_⟩) (by assumption) ?_
  rotate_left
  · intro w_ hSw; (try dsimp only at hSw); go_simp; (try with_reducible rfl)
  (try simp only [Act.put, List.setIfInBounds_toArray, List.set_cons_zero, List.set_cons_succ])
  refine wpAnyH_take (i := 65) (oi := { dst := some 97, op := Op.fieldAddr 26 (Operand.tmp 6) 0, type := 0, pos := "law.go:62", after := #[{ on := 64, ground := Ground.guard }], guard := some (64, true) }) (v := ?_) rfl (by kernel_rfl) (by kernel_rfl) (by kernel_rfl) (fun _ _ _ h => h) (Or.inl ⟨by rfl, ?_⟩) (by assumption) ?_
  rotate_left
  · intro w_ hSw; (try dsimp only at hSw); go_simp; (try with_reducible rfl)
  (try simp only [Act.put, List.setIfInBounds_toArray, List.set_cons_zero, List.set_cons_succ])
  refine wpAnyH_take (i := 66) (oi := { dst := some 98, op := Op.load 3 (Operand.tmp 97), type := 3, pos := "law.go:62", after := #[{ on := 65, ground := Ground.data }, { on := 64, ground := Ground.guard }], guard := some (64, true) }) (v := ?_) rfl (by kernel_rfl) (by kernel_rfl) (by kernel_rfl) (fun _ _ _ h => h) (Or.inl ⟨by rfl, ?_⟩) (by assumption) ?_
  rotate_left
  · intro w_ hSw; (try dsimp only at hSw); go_simp; (try with_reducible rfl)
  (try simp only [Act.put, List.setIfInBounds_toArray, List.set_cons_zero, List.set_cons_succ])
  refine wpAnyH_take (i := 67) (oi := { dst := some 99, op := Op.fieldAddr 26 (Operand.tmp 6) 2, type := 0, pos := "law.go:62", after := #[{ on := 64, ground := Ground.guard }], guard := some (64, true) }) (v := ?_) rfl (by kernel_rfl) (by kernel_rfl) (by kernel_rfl) (fun _ _ _ h => h) (Or.inl ⟨by rfl, ?_⟩) (by assumption) ?_
  rotate_left
  · intro w_ hSw; (try dsimp only at hSw); go_simp; (try with_reducible rfl)
  (try simp only [Act.put, List.setIfInBounds_toArray, List.set_cons_zero, List.set_cons_succ])
  refine wpAnyH_take (i := 68) (oi := { dst := some 100, op := Op.load 3 (Operand.tmp 99), type := 3, pos := "law.go:62", after := #[{ on := 67, ground := Ground.data }, { on := 64, ground := Ground.guard }], guard := some (64, true) }) (v := ?_) rfl (by kernel_rfl) (by kernel_rfl) (by kernel_rfl) (fun _ _ _ h => h) (Or.inl ⟨by rfl, ?_⟩) (by assumption) ?_
  rotate_left
  · intro w_ hSw; (try dsimp only at hSw); go_simp; (try with_reducible rfl)
  (try simp only [Act.put, List.setIfInBounds_toArray, List.set_cons_zero, List.set_cons_succ])
  refine wpAnyH_take (i := 69) (oi := { dst := some 101, op := Op.fieldAddr 26 (Operand.tmp 6) 3, type := 0, pos := "law.go:62", after := #[{ on := 64, ground := Ground.guard }], guard := some (64, true) }) (v := ?_) rfl (by kernel_rfl) (by kernel_rfl) (by kernel_rfl) (fun _ _ _ h => h) (Or.inl ⟨by rfl, ?_⟩) (by assumption) ?_
  rotate_left
  · intro w_ hSw; (try dsimp only at hSw); go_simp; (try with_reducible rfl)
  (try simp only [Act.put, List.setIfInBounds_toArray, List.set_cons_zero, List.set_cons_succ])
  refine wpAnyH_take (i := 70) (oi := { dst := some 102, op := Op.load 3 (Operand.tmp 101), type := 3, pos := "law.go:62", after := #[{ on := 69, ground := Ground.data }, { on := 64, ground := Ground.guard }], guard := some (64, true) }) (v := ?_) rfl (by kernel_rfl) (by kernel_rfl) (by kernel_rfl) (fun _ _ _ h => h) (Or.inl ⟨by rfl, ?_⟩) (by assumption) ?_
  rotate_left
  · intro w_ hSw; (try dsimp only at hSw); go_simp; (try with_reducible rfl)
  (try simp only [Act.put, List.setIfInBounds_toArray, List.set_cons_zero, List.set_cons_succ])
  refine wpAnyH_take (i := 71) (oi := { dst := some 103, op := Op.fieldAddr 26 (Operand.tmp 6) 5, type := 0, pos := "law.go:62", after := #[{ on := 64, ground := Ground.guard }], guard := some (64, true) }) (v := ?_) rfl (by kernel_rfl) (by kernel_rfl) (by kernel_rfl) (fun _ _ _ h => h) (Or.inl ⟨by rfl, ?_⟩) (by assumption) ?_
  rotate_left
  · intro w_ hSw; (try dsimp only at hSw); go_simp; (try with_reducible rfl)
  (try simp only [Act.put, List.setIfInBounds_toArray, List.set_cons_zero, List.set_cons_succ])
  refine wpAnyH_take (i := 72) (oi := { dst := some 104, op := Op.load 3 (Operand.tmp 103), type := 3, pos := "law.go:62", after := #[{ on := 71, ground := Ground.data }, { on := 64, ground := Ground.guard }], guard := some (64, true) }) (v := ?_) rfl (by kernel_rfl) (by kernel_rfl) (by kernel_rfl) (fun _ _ _ h => h) (Or.inl ⟨by rfl, ?_⟩) (by assumption) ?_
  rotate_left
  · intro w_ hSw; (try dsimp only at hSw); go_simp; (try with_reducible rfl)
  (try simp only [Act.put, List.setIfInBounds_toArray, List.set_cons_zero, List.set_cons_succ])
  refine wpAnyH_take (i := 75) (oi := { dst := some 107, op := Op.fieldAddr 26 (Operand.tmp 6) 0, type := 0, pos := "law.go:62", after := #[{ on := 64, ground := Ground.guard }], guard := some (64, true) }) (v := ?_) rfl (by kernel_rfl) (by kernel_rfl) (by kernel_rfl) (fun _ _ _ h => h) (Or.inl ⟨by rfl, ?_⟩) (by assumption) ?_
  rotate_left
  · intro w_ hSw; (try dsimp only at hSw); go_simp; (try with_reducible rfl)
  (try simp only [Act.put, List.setIfInBounds_toArray, List.set_cons_zero, List.set_cons_succ])
  refine wpAnyH_take (i := 76) (oi := { dst := some 108, op := Op.load 3 (Operand.tmp 107), type := 3, pos := "law.go:62", after := #[{ on := 75, ground := Ground.data }, { on := 64, ground := Ground.guard }], guard := some (64, true) }) (v := ?_) rfl (by kernel_rfl) (by kernel_rfl) (by kernel_rfl) (fun _ _ _ h => h) (Or.inl ⟨by rfl, ?_⟩) (by assumption) ?_
  rotate_left
  · intro w_ hSw; (try dsimp only at hSw); go_simp; (try with_reducible rfl)
  (try simp only [Act.put, List.setIfInBounds_toArray, List.set_cons_zero, List.set_cons_succ])
  refine wpAnyH_take (i := 77) (oi := { dst := some 109, op := Op.fieldAddr 26 (Operand.tmp 6) 2, type := 0, pos := "law.go:62", after := #[{ on := 64, ground := Ground.guard }], guard := some (64, true) }) (v := ?_) rfl (by kernel_rfl) (by kernel_rfl) (by kernel_rfl) (fun _ _ _ h => h) (Or.inl ⟨by rfl, ?_⟩) (by assumption) ?_
  rotate_left
  · intro w_ hSw; (try dsimp only at hSw); go_simp; (try with_reducible rfl)
  (try simp only [Act.put, List.setIfInBounds_toArray, List.set_cons_zero, List.set_cons_succ])
  refine wpAnyH_take (i := 78) (oi := { dst := some 110, op := Op.load 3 (Operand.tmp 109), type := 3, pos := "law.go:62", after := #[{ on := 77, ground := Ground.data }, { on := 64, ground := Ground.guard }], guard := some (64, true) }) (v := ?_) rfl (by kernel_rfl) (by kernel_rfl) (by kernel_rfl) (fun _ _ _ h => h) (Or.inl ⟨by rfl, ?_⟩) (by assumption) ?_
  rotate_left
  · intro w_ hSw; (try dsimp only at hSw); go_simp; (try with_reducible rfl)
  (try simp only [Act.put, List.setIfInBounds_toArray, List.set_cons_zero, List.set_cons_succ])
  refine wpAnyH_take (i := 79) (oi := { dst := some 111, op := Op.fieldAddr 26 (Operand.tmp 6) 3, type := 0, pos := "law.go:62", after := #[{ on := 64, ground := Ground.guard }], guard := some (64, true) }) (v := ?_) rfl (by kernel_rfl) (by kernel_rfl) (by kernel_rfl) (fun _ _ _ h => h) (Or.inl ⟨by rfl, ?_⟩) (by assumption) ?_
  rotate_left
  · intro w_ hSw; (try dsimp only at hSw); go_simp; (try with_reducible rfl)
  (try simp only [Act.put, List.setIfInBounds_toArray, List.set_cons_zero, List.set_cons_succ])
  refine wpAnyH_take (i := 80) (oi := { dst := some 112, op := Op.load 3 (Operand.tmp 111), type := 3, pos := "law.go:62", after := #[{ on := 79, ground := Ground.data }, { on := 64, ground := Ground.guard }], guard := some (64, true) }) (v := ?_) rfl (by kernel_rfl) (by kernel_rfl) (by kernel_rfl) (fun _ _ _ h => h) (Or.inl ⟨by rfl, ?_⟩) (by assumption) ?_
  rotate_left
  · intro w_ hSw; (try dsimp only at hSw); go_simp; (try with_reducible rfl)
  (try simp only [Act.put, List.setIfInBounds_toArray, List.set_cons_zero, List.set_cons_succ])
  refine wpAnyH_take (i := 81) (oi := { dst := some 113, op := Op.fieldAddr 26 (Operand.tmp 6) 5, type := 0, pos := "law.go:62", after := #[{ on := 64, ground := Ground.guard }], guard := some (64, true) }) (v := ?_) rfl (by kernel_rfl) (by kernel_rfl) (by kernel_rfl) (fun _ _ _ h => h) (Or.inl ⟨by rfl, ?_⟩) (by assumption) ?_
  rotate_left
  · intro w_ hSw; (try dsimp only at hSw); go_simp; (try with_reducible rfl)
  (try simp only [Act.put, List.setIfInBounds_toArray, List.set_cons_zero, List.set_cons_succ])
  refine wpAnyH_take (i := 82) (oi := { dst := some 114, op := Op.load 3 (Operand.tmp 113), type := 3, pos := "law.go:62", after := #[{ on := 81, ground := Ground.data }, { on := 64, ground := Ground.guard }], guard := some (64, true) }) (v := ?_) rfl (by kernel_rfl) (by kernel_rfl) (by kernel_rfl) (fun _ _ _ h => h) (Or.inl ⟨by rfl, ?_⟩) (by assumption) ?_
  rotate_left
  · intro w_ hSw; (try dsimp only at hSw); go_simp; (try with_reducible rfl)
  (try simp only [Act.put, List.setIfInBounds_toArray, List.set_cons_zero, List.set_cons_succ])
  refine wpAnyH_ready (rs := [73]) (by kernel_rfl) (by simp) ?_
  refine AllReadyH.cons rfl (fun K hK => ?_) AllReadyH.nil
  go_simp
  go_at_call 19
  (with_reducible refine (Start_any k s c t _).mono ?_)
  rintro e w739_ ⟨rfl, hb_⟩
  replace GM := hide (GM.out.below hb_)
  replace GL := hide (GL.out.below hb_)
  replace MD := hide (MD.out.below hb_)
  replace G1 := hide (G1.out.below hb_)
  replace ME := hide (ME.out.below hb_)
  replace G2 := hide (G2.out.below hb_)
  replace MF := hide (MF.out.below hb_)
  replace hB := hide (bcall hB.out hb_)
  clear hb_
  (try go_simp)
  refine hK.out _ _ ⟨MD.out.cells.1, MD.out.cells.2.2.1, MD.out.cells.2.2.2.1, MD.out.cells.2.2.2.2.2.1, ME.out.cells.1, ME.out.cells.2.1, ME.out.cells.2.2.1, ME.out.cells.2.2.2.1, ME.out.cells.2.2.2.2.1, ME.out.cells.2.2.2.2.2.1, ME.out.cells.2.2.2.2.2.2.1, ME.out.cells.2.2.2.2.2.2.2, MF.out.cells.1, MF.out.cells.2.1, MF.out.cells.2.2.1, MF.out.cells.2.2.2.1, MF.out.cells.2.2.2.2.1, MF.out.cells.2.2.2.2.2.1, MF.out.cells.2.2.2.2.2.2.1, MF.out.cells.2.2.2.2.2.2.2⟩ (fun hHeld => ?_)
  (try simp only [Act.put, List.setIfInBounds_toArray, List.set_cons_zero, List.set_cons_succ])
  refine wpAnyH_ready (rs := [74]) (by kernel_rfl) (by simp) ?_
  refine AllReadyH.cons rfl (fun K hK => ?_) AllReadyH.nil
  go_simp
  go_at_call 8
  (with_reducible refine (refChain_any k 0 s c 0 t 0 0 _).mono ?_)
  rintro e w749_ ⟨rfl, hb_⟩
  replace GM := hide (GM.out.below hb_)
  replace GL := hide (GL.out.below hb_)
  replace MD := hide (MD.out.below hb_)
  replace G1 := hide (G1.out.below hb_)
  replace ME := hide (ME.out.below hb_)
  replace G2 := hide (G2.out.below hb_)
  replace MF := hide (MF.out.below hb_)
  replace hB := hide (bcall hB.out hb_)
  clear hb_
  (try go_simp)
  refine hK.out _ _ ⟨MD.out.cells.1, MD.out.cells.2.2.1, MD.out.cells.2.2.2.1, MD.out.cells.2.2.2.2.2.1, ME.out.cells.1, ME.out.cells.2.1, ME.out.cells.2.2.1, ME.out.cells.2.2.2.1, ME.out.cells.2.2.2.2.1, ME.out.cells.2.2.2.2.2.1, ME.out.cells.2.2.2.2.2.2.1, ME.out.cells.2.2.2.2.2.2.2, MF.out.cells.1, MF.out.cells.2.1, MF.out.cells.2.2.1, MF.out.cells.2.2.2.1, MF.out.cells.2.2.2.2.1, MF.out.cells.2.2.2.2.2.1, MF.out.cells.2.2.2.2.2.2.1, MF.out.cells.2.2.2.2.2.2.2⟩ (fun hHeld => ?_)
  (try simp only [Act.put, List.setIfInBounds_toArray, List.set_cons_zero, List.set_cons_succ])
  refine wpAnyH_ready (rs := [83]) (by kernel_rfl) (by simp) ?_
  refine AllReadyH.cons rfl (fun K hK => ?_) AllReadyH.nil
  go_simp
  go_at_call 20
  (with_reducible refine (rStart_any k s c t _).mono ?_)
  rintro e w839_ ⟨rfl, hb_⟩
  replace GM := hide (GM.out.below hb_)
  replace GL := hide (GL.out.below hb_)
  replace MD := hide (MD.out.below hb_)
  replace G1 := hide (G1.out.below hb_)
  replace ME := hide (ME.out.below hb_)
  replace G2 := hide (G2.out.below hb_)
  replace MF := hide (MF.out.below hb_)
  replace hB := hide (bcall hB.out hb_)
  clear hb_
  (try go_simp)
  refine hK.out _ _ ⟨MD.out.cells.1, MD.out.cells.2.2.1, MD.out.cells.2.2.2.1, MD.out.cells.2.2.2.2.2.1, ME.out.cells.1, ME.out.cells.2.1, ME.out.cells.2.2.1, ME.out.cells.2.2.2.1, ME.out.cells.2.2.2.2.1, ME.out.cells.2.2.2.2.2.1, ME.out.cells.2.2.2.2.2.2.1, ME.out.cells.2.2.2.2.2.2.2, MF.out.cells.1, MF.out.cells.2.1, MF.out.cells.2.2.1, MF.out.cells.2.2.2.1, MF.out.cells.2.2.2.2.1, MF.out.cells.2.2.2.2.2.1, MF.out.cells.2.2.2.2.2.2.1, MF.out.cells.2.2.2.2.2.2.2⟩ (fun hHeld => ?_)
  (try simp only [Act.put, List.setIfInBounds_toArray, List.set_cons_zero, List.set_cons_succ])
  refine wpAnyH_take (i := 84) (oi := { dst := some 116, op := Op.binOp BinOp.eql 31 (Operand.tmp 106) (Operand.tmp 115) 31, type := 4, pos := "law.go:62", after := #[{ on := 74, ground := Ground.data }, { on := 83, ground := Ground.data }, { on := 64, ground := Ground.guard }], guard := some (64, true) }) (v := ?_) rfl (by kernel_rfl) (by kernel_rfl) (by kernel_rfl) (fun _ _ _ h => h) (Or.inl ⟨by rfl, ?_⟩) (by assumption) ?_
  rotate_left
  · intro w_ hSw; (try dsimp only at hSw); go_simp; (try with_reducible rfl)
  (try simp only [Act.put, List.setIfInBounds_toArray, List.set_cons_zero, List.set_cons_succ])
  refine wpAnyH_take (i := 85) (oi := { dst := some 117, op := Op.pick (Operand.tmp 96) (Operand.tmp 116) (Operand.const (Value.bool false)), type := 4, pos := "law.go:62", after := #[{ on := 64, ground := Ground.data }, { on := 84, ground := Ground.data }], guard := none }) (v := ?_) rfl (by kernel_rfl) (by kernel_rfl) (by kernel_rfl) (fun _ _ _ h => h) (Or.inl ⟨by rfl, ?_⟩) (by assumption) ?_
  rotate_left
  · intro w_ hSw; (try dsimp only at hSw); go_simp; (try with_reducible rfl)
  (try simp only [Act.put, List.setIfInBounds_toArray, List.set_cons_zero, List.set_cons_succ])
  refine wpAnyH_take (i := 86) (oi := { dst := some 10, op := Op.assign (Operand.tmp 117), type := 4, pos := "law.go:62", after := #[{ on := 85, ground := Ground.data }, { on := 83, ground := Ground.chain }, { on := 0, ground := Ground.phase }, { on := 1, ground := Ground.phase }, { on := 2, ground := Ground.phase }, { on := 3, ground := Ground.phase }, { on := 4, ground := Ground.phase }, { on := 5, ground := Ground.phase }, { on := 6, ground := Ground.phase }, { on := 7, ground := Ground.phase }, { on := 8, ground := Ground.phase }, { on := 9, ground := Ground.phase }, { on := 10, ground := Ground.phase }, { on := 11, ground := Ground.phase }, { on := 12, ground := Ground.phase }, { on := 13, ground := Ground.phase }, { on := 14, ground := Ground.phase }, { on := 15, ground := Ground.phase }, { on := 16, ground := Ground.phase }, { on := 17, ground := Ground.phase }, { on := 18, ground := Ground.phase }, { on := 19, ground := Ground.phase }, { on := 20, ground := Ground.phase }, { on := 21, ground := Ground.phase }, { on := 22, ground := Ground.phase }, { on := 23, ground := Ground.phase }, { on := 24, ground := Ground.phase }, { on := 25, ground := Ground.phase }, { on := 26, ground := Ground.phase }, { on := 27, ground := Ground.phase }, { on := 28, ground := Ground.phase }, { on := 29, ground := Ground.phase }, { on := 30, ground := Ground.phase }, { on := 31, ground := Ground.phase }, { on := 32, ground := Ground.phase }, { on := 33, ground := Ground.phase }, { on := 34, ground := Ground.phase }, { on := 35, ground := Ground.phase }, { on := 36, ground := Ground.phase }, { on := 37, ground := Ground.phase }, { on := 38, ground := Ground.phase }, { on := 39, ground := Ground.phase }, { on := 40, ground := Ground.phase }, { on := 41, ground := Ground.phase }, { on := 42, ground := Ground.phase }, { on := 43, ground := Ground.phase }, { on := 44, ground := Ground.phase }, { on := 45, ground := Ground.phase }, { on := 46, ground := Ground.phase }, { on := 47, ground := Ground.phase }, { on := 48, ground := Ground.phase }, { on := 49, ground := Ground.phase }, { on := 50, ground := Ground.phase }, { on := 51, ground := Ground.phase }, { on := 52, ground := Ground.phase }, { on := 53, ground := Ground.phase }, { on := 54, ground := Ground.phase }, { on := 55, ground := Ground.phase }, { on := 56, ground := Ground.phase }, { on := 57, ground := Ground.phase }, { on := 58, ground := Ground.phase }, { on := 59, ground := Ground.phase }, { on := 60, ground := Ground.phase }, { on := 61, ground := Ground.phase }, { on := 62, ground := Ground.phase }, { on := 63, ground := Ground.phase }, { on := 64, ground := Ground.phase }, { on := 65, ground := Ground.phase }, { on := 66, ground := Ground.phase }, { on := 67, ground := Ground.phase }, { on := 68, ground := Ground.phase }, { on := 69, ground := Ground.phase }, { on := 70, ground := Ground.phase }, { on := 71, ground := Ground.phase }, { on := 72, ground := Ground.phase }, { on := 73, ground := Ground.phase }, { on := 74, ground := Ground.phase }, { on := 75, ground := Ground.phase }, { on := 76, ground := Ground.phase }, { on := 77, ground := Ground.phase }, { on := 78, ground := Ground.phase }, { on := 79, ground := Ground.phase }, { on := 80, ground := Ground.phase }, { on := 81, ground := Ground.phase }, { on := 82, ground := Ground.phase }, { on := 83, ground := Ground.phase }, { on := 84, ground := Ground.phase }, { on := 85, ground := Ground.phase }], guard := none }) (v := ?_) rfl (by kernel_rfl) (by kernel_rfl) (by kernel_rfl) (fun _ _ _ h => h) (Or.inl ⟨by rfl, ?_⟩) (by assumption) ?_
  rotate_left
  · intro w_ hSw; (try dsimp only at hSw); go_simp; (try with_reducible rfl)
  (try simp only [Act.put, List.setIfInBounds_toArray, List.set_cons_zero, List.set_cons_succ])
  refine wpAnyH_done (by kernel_rfl) ?_ _
  go_wp2
  go_ret
  exact ⟨rfl, hB.out⟩

set_option maxRecDepth 100000 in
theorem lifted (os : Os) (started : os.Started) (H : Type) (enc : TypeId × Value → H) (F : Stop.Interp) :
    ReturnsInHanded {} Try.checked os 3 .any ((Rows.OpenSpec.upto Rows.chainTellsSpec).pre6 enc Try.prog Try.f3 Rows.chainTellsUptoRow.domain false) (((Rows.OpenSpec.upto Rows.chainTellsSpec).at F).post enc Try.prog Try.f3 false true false false) := by
  refine returnsInHanded_of_cond_sized (C := Try.checked) (s := Rows.OpenSpec.upto Rows.chainTellsSpec) (k := Rows.uptoSmall) rfl ownL started (by kernel_rfl) Try.func3
    (OpenSpec.witness (enc := enc) (C := Try.checked) (s := Rows.OpenSpec.upto Rows.chainTellsSpec) (k := Rows.uptoSmall) rfl false ⟨#[], #[.slice none 0 0, .agg #[.int .i64 0, .int .i64 0, .int .i64 0, .int .i64 0, .int .u64 0, .int .i64 0, .int .i64 0, .int .i64 0], .slice none 0 0, .int .i64 0, .int .u64 0], []⟩ 8 (by kernel_rfl) (by kernel_rfl) (by kernel_rfl)
      (x := ([.nil, .agg [.lit (.int .i64 0), .lit (.int .i64 0), .lit (.int .i64 0), .lit (.int .i64 0), .lit (.int .u64 0), .lit (.int .i64 0), .lit (.int .i64 0), .lit (.int .i64 0)], .nil, .lit (.int .i64 0), .lit (.int .u64 0)], [], [])) (by kernel_rfl) rfl (by kernel_rfl)) ?_
  intro W base args ds gs before hval hW _ hk0 hsz0 _
  have hW' := hW
  obtain ⟨p, q, hA0, hV, rfl, hfz, hnd⟩ := hW
  have hA : DataW.TrodAll enc Try.prog W 0 (fun _ => true) true Try.f3.params.toList args.toList ds p := hA0
  rw [Try.params3] at hA hval
  obtain ⟨v0, vs0, d0, ds0, p0, q0, hargs, rfl, rfl, h0, r0⟩ := trodAll_cons hA
  obtain ⟨v1, vs1, d1, ds1, p1, q1, rfl, rfl, rfl, h1, r1⟩ := trodAll_cons r0
  obtain ⟨v2, vs2, d2, ds2, p2, q2, rfl, rfl, rfl, h2, r2⟩ := trodAll_cons r1
  obtain ⟨v3, vs3, d3, ds3, p3, q3, rfl, rfl, rfl, h3, r3⟩ := trodAll_cons r2
  obtain ⟨v4, vs4, d4, ds4, p4, q4, rfl, rfl, rfl, h4, r4⟩ := trodAll_cons r3
  obtain ⟨rfl, rfl, rfl⟩ := trodAll_nil r4
  obtain rfl : args = #[v0, v1, v2, v3, v4] := by cases args; simp_all
  obtain ⟨rfl, rfl⟩ := trodVars_none hV
  obtain ⟨l0, hl0, hq0, hd0⟩ := open_cells (hval 0 23 v0 rfl rfl) h0
  obtain ⟨k1, p1, s1, c1, b1, t1, x1, u1, rfl, hq1⟩ := open_mach (hval 1 26 v1 rfl rfl) h1
  obtain ⟨l2, hl2, hq2, hd2⟩ := open_ints (hval 2 27 v2 rfl rfl) h2
  obtain ⟨a3, rfl, rfl, rfl, w3⟩ := open_int Try.underlying3 (hval 3 3 v3 rfl rfl) h3
  have hx3 : -9223372036854775808 ≤ a3 ∧ a3 ≤ 9223372036854775807 := by simpa [Lit.wf, IntKind.min, IntKind.max, IntKind.signed, IntKind.bits] using w3
  obtain ⟨a4, rfl, rfl, rfl, w4⟩ := open_int Try.underlying24 (hval 4 24 v4 rfl rfl) h4
  have hx4 : 0 ≤ a4 ∧ a4 ≤ 18446744073709551615 := by simpa [Lit.wf, IntKind.min, IntKind.max, IntKind.signed, IntKind.bits] using w4
  have hk : Rows.uptoBulkAll ([d0, d1, d2, .lit (.int .i64 a3), .lit (.int .u64 a4)] : List (DataW H)) ≤ 1048576 := of_decide_eq_true hk0
  have e0 : l0.length + 1 ≤ 1048576 := by have h1 := slice_bulk hd0; have h2 := bulk_mem hk 0 rfl; omega
  have e2 : l2.length + 1 ≤ 1048576 := by have h1 := slice_bulk hd2; have h2 := bulk_mem hk 2 rfl; omega
  refine (walk k1 p1 s1 c1 b1 t1 x1 u1 v0 v2 l0 l2 a3 a4 W hl0 hq0 (by omega) hq1 hl2 (by omega) ⟨hx4.1, hx4.2⟩).mono fun e W' ⟨he, hg⟩ => ?_
  subst he
  exact ⟨_, rfl, law_post laidOutL (by kernel_rfl) rfl Try.underlying4 rfl ⟨rfl, rfl, rfl⟩ hW' hg⟩

/-- THE STATEMENT -/
theorem proved : Rows.ChainTellsUptoSaid :=
  OpenClaim.holds_of_cond 3 Try.f3 rfl rfl rfl rfl rfl rfl rfl ⟨rfl, rfl, rfl, rfl, rfl⟩ rfl rfl rfl rfl rfl (by kernel_rfl) Try.func3 (by kernel_rfl)
    (of_decide_eq_true (by kernel_rfl)) (by unfold Func.isWrapper; first | (rw [if_pos (by decide +kernel)]; kernel_rfl) | (rw [if_neg (by decide +kernel)]; exact ⟨rfl, rfl⟩))
    (fun os started H enc _ F => lifted os started H enc F)
end Go.Proofs.Ytpffknlbffnafaa.ch.lawChainTells
