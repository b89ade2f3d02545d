/- ChainPure: for any cells, any machine: a step turns one cell at most, and nothing behind its end; the cells that were there are as they were. No condition. -/
import Derived.Test.YtimjlgglhonhkaaChainEx
import Derived.Test.YtimjlgglhonhkaaDequeQs
import Derived.Test.YtimjlgglhonhkaaChainU
import Derived.Test.YtimjlgglhonhkaaMemOpen
namespace Go.Proofs.Ytimjlgglhonhkaa.ch.lawChainPure
open Go.RowKit Go.WideShapes Go.ChangeShapes Go.ChangeAt Go.Proofs Go.Proofs.Ytimjlgglhonhkaa

set_option maxRecDepth 100000 in
set_option maxHeartbeats 8000000 in
theorem walk_still (k p s c b t x u : Int) (v : Value) (m : List Int) (w : World) (h : Cells w v m) (hbig : m.length * 8 ≤ 140737488351232) (hu : u ≠ 0) : Calls Try.prog 10 #[v, mvv k p s c b t x u] w fun e w' => e = .returned (.bool true) ∧ Below w.heap.size w w' := by
  have hB : Below w.heap.size w w := Below.refl _ _
  obtain ⟨i0, hi, hz0, hz1, hz2⟩ := info_parts infoU
  have GM := hide h
  obtain ⟨A, c0, rfl, hc1, hc2⟩ := cells_form' h
  obtain ⟨r, hr⟩ : ∃ r, cstepF m ⟨k, p, s, c, b, t, x, u⟩ = r := ⟨_, rfl⟩
  have hone := cstep_one (m := m) (c := ⟨k, p, s, c, b, t, x, u⟩)
  have hU := cstep_len m ⟨k, p, s, c, b, t, x, u⟩
  rw [hr] at hone hU
  have hrr := hone.2.2.2.2 hu
  subst hrr
  have HT := hide (turned_same m m.length)
  have q0 : (u != 0) = true := by rw [bne_iff_ne]; exact hu
  have rk : (k == k) = true := by simp
  have rp : (p == p) = true := by simp
  have rs : (s == s) = true := by simp
  have rc : (c == c) = true := by simp
  have rb : (b == b) = true := by simp
  have rt : (t == t) = true := by simp
  have rx : (x == x) = true := by simp
  have ru : (u == u) = true := by simp
  have hl1 : m.length = m.length := hU
  have HSR := hide hr
  clear h hr hone hU hl1 hu
  obtain ⟨wp, ep, hbp, MD⟩ := box_res w k p s c b t x u
  have EP := hide ep
  have MD := hide MD
  clear ep
  have GM := hide (GM.out.below hbp)
  have hB := bcall hB hbp
  go_enter Try.func10, Try.ntmps10
  go_wp2_with fail
  rw [EP.out]
  (with_reducible refine (examples_any _).mono ?_)
  rintro e w0_ ⟨rfl, hb0_⟩
  have GM := hide (GM.out.below hb0_)
  have MD := hide (MD.out.below hb0_)
  have hB := bcall hB hb0_
  go_wp2_with (at_builtin; refine wpList_append_sl _ rfl _ _ 23 rfl w0_.heap.size 24 i0 (.int .u64 0) 1 8 Try.underlying23 hi hz0 hz1 hz2 rfl (by decide) _ _ _ rfl (World.ownsRow_nil _ _ _ _) _ m rfl GM.out uc_len (fun _ u hu => by simp [uc] at hu; subst hu; rfl) (by unfold maxLen; omega) (by omega) (by simp) ?_)
  intro v2 wa hown hba
  have hown : OwnC w0_.heap.size wa v2 m := by simpa using hown
  have G0 := hide hown.cells
  obtain ⟨A2, c2, rfl, hd1, hd2⟩ := own_form hown
  clear hown
  have GM := hide (GM.out.below hba)
  have MD := hide (MD.out.below hba)
  have hB := bcall hB hba
  obtain ⟨a0, a1, a2, a3, a4, a5, a6, a7⟩ := MD.out.cells
  go_wp2_with fail
  (with_reducible refine (Step_c k p s c b t x u _ m _ GM.out hbig m k p s c b t x u HSR.out m.length rfl).mono ?_)
  rintro e w1_ ⟨A3, c3, rfl, ⟨p3, q3⟩, G1, hb1_, -⟩
  have GM := hide (GM.out.below hb1_)
  have MD := hide (MD.out.below hb1_)
  have G0 := hide (G0.out.below hb1_)
  have hB := bcall hB hb1_
  have G1 := hide G1
  obtain ⟨w2_, e2_, hb2_, ME⟩ := box_res w1_ k p s c b t x u
  have E2_ := hide e2_
  have ME := hide ME
  clear e2_
  have GM := hide (GM.out.below hb2_)
  have MD := hide (MD.out.below hb2_)
  have G0 := hide (G0.out.below hb2_)
  have G1 := hide (G1.out.below hb2_)
  have hB := bcall hB hb2_
  clear a0 a1 a2 a3 a4 a5 a6 a7
  go_upto_region 6 with (fail)
  rw [E2_.out]
  go_wp2
  go_loopw [9, 10] (fun tv i wr => ∃ X : Nat, X ≤ m.length ∧ i = .int .i64 X ∧ tv = .int .i64 (turnedF m m X : Nat) ∧ Below w2_.heap.size w2_ wr) (fun _ i _ => m.length - (Go.RowKit.intOf i).toNat)
  case atStart => exact ⟨0, Nat.zero_le _, rfl, rfl, Below.refl _ _⟩
  case round =>
    obtain ⟨X, hX, rfl, rfl, hbw⟩ := hrel
    have GM := hide (GM.out.below hbw)
    have MD := hide (MD.out.below hbw)
    have G0 := hide (G0.out.below hbw)
    have G1 := hide (G1.out.below hbw)
    have ME := hide (ME.out.below hbw)
    have hB := bcall hB hbw
    by_cases hlt : X < m.length
    · have hlt1 : X < m.length := by exact hlt
      obtain ⟨g1, o1, rfl, -, y1⟩ := cells_at G1.out hlt1
      obtain ⟨g2, o2, rfl, -, y2⟩ := cells_at GM.out hlt
      have HTS := hide (turned_eq hlt1 hlt rfl)
      generalize m[X] = y at *
      have r1 : (y != y) = false := by simp
      obtain ⟨tn, htn⟩ : ∃ tn, turnedF m m X = tn := ⟨_, rfl⟩
      rw [htn] at HTS ⊢
      clear htn
      go_wp2
      go_quiet (fail)
      go_wp2
      go_roundw
      case rel => exact ⟨X + 1, by omega, by go_num, by rw [HTS.out], bdrewN hbw _⟩
      case measure => simp [Go.RowKit.intOf]; omega
    · have hXe : X = m.length := by omega
      obtain ⟨a0, a1, a2, a3, a4, a5, a6, a7⟩ := MD.out.cells
      obtain ⟨b0, b1_, b2, b3, b4, b5, b6, b7⟩ := ME.out.cells
      rw [hXe, HT.out]
      clear hXe hX hlt
      go_wp2
      go_ret
      exact ⟨rfl, hB⟩
set_option maxRecDepth 100000 in
set_option maxHeartbeats 8000000 in
theorem walk_goes (k p s c b t x u : Int) (v : Value) (m : List Int) (w : World) (h : Cells w v m) (hbig : m.length * 8 ≤ 140737488351232) (hu : u = 0) : Calls Try.prog 10 #[v, mvv k p s c b t x u] w fun e w' => e = .returned (.bool true) ∧ Below w.heap.size w w' := by
  have hB : Below w.heap.size w w := Below.refl _ _
  obtain ⟨i0, hi, hz0, hz1, hz2⟩ := info_parts infoU
  have GM := hide h
  obtain ⟨A, c0, rfl, hc1, hc2⟩ := cells_form' h
  obtain ⟨r, hr⟩ : ∃ r, cstepF m ⟨k, p, s, c, b, t, x, u⟩ = r := ⟨_, rfl⟩
  have hone := cstep_one (m := m) (c := ⟨k, p, s, c, b, t, x, u⟩)
  have hU := cstep_len m ⟨k, p, s, c, b, t, x, u⟩
  rw [hr] at hone hU
  subst hu
  obtain ⟨m1, ⟨k1, p1, s1, c1, b1, t1, x1, u1⟩⟩ := r
  obtain ⟨hone, e1, e2, e3, -⟩ := hone
  simp only at e1 e2 e3
  subst e1 e2 e3
  have q0 : ((0 : Int) != 0) = false := rfl
  have HT := hide (hone.turned m.length)
  have rk1 : (k1 == k1) = true := by simp
  have rs1 : (s1 == s1) = true := by simp
  have rc1 : (c1 == c1) = true := by simp
  have hl1 : m1.length = m.length := hU
  have HL1 := hide hl1
  have HSR := hide hr
  clear h hr hone hU hl1
  obtain ⟨wp, ep, hbp, MD⟩ := box_res w k1 p s1 c1 b t x 0
  have EP := hide ep
  have MD := hide MD
  clear ep
  have GM := hide (GM.out.below hbp)
  have hB := bcall hB hbp
  go_enter Try.func10, Try.ntmps10
  go_wp2_with fail
  rw [EP.out]
  (with_reducible refine (examples_any _).mono ?_)
  rintro e w0_ ⟨rfl, hb0_⟩
  have GM := hide (GM.out.below hb0_)
  have MD := hide (MD.out.below hb0_)
  have hB := bcall hB hb0_
  go_wp2_with (at_builtin; refine wpList_append_sl _ rfl _ _ 23 rfl w0_.heap.size 24 i0 (.int .u64 0) 1 8 Try.underlying23 hi hz0 hz1 hz2 rfl (by decide) _ _ _ rfl (World.ownsRow_nil _ _ _ _) _ m rfl GM.out uc_len (fun _ u hu => by simp [uc] at hu; subst hu; rfl) (by unfold maxLen; omega) (by omega) (by simp) ?_)
  intro v2 wa hown hba
  have hown : OwnC w0_.heap.size wa v2 m := by simpa using hown
  have G0 := hide hown.cells
  obtain ⟨A2, c2, rfl, hd1, hd2⟩ := own_form hown
  clear hown
  have GM := hide (GM.out.below hba)
  have MD := hide (MD.out.below hba)
  have hB := bcall hB hba
  obtain ⟨a0, a1, a2, a3, a4, a5, a6, a7⟩ := MD.out.cells
  go_wp2_with fail
  (with_reducible refine (Step_c k1 p s1 c1 b t x 0 _ m _ GM.out hbig m1 k1 p1 s1 c1 b1 t1 x1 u1 HSR.out m.length HL1.out).mono ?_)
  rintro e w1_ ⟨A3, c3, rfl, ⟨p3, q3⟩, G1, hb1_, -⟩
  have GM := hide (GM.out.below hb1_)
  have MD := hide (MD.out.below hb1_)
  have G0 := hide (G0.out.below hb1_)
  have hB := bcall hB hb1_
  have G1 := hide G1
  obtain ⟨w2_, e2_, hb2_, ME⟩ := box_res w1_ k1 p1 s1 c1 b1 t1 x1 u1
  have E2_ := hide e2_
  have ME := hide ME
  clear e2_
  have GM := hide (GM.out.below hb2_)
  have MD := hide (MD.out.below hb2_)
  have G0 := hide (G0.out.below hb2_)
  have G1 := hide (G1.out.below hb2_)
  have hB := bcall hB hb2_
  clear a0 a1 a2 a3 a4 a5 a6 a7
  go_upto_region 6 with (fail)
  rw [E2_.out]
  go_wp2
  go_loopw [9, 10] (fun tv i wr => ∃ X : Nat, X ≤ m.length ∧ i = .int .i64 X ∧ tv = .int .i64 (turnedF m m1 X : Nat) ∧ Below w2_.heap.size w2_ wr) (fun _ i _ => m.length - (Go.RowKit.intOf i).toNat)
  case atStart => exact ⟨0, Nat.zero_le _, rfl, rfl, Below.refl _ _⟩
  case round =>
    obtain ⟨X, hX, rfl, rfl, hbw⟩ := hrel
    have GM := hide (GM.out.below hbw)
    have MD := hide (MD.out.below hbw)
    have G0 := hide (G0.out.below hbw)
    have G1 := hide (G1.out.below hbw)
    have ME := hide (ME.out.below hbw)
    have hB := bcall hB hbw
    by_cases hlt : X < m.length
    · have hlt1 : X < m1.length := by rw [HL1.out]; exact hlt
      obtain ⟨g1, o1, rfl, -, y1⟩ := cells_at G1.out hlt1
      obtain ⟨g2, o2, rfl, -, y2⟩ := cells_at GM.out hlt
      by_cases he : m1[X] = m[X]
      · have HTS := hide (turned_eq hlt1 hlt he)
        rw [he] at y1
        generalize m[X] = y at *
        have r1 : (y != y) = false := by simp
        clear he
        obtain ⟨tn, htn⟩ : ∃ tn, turnedF m m1 X = tn := ⟨_, rfl⟩
        rw [htn] at HTS ⊢
        clear htn
        go_wp2
        go_quiet (fail)
        go_wp2
        go_roundw
        case rel => exact ⟨X + 1, by omega, by go_num, by rw [HTS.out], bdrewN hbw _⟩
        case measure => simp [Go.RowKit.intOf]; omega
      · have HTS := hide (turned_ne hlt1 hlt he)
        have htl := Nat.le_trans (turned_mono m m1 (X + 1) m.length (by omega)) HT.out
        rw [HTS.out] at htl
        have r1 : (m1[X] != m[X]) = true := by rw [bne_iff_ne]; exact he
        generalize m[X] = y at *
        generalize m1[X] = z at *
        clear he
        obtain ⟨tn, htn⟩ : ∃ tn, turnedF m m1 X = tn := ⟨_, rfl⟩
        rw [htn] at HTS htl ⊢
        clear htn
        go_wp2
        go_quiet (fail)
        go_wp2
        go_roundw
        case rel => exact ⟨X + 1, by omega, by go_num, by rw [HTS.out]; go_num, bdrewN hbw _⟩
        case measure => simp [Go.RowKit.intOf]; omega
    · have hXe : X = m.length := by omega
      obtain ⟨a0, a1, a2, a3, a4, a5, a6, a7⟩ := MD.out.cells
      obtain ⟨b0, b1_, b2, b3, b4, b5, b6, b7⟩ := ME.out.cells
      have ht1 := HT.out
      rw [← hXe] at ht1
      obtain ⟨tn, htn⟩ : ∃ tn, turnedF m m1 X = tn := ⟨_, rfl⟩
      rw [htn] at ht1 ⊢
      have d9 : decide (tn ≤ 1) = true := decide_eq_true ht1
      clear htn hXe
      go_wp2_with fail
      (with_reducible refine (Same_any _ _ m m _ GM.out G0.out).mono ?_)
      rintro e w3_ ⟨rfl, hb3_⟩
      have GM := hide (GM.out.below hb3_)
      have MD := hide (MD.out.below hb3_)
      have G0 := hide (G0.out.below hb3_)
      have G1 := hide (G1.out.below hb3_)
      have ME := hide (ME.out.below hb3_)
      have hB := bcall hB hb3_
      rw [decide_eq_true rfl]
      obtain ⟨a0, a1, a2, a3, a4, a5, a6, a7⟩ := MD.out.cells
      obtain ⟨b0, b1_, b2, b3, b4, b5, b6, b7⟩ := ME.out.cells
      go_wp2
      go_ret
      exact ⟨rfl, hB⟩
theorem walk (k p s c b t x u : Int) (v : Value) (m : List Int) (w : World) (h : Cells w v m) (hbig : m.length * 8 ≤ 140737488351232) : Calls Try.prog 10 #[v, mvv k p s c b t x u] w fun e w' => e = .returned (.bool true) ∧ Below w.heap.size w w' := by
  by_cases hu : u = 0
  · exact walk_goes k p s c b t x u v m w h hbig hu
  · exact walk_still k p s c b t x u v m w h hbig hu

set_option maxRecDepth 100000 in
theorem lifted (os : Os) (started : os.Started) (H : Type) (enc : TypeId × Value → H) :
    ReturnsInHanded {} Try.checked os 10 .any (Rows.chainPureSpec.pre6 enc Try.prog Try.f10 Rows.chainPureRow.domain false) (Rows.chainPureSpec.post enc Try.prog Try.f10 false true false false) := by
  refine returnsInHanded_of_change_sized (C := Try.checked) ownL started (by kernel_rfl) Try.func10
    (ChangeSpec.witness6 (enc := enc) (C := Try.checked) false ⟨#[], #[.slice none 0 0, .agg #[.int .i64 0, .int .i64 0, .int .i64 0, .int .i64 0, .int .u64 0, .int .i64 0, .int .i64 0, .int .i64 0]], []⟩ 8 (by kernel_rfl) (by kernel_rfl) (by kernel_rfl) (by kernel_rfl)) ?_
  intro W base args ds gs before hval hW _ hsz0 _
  have hW' := hW
  obtain ⟨p, q, hA0, hV, rfl, hfz, hnd⟩ := hW
  have hA : DataW.TrodAll enc Try.prog W 0 (fun _ => true) true Try.f10.params.toList args.toList ds p := hA0
  rw [Try.params10] at hA hval
  obtain ⟨v0, vs0, d0, ds0, p0, q0, hargs, rfl, rfl, h0, r0⟩ := trodAll_cons hA
  obtain ⟨v1, vs1, d1, ds1, p1, q1, rfl, rfl, rfl, h1, r1⟩ := trodAll_cons r0
  obtain ⟨rfl, rfl, rfl⟩ := trodAll_nil r1
  obtain rfl : args = #[v0, v1] := by cases args; simp_all
  obtain ⟨rfl, rfl⟩ := trodVars_none hV
  obtain ⟨l0, hl0, hq0, hd0⟩ := open_cells (hval 0 23 v0 rfl rfl) h0
  obtain ⟨k1, p1, s1, c1, b1, t1, x1, u1, rfl, hq1⟩ := open_mach (hval 1 44 v1 rfl rfl) h1
  have hsz : (DataW.weightsEach Try.prog [23, 44] ([d0, d1] : List (DataW H))).all (· ≤ reachBytes) = true := hsz0
  have e0 : l0.length * 8 ≤ 140737488351232 := slice_reach hsz 0 rfl rfl Try.underlying23 (by kernel_rfl) hd0
  refine (walk k1 p1 s1 c1 b1 t1 x1 u1 v0 l0 W hl0 (by omega)).mono fun e W' ⟨he, hg⟩ => ?_
  subst he
  exact ⟨_, rfl, law_post laidOutL (by kernel_rfl) rfl Try.underlying4 rfl ⟨rfl, rfl, rfl⟩ hW' hg⟩

/-- THE STATEMENT -/
theorem proved : Rows.ChainPureSaid :=
  OpenClaim.holds_of_wide 10 Try.f10 rfl rfl rfl rfl rfl rfl rfl ⟨rfl, rfl, rfl, rfl, rfl⟩ rfl rfl rfl rfl rfl (by kernel_rfl) Try.func10 (by kernel_rfl)
    (of_decide_eq_true (by kernel_rfl)) (by unfold Func.isWrapper; first | (rw [if_pos (by decide +kernel)]; kernel_rfl) | (rw [if_neg (by decide +kernel)]; exact ⟨rfl, rfl⟩))
    (fun os started H enc _ => lifted os started H enc)
end Go.Proofs.Ytimjlgglhonhkaa.ch.lawChainPure
