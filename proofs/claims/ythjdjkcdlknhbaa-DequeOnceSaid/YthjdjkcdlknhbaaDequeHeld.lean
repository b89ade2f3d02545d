/- Layer deque: what the owner holds. -/
import Derived.Test.YthjdjkcdlknhbaaDequeStarts
namespace Go.Proofs.Ythjdjkcdlknhbaa
open Go.RowKit

theorem held_nil {w w' : World} (hb : Below w.heap.size w w') {r : List Int} (hr : r = []) {n : Nat} (hn : r.length = n) : ItemsEnd w r n (.returned (.slice none 0 0)) w' := by
  subst hr
  simp at hn
  subst hn
  exact ⟨none, 0, rfl, ⟨Nat.le_refl _, by omega⟩, Sl.nil_, hb⟩
theorem held_one {w w' : World} (hb : Below w.heap.size w w') {r : List Int} {x : Int} (hr : r = [x]) {n : Nat} (hn : r.length = n) : ItemsEnd w r n (.returned (.slice (some ⟨w'.heap.size, 0, none⟩) 1 1)) (w'.alloc (.cells #[.int .i64 x] 3)) := by
  subst hr
  simp at hn
  subst hn
  exact ⟨_, 1, rfl, ⟨Nat.le_refl _, by omega⟩, Sl.of_own ic_len (own_new w' w'.heap.size ([x].flatMap ic) 3 1 1 (Nat.le_refl _) rfl (by decide)), bcall hb (bal _ _)⟩
set_option maxRecDepth 100000 in
set_option maxHeartbeats 8000000 in
theorem held_any (B g ct n : Nat) (d : Dw) (vM vP vG : Value) (w : World) (h : Wat w B g ct n d vM vP vG) (hn1 : 1 ≤ n) (hn2 : n ≤ 64) (hm : AllU d.m) (hbig : d.m.length * 8 ≤ 140737488351232) (_hd : McU d.owner) (r : List Int) (hr : heldF d.m n d.owner = r) (rn : Nat) (hrn : r.length = rn) :
    Calls Try.prog 24 #[pt B] w (ItemsEnd w r rn) := by
  obtain ⟨oo, hoo⟩ : ∃ oo, d.owner = oo := ⟨_, rfl⟩
  obtain ⟨k, p, s, c, b, t, x, u⟩ := oo
  rw [hoo] at hr
  obtain ⟨L, hL⟩ : ∃ L, d.m.length = L := ⟨_, rfl⟩
  obtain ⟨A0, c0, rfl, hc1, hc2⟩ := cells_form' h.mem
  obtain ⟨a2, a3, a4, a5, a6, a7, a8, a9⟩ := own_cells h hoo
  obtain ⟨w1, e1, hb1, M1⟩ := box_res w k p s c b t x u
  have HE := hide e1
  have HB := hide hb1
  have HM := hide M1
  have HRN := hide hrn
  have HW := hide h
  rw [hL] at HW hc1
  obtain ⟨b1, hb1_⟩ : ∃ b1, w64 (b - 1) = b1 := ⟨_, rfl⟩
  have hU1 : U b1 := by rw [← hb1_]; exact w64_U' _
  have ew : IntKind.u64.wrap (b - 1) = b1 := by rw [wrap_w]; exact hb1_
  have HL := hide hL
  have HBG := hide hbig
  have HMU := hide hm
  unfold heldF at hr
  simp only [hb1_] at hr
  clear e1 hb1 M1 h hrn hL hm hbig hoo hb1_
  by_cases hk : k = 2
  · subst hk
    by_cases hu : u = 0
    · subst hu
      by_cases hp6 : p = 6
      · subst hp6
        have HR := hide (show r = [x] by rw [← hr]; simp)
        clear hr
        go_enter Try.func24, Try.ntmps24
        go_upto_region 2 with (fail)
        rw [HE.out]
        obtain ⟨z0, z1, z2, z3, z4, z5, z6, z7⟩ := HM.out.cells
        go_wp2
        go_ret
        exact held_one HB.out HR.out HRN.out
      · have q6 : (p == 6) = false := by rw [beq_eq_false_iff_ne]; exact hp6
        by_cases hp3 : p = 3
        · subst hp3
          by_cases ht : t = b1
          · subst ht
            have qt : (t != t) = false := by simp
            have HR := hide (show r = [] by rw [← hr]; simp)
            clear hr
            go_enter Try.func24, Try.ntmps24
            go_upto_region 2 with (fail)
            rw [HE.out]
            obtain ⟨z0, z1, z2, z3, z4, z5, z6, z7⟩ := HM.out.cells
            go_wp2
            go_ret
            exact held_nil HB.out HR.out HRN.out
          · have qt : (t != b1) = true := by rw [bne_iff_ne]; exact ht
            obtain ⟨q, hq⟩ : ∃ q, b1 % (n : Int) = q := ⟨_, rfl⟩
            rw [hq] at hr
            have hq0 : 0 ≤ q := by rw [← hq]; exact Int.emod_nonneg _ (by omega)
            have hq1 : q < (n : Int) := by rw [← hq]; exact Int.emod_lt_of_pos _ (by omega)
            have hq2 : b1.tmod (n : Int) = q := by rw [Int.tmod_eq_emod_of_nonneg hU1.1]; exact hq
            obtain ⟨y, hy⟩ : ∃ y, loadF d.m (2 + q) = y := ⟨_, rfl⟩
            obtain ⟨z, hz⟩ : ∃ z, s64 y = z := ⟨_, rfl⟩
            obtain ⟨fl, hfl⟩ : ∃ fl, okF d.m ⟨1, 2 + q, 0, 0⟩ = fl := ⟨_, rfl⟩
            have HR := hide (show r = [z] by rw [← hr, ← hz, ← hy]; simp [ht])
            have HY := hide (show vF d.m ⟨1, 2 + q, 0, 0⟩ = y from hy)
            have HFL := hide hfl
            have HML := hide (mF_load d.m (2 + q))
            have ez : IntKind.i64.wrap y = z := by rw [wrap_s]; exact hz
            have ez2 : wrap64 y = z := by rw [wrap64_s]; exact hz
            have en : IntKind.u64.wrap (n : Int) = (n : Int) := by rw [wrap_w]; exact w64_small (by omega) (by omega)
            have eq1 : IntKind.i64.wrap q = q := by rw [wrap_s]; exact s64_small (by omega) (by omega)
            have eq3 : IntKind.i64.wrap (2 + q) = 2 + q := by rw [wrap_s]; exact s64_small (by omega) (by omega)
            have qn0 : ((n : Int) == 0) = false := by rw [beq_eq_false_iff_ne]; omega
            have hn0 : (n : Int) ≠ 0 := by omega
            have hn00 : n ≠ 0 := by omega
            have hn01 : ¬ n = 0 := hn00
            have qn00 : (n == 0) = false := by rw [beq_eq_false_iff_ne]; omega
            have eqq : IntKind.u64.wrap q = q := by rw [wrap_w]; exact w64_small (by omega) (by omega)
            have hu1 := hU1.1
            have hu2 := hU1.2
            clear hr hy hz hfl hU1
            go_enter Try.func24, Try.ntmps24
            go_upto_region 2 with (fail)
            rw [HE.out]
            obtain ⟨z0, z1, z2, z3, z4, z5, z6, z7⟩ := HM.out.cells
            have hwa := HW.out.below HB.out
            have y0 : w1.cell? ⟨B, 0, none⟩ = some (.slice A0 L c0) := hwa.cell 0
            have y1 : w1.cell? ⟨B, 1, none⟩ = some (.int .i64 n) := hwa.cell 1
            have HC := hide (cells_drew hwa.mem)
            clear hwa hq a2 a3 a4 a5 a6 a7 a8 a9
            go_wp2
            go_region_law (first
              | (go_simp; go_at_call 45; (with_reducible refine (Do_c _ d.m 1 (2 + q) 0 0 _ HC.out HBG.out d.m y fl HML.out HY.out HFL.out L HL.out).mono ?_); rintro e w2 ⟨A2, c2, rfl, -, -, hbd⟩; have hb2 := undrew hbd; have HB2 := hide (bcall HB.out hb2); clear hbd hb2))
            all_goals
              go_wp2
              go_ret
              exact held_one HB2.out HR.out HRN.out
        · have q3 : (p == 3) = false := by rw [beq_eq_false_iff_ne]; exact hp3
          have HR := hide (show r = [] by rw [← hr]; simp [hp6, hp3])
          clear hr
          go_enter Try.func24, Try.ntmps24
          go_upto_region 2 with (fail)
          rw [HE.out]
          obtain ⟨z0, z1, z2, z3, z4, z5, z6, z7⟩ := HM.out.cells
          go_wp2
          go_ret
          exact held_nil HB.out HR.out HRN.out
    · have q0 : (u != 0) = true := by rw [bne_iff_ne]; exact hu
      have HR := hide (show r = [] by rw [← hr]; simp [hu])
      clear hr
      go_enter Try.func24, Try.ntmps24
      go_upto_region 2 with (fail)
      rw [HE.out]
      obtain ⟨z0, z1, z2, z3, z4, z5, z6, z7⟩ := HM.out.cells
      go_wp2
      go_ret
      exact held_nil HB.out HR.out HRN.out
  · have q0 : (k != 2) = true := by rw [bne_iff_ne]; exact hk
    have HR := hide (show r = [] by rw [← hr]; simp [hk])
    clear hr
    go_enter Try.func24, Try.ntmps24
    go_upto_region 2 with (fail)
    rw [HE.out]
    obtain ⟨z0, z1, z2, z3, z4, z5, z6, z7⟩ := HM.out.cells
    go_wp2
    go_ret
    exact held_nil HB.out HR.out HRN.out
end Go.Proofs.Ythjdjkcdlknhbaa
