/- Layer reach: the document's own answer: Via, From. -/
import Derived.Test.YtohfpcnekfpdkaaDoorRefReach
namespace Go.Proofs.YtohfpcnekfpdkaaDoor
open Go.RowKit

theorem rnext_c (n : Int) (v : Value) (ls : Rws) (s : Nat) (w : World) (hs : s < 18446744073709551616) (h : Grid w v ls) (hr : Rng ls) (hin : ∀ o, hasF s o = true → o ≤ ls.length) (O : Nat) (hO : nextF ls s = O) :
    Calls Tryd.prog 61 #[hv n v, .int .u64 s] w fun e w' => e = .returned (.int .u64 (O : Nat)) ∧ Below w.heap.size w w' := by
  subst hO; exact rnext_any n v ls s w hs h hr hin
/-- the reference's step is the level's -/
theorem lev_ref (ls : Rws) (r o k : Nat) (hr : r < 18446744073709551616) : levF ls (r ||| o) r k &&& ((r &&& ownF ls) ||| o) = levF ls (r ||| o) r k &&& (r ||| o) := by
  have hl := lev_lt ls (r ||| o) hr k
  refine has_ext (land_lt _ hl) (land_lt _ hl) fun x => ?_
  rw [has_and, has_and, has_or, has_or, has_and, has_own]
  constructor
  · intro h
    rw [Bool.and_eq_true, Bool.or_eq_true, Bool.and_eq_true] at h
    rw [Bool.and_eq_true, Bool.or_eq_true]
    exact ⟨h.1, h.2.imp (·.1) id⟩
  · intro h
    rw [Bool.and_eq_true, Bool.or_eq_true] at h
    rw [Bool.and_eq_true, Bool.or_eq_true, Bool.and_eq_true, decide_eq_true_iff]
    exact ⟨h.1, h.2.imp (fun a => ⟨a, lev_in _ _ _ _ _ h.1⟩) id⟩
theorem lev_stop (ls : Rws) (opn k : Nat) {r : Nat} (hr : r < 18446744073709551616) (h : levF ls opn r (k + 1) = levF ls opn r k) : levF ls opn r k = levF ls opn r 64 := by
  by_cases hk : k ≤ 64
  · exact (lev_stable ls opn r k h 64 hk).symm
  · exact lev_64 ls opn hr k (by omega)
theorem via_own (ls : Rws) {r : Nat} (hr : r < 18446744073709551616) : viaF ls r (ownF ls) = fromF ls r := by
  refine has_ext (via_lt ls _ hr) (from_lt ls hr) fun x => ?_
  rw [via_has hr, from_has hr]
  constructor
  · exact fun h => h.mono (fun y hy => has_all y (has_rng hy)) fun y hy hi => .root hy hi
  · intro h
    induction h with
    | root h hx => exact .root h hx
    | step hy _ hm hx ih => exact .step ih (by rw [has_or, has_own, decide_eq_true hy.inO, Bool.or_true]) hm hx
set_option maxRecDepth 100000 in
set_option maxHeartbeats 4000000 in
theorem rVia_any (n : Int) (v : Value) (ls : Rws) (r o : Nat) (w : World) (hr : r < 18446744073709551616) (ho : o < 18446744073709551616) (h : Grid w v ls) (hR : Rng ls) :
    Calls Tryd.prog 34 #[hv n v, .int .u64 r, .int .u64 o] w fun e w' => e = .returned (.int .u64 (viaF ls r o : Nat)) ∧ Below w.heap.size w w' := by
  have HG := hide h
  have HR := hide hR
  obtain ⟨w1, e1, hb1, -, -, x0, x1⟩ := box1 w (.int .i64 n) v 26
  have H1 := hide e1
  obtain ⟨O, hO⟩ : ∃ O, ownF ls = O := ⟨_, rfl⟩
  have hOl : O < 18446744073709551616 := hO ▸ own_lt ls
  have HL0 := hide (show levF ls (r ||| o) r 0 = r &&& O by rw [← hO]; rfl)
  have hrO := land_lt O hr
  have HLR := hide (fun k => lev_ref ls r o k hr)
  rw [hO] at HLR
  have HO := hide hO
  obtain ⟨P, hP⟩ : ∃ P, (r &&& O) ||| o = P := ⟨_, rfl⟩
  have hPl : P < 18446744073709551616 := hP ▸ lor_lt hrO ho
  rw [hP] at HLR
  have hand := bits_and_u64_nat r O hr hOl
  have hor := bits_or_u64_nat (r &&& O) o hrO ho
  rw [hP] at hor
  clear h hR e1 hO hP
  go_enter Tryd.func34, Tryd.ntmps34
  go_wp2_with fail
  rw [H1.out]
  (with_reducible refine (rown_c n v ls _ (HG.out.below hb1) O HO.out).mono ?_)
  rintro e w2 ⟨rfl, hb2⟩
  have x0 := keepc hb2 x0
  have x1 := keepc hb2 x1
  have hb02 := bcall hb1 hb2
  go_wp2_with fail
  go_loopw [7] (fun t wr => ∃ k : Nat, t = .int .u64 (levF ls (r ||| o) r k : Nat) ∧ Below w2.heap.size w2 wr) (fun t _ => 64 - cntF (Go.RowKit.intOf t).toNat)
  case atStart => exact ⟨0, by rw [HL0.out], Below.refl _ _⟩
  case round =>
    obtain ⟨k, rfl, hb⟩ := hrel
    have hbw := bcall hb02 hb
    have x0 := keepc hb x0
    have x1 := keepc hb x1
    have hSl := lev_lt ls (r ||| o) hr k
    have hS1l := lev_lt ls (r ||| o) hr (k + 1)
    have hst := lev_stop ls (r ||| o) k hr
    have hin : ∀ y, hasF (levF ls (r ||| o) r k &&& P) y = true → y ≤ ls.length := fun y hy => by
      rw [has_and, Bool.and_eq_true] at hy
      exact (lev_in _ _ _ _ _ hy.1).2.2
    have hnx : levF ls (r ||| o) r k ||| nextF ls (levF ls (r ||| o) r k &&& P) = levF ls (r ||| o) r (k + 1) := by rw [HLR.out k]; rfl
    have hgrow := cnt_more hSl hS1l (fun y hy => (has_levS ..).2 (.inl hy))
    have hcle := cnt_le (levF ls (r ||| o) r (k + 1))
    obtain ⟨S, hS⟩ : ∃ S, levF ls (r ||| o) r k = S := ⟨_, rfl⟩
    obtain ⟨S1, hS1⟩ : ∃ S, levF ls (r ||| o) r (k + 1) = S := ⟨_, rfl⟩
    rw [hS] at hSl hin hnx hgrow hst ⊢
    rw [hS1] at hS1l hnx hgrow hst hcle
    have hand2 := bits_and_u64_nat S P hSl hPl
    have hSPl := land_lt P hSl
    obtain ⟨X, hX⟩ : ∃ X, nextF ls (S &&& P) = X := ⟨_, rfl⟩
    have hXl : X < 18446744073709551616 := hX ▸ next_lt _ _
    rw [hX] at hnx
    have hor2 := bits_or_u64_nat S X hSl hXl
    rw [hnx] at hor2
    have HX := hide hX
    have HI := hide hin
    have HS1 := hide hS1
    have HST := hide hst
    have HGr := hide hgrow
    clear hX hin hnx hS hS1 hst hgrow
    by_cases he : S1 = S
    · have hv := hide (show viaF ls r o = S from (HST.out he).symm)
      subst he
      go_wp2_with fail
      (with_reducible refine (rnext_c n v ls (S1 &&& P) _ hSPl (HG.out.below hbw) HR.out HI.out X HX.out).mono ?_)
      rintro e w3 ⟨rfl, hb3⟩
      go_wp2
      go_ret
      exact ⟨by rw [hv.out]; rfl, bcall hbw hb3⟩
    · have hlt : cntF S < cntF S1 := by
        rcases HGr.out with h | h
        · exact absurd h.symm he
        · exact h
      have hne : ((S1 : Int) == (S : Int)) = false := by rw [beq_eq_false_iff_ne]; omega
      go_wp2_with fail
      (with_reducible refine (rnext_c n v ls (S &&& P) _ hSPl (HG.out.below hbw) HR.out HI.out X HX.out).mono ?_)
      rintro e w3 ⟨rfl, hb3⟩
      go_wp2
      go_roundw
      case rel => exact ⟨k + 1, by rw [HS1.out], bcall hb hb3⟩
      case measure => simp [Go.RowKit.intOf]; omega
theorem rVia_c (n : Int) (v : Value) (ls : Rws) (r o : Nat) (w : World) (hr : r < 18446744073709551616) (ho : o < 18446744073709551616) (h : Grid w v ls) (hR : Rng ls) (O : Nat) (hO : viaF ls r o = O) :
    Calls Tryd.prog 34 #[hv n v, .int .u64 r, .int .u64 o] w fun e w' => e = .returned (.int .u64 (O : Nat)) ∧ Below w.heap.size w w' := by
  subst hO; exact rVia_any n v ls r o w hr ho h hR
set_option maxRecDepth 100000 in
set_option maxHeartbeats 1000000 in
theorem rFrom_any (n : Int) (v : Value) (ls : Rws) (r : Nat) (w : World) (hr : r < 18446744073709551616) (h : Grid w v ls) (hR : Rng ls) :
    Calls Tryd.prog 32 #[hv n v, .int .u64 r] w fun e w' => e = .returned (.int .u64 (fromF ls r : Nat)) ∧ Below w.heap.size w w' := by
  have HG := hide h
  have HR := hide hR
  obtain ⟨w1, e1, hb1, -, -, x0, x1⟩ := box1 w (.int .i64 n) v 26
  have H1 := hide e1
  obtain ⟨O, hO⟩ : ∃ O, ownF ls = O := ⟨_, rfl⟩
  have hOl : O < 18446744073709551616 := hO ▸ own_lt ls
  have HV := hide (show viaF ls r O = fromF ls r by rw [← hO]; exact via_own ls hr)
  have HO := hide hO
  have HG1 := hide (HG.out.below hb1)
  clear h hR e1 hO
  have x0q : ∀ p : BW w1, p.w.cell? ⟨w.heap.size, 0, none⟩ = some (.int .i64 n) := fun p => keepc p.b x0
  have x1q : ∀ p : BW w1, p.w.cell? ⟨w.heap.size, 1, none⟩ = some v := fun p => keepc p.b x1
  have HGq := hide (fun p : BW w1 => HG1.out.below p.b)
  go_enter Tryd.func32, Tryd.ntmps32
  go_wp2
  rw [H1.out]
  refine wp_region_below (by kernel_rfl) (by kernel_rfl) ?_
  repeat (go_big_quiet_step (first | (with_reducible refine below_of (rVia_c n v ls r O _ hr hOl (HGq.out _) HR.out _ HV.out)) | (with_reducible refine below_of (rown_c n v ls _ (HGq.out _) O HO.out))))
  refine wpQuiet_nil ?_
  intro _ hw'
  obtain ⟨⟨wq, bq⟩, hw''⟩ := hw'
  subst hw''
  go_wp2
  go_ret
  exact ⟨rfl, bcall hb1 bq⟩
end Go.Proofs.YtohfpcnekfpdkaaDoor
