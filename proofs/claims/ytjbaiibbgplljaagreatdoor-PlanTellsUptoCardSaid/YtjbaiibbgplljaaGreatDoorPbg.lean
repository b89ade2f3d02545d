import Derived.Test.YtjbaiibbgplljaaGreatDoorPbf
import Derived.Test.YtjbaiibbgplljaaGreatDoorPba
import Derived.Test.YtjbaiibbgplljaaGreatDoorPau
set_option maxRecDepth 100000
set_option maxHeartbeats 40000000
namespace Go.Proofs.YtjbaiibbgplljaaGreatDoor
open Go.RowKit
theorem rpBins_any (a b c d e f g h n : Int) (ob : Value) (s : Nat) (rg pg pk : Value) (w : World) :
 Calls Tryz.prog 14 #[planV a b c d e f g h n ob s rg pg pk] w fun x w' => x = .returned (.int .i64 (wrap64 (wrap64 (f + a) + b))) ∧ Below w.heap.size w w' := by
 unfold planV; go_enter Tryz.func14, Tryz.ntmps14
 go_wp2; go_ret
 exact ⟨by rfl, (Below.refl _ _).alloc (Nat.le_refl _) _⟩
theorem rpWrites_any (a b c d e f g h n : Int) (ob : Value) (s : Nat) (rg pg pk : Value) (ls : List (List Oq)) (w : World) (hg : GridO w pg ls) :
 Calls Tryz.prog 20 #[planV a b c d e f g h n ob s rg pg pk] w fun x w' => x = .returned (.int .i64 (wrap64 ((ls.map cWrites).sum : Nat))) ∧ Below w.heap.size w w' := by
 have HG := hide hg; obtain ⟨A, m, rfl, hm1, hm2⟩ := hg.form; unfold maxLen at hm2; clear hg; obtain ⟨w1, e1, hb1, hs1, X⟩ := bp_new w a b c d e f g h n ob s rg (.slice A ls.length m) pk 40; have HX := hide X; have HE := hide e1; have HG1 := hide (HG.out.below hb1); obtain ⟨x0, x1, x2, x3, x4, x5⟩ := X.all2; clear e1 X x0 x1 x2 x3 x5; unfold planV; go_enter Tryz.func20, Tryz.ntmps20
 go_wp2_with fail
 rw [HE.out]; go_loopw [3, 4] (fun nv iv wr => ∃ i : Nat, i ≤ ls.length ∧ iv = .int .i64 i ∧ nv = .int .i64 (wrap64 ((wrF ls i : Nat) : Int)) ∧ wr = w1) (fun _ iv _ => ls.length - (intOf iv).toNat)
 case atStart => exact ⟨0, Nat.zero_le _, rfl, by simp [wrF, wrap64], rfl⟩
 case round =>
  obtain ⟨i, hi, rfl, rfl, rfl⟩ := hrel; by_cases hlt : i < ls.length
  · obtain ⟨gb, goff, uu, rfl, -, hgc, hgi⟩ := gridO_at HG1.out hlt
    have HT := hide (writes_take hlt); generalize ls[i] = l at *; have HI := hide hgi; clear hgi; go_wp2_with fail
    (with_reducible refine (rcWrites_any _ l _ HI.out).mono ?_); rintro e w2 ⟨rfl, rfl⟩; go_wp2; go_roundw
    case rel => exact ⟨i + 1, by omega, by go_num, by rw [HT.out, ← wrap_add], trivial⟩
    case measure => simp [intOf]; omega
  · have HF := hide (show wrF ls i = (ls.map cWrites).sum by unfold wrF; rw [List.take_of_length_le (by omega)])
    go_wp2; go_ret
    exact ⟨by rw [HF.out]; rfl, hb1⟩
theorem rpGreys_any (a b c d e f g h n : Int) (ob : Value) (s : Nat) (rg pg pk : Value) (ls : Rws) (w : World) (hs : s < 18446744073709551616) (hg : Grid w rg ls) (hr : Rng ls) :
 Calls Tryz.prog 16 #[planV a b c d e f g h n ob s rg pg pk] w fun x w' => x = .returned (.int .u64 (grF s ls ls.length : Nat)) ∧ Below w.heap.size w w' := by
 have HG := hide hg; have HR := hide hr; have HS := hide hs; obtain ⟨A, m, rfl, hm1, hm2⟩ := hg.form; unfold maxLen at hm2; clear hg hr hs; obtain ⟨w1, e1, hb1, hs1, X⟩ := bp_new w a b c d e f g h n ob s (.slice A ls.length m) pg pk 40; have HX := hide X; have HE := hide e1; have HB1 := hide hb1; have HG1 := hide (HG.out.below hb1); obtain ⟨x0, x1, x2, x3, x4, x5⟩ := X.all2; clear e1 X x0 x1 x4 x5 hb1 hs1; unfold planV; go_enter Tryz.func16, Tryz.ntmps16
 go_wp2_with fail
 rw [HE.out]; go_wp2_with fail
 go_loopw [3, 4] (fun nv iv wr => ∃ i : Nat, i ≤ ls.length ∧ iv = .int .i64 i ∧ nv = .int .u64 ((grF s ls i : Nat) : Int) ∧ Below w1.heap.size w1 wr) (fun _ iv _ => ls.length - (intOf iv).toNat)
 case atStart => exact ⟨0, Nat.zero_le _, rfl, rfl, Below.refl _ _⟩
 case round =>
  obtain ⟨i, hi, rfl, rfl, hb⟩ := hrel; have x2 := keepcHp hb x2; have x3 := keepcHp hb x3; by_cases hlt : i < ls.length
  · obtain ⟨gb, goff, uu, rfl, -, hgc, hgi⟩ := grid_at (HG1.out.below hb) hlt
    have HT := hide (grey_take (s := s) hlt); have hrl := HR.out ls[i] (List.getElem_mem hlt); have hgl := grF_lt HS.out ls i; generalize ls[i] = l at *; have HO := hide (rOf_b _ l wr hgi hrl _ rfl); have hol := ofF_lt l; obtain ⟨O, hO⟩ : ∃ O, ofF l = O := ⟨_, rfl⟩; obtain ⟨G, hG⟩ : ∃ G, grF s ls i = G := ⟨_, rfl⟩; rw [hO] at HO HT hol; rw [hG] at HT hgl ⊢; have hor := bits_or_u64_nat G O hgl hol; clear hgi hrl hO hG; go_wp2_with fail
    (with_reducible refine HO.out.mono ?_); rintro e w2 ⟨rfl, hb2⟩; have hb3 := bcall hb hb2; go_wp2; go_roundw
    case rel => exact ⟨i + 1, by omega, by go_num, by rw [HT.out], hb3⟩
    case measure => simp [intOf]; omega
  · obtain rfl : i = ls.length := by omega
    go_wp2; go_ret
    exact ⟨rfl, bcall HB1.out hb⟩
theorem rpLive_any (a b c d e f g h n : Int) (ob : Value) (s : Nat) (rg pg pk : Value) (ls rs : Rws) (w : World) (hs : s < 18446744073709551616) (hg : Grid w rg rs) (hr : Rng rs) (ho : Grid w ob ls) (hq : Rng ls) :
 Calls Tryz.prog 18 #[planV a b c d e f g h n ob s rg pg pk] w fun x w' => x = .returned (.int .u64 (fromF ls (grF s rs rs.length) : Nat)) ∧ Below w.heap.size w w' := by
 have HG := hide hg; have HR := hide hr; have HO := hide ho; have HQ := hide hq; have HL := hide (grF_lt hs rs rs.length); have HS := hide hs; clear hg hr hs ho hq; obtain ⟨w1, e1, hb1, hs1, X⟩ := bp_new w a b c d e f g h n ob s rg pg pk 40; have HX := hide X; have HE := hide e1; have HB1 := hide hb1; clear e1 X hb1 hs1; unfold planV; go_enter Tryz.func18, Tryz.ntmps18
 go_wp2; rw [HE.out]; refine wp_region_held_drew (S := fun w' => PC w' (w.heap.size) (.int .i64 a) (.int .i64 b) (.int .i64 c) (.int .i64 d) (.int .i64 e) (.int .i64 f) (.int .i64 g) (.int .i64 h) (.int .i64 n) ob (.int .u64 (s : Int)) rg pg pk) (by kernel_rfl) ?_ (fun hHeld => ?_)
 · exact (by first | (with_reducible exact HX.out.cells) | (with_reducible exact HX.out.drew.cells) | exact (HX.out.drew.below hb2).cells | exact ((HX.out.drew.below hb2).below hb3).cells)
 refine tk 0 ?_; refine tk 1 ?_; refine tk 2 ?_; refine r1 3 (fun K hK => ?_); go_simp; go_at_call 16; (with_reducible refine (rpGreys_any a b c d e f g h n ob s rg pg pk rs _ HS.out (HG.out.below (belowD HB1.out)) HR.out).mono ?_); rintro x w2 ⟨rfl, hb2⟩; (try go_simp); refine go_ hK (by first | (with_reducible exact HX.out.cells) | (with_reducible exact HX.out.drew.cells) | exact (HX.out.drew.below hb2).cells | exact ((HX.out.drew.below hb2).below hb3).cells) (fun hHeld => ?_); refine r1 4 (fun K hK => ?_); go_simp; go_at_call 61; (with_reducible refine (rFrom_any n ob ls _ _ HL.out ((HO.out.below (belowD HB1.out)).below hb2) HQ.out).mono ?_); rintro x w3 ⟨rfl, hb3⟩; (try go_simp); refine go_ hK (by first | (with_reducible exact HX.out.cells) | (with_reducible exact HX.out.drew.cells) | exact (HX.out.drew.below hb2).cells | exact ((HX.out.drew.below hb2).below hb3).cells) (fun hHeld => ?_); refine tk 5 ?_; refine wpAnyH_done (by kernel_rfl) ?_ _; go_wp2; go_ret
 exact ⟨rfl, bcall (belowD HB1.out) (bcall hb2 hb3)⟩
