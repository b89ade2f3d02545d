import Derived.Test.YtjbaiibbgplljaaGreatDoorPaf
import Derived.Test.YtjbaiibbgplljaaGreatDoorPao
set_option maxRecDepth 100000
set_option maxHeartbeats 40000000
namespace Go.Proofs.YtjbaiibbgplljaaGreatDoor
open Go.RowKit Go.Shelf Go.Proofs Go.Joins
theorem cutC_no (c : UInt8) (s : ByteArray) (w : World) (h : Go.Lib.indexByte s.data.toList c = -1) : Calls Tryz.prog 161 #[.string s, .string ⟨#[c]⟩] w fun e w' => e = .returned (.tuple #[.string s, .string ⟨#[]⟩, .bool false]) ∧ w' = w := by
 have HI := hide (Tryz.stringslite_Index_one s c); have H := hide h; clear h; go_enter Tryz.func161, Tryz.ntmps161
 go_wp2_with fail
 refine (HI.out _).mono ?_; rintro e _ ⟨rfl, rfl⟩; rw [H.out]; go_wp2; go_ret3
 exact ⟨rfl, rfl⟩
theorem cutC_at (c : UInt8) (s : ByteArray) (i : Nat) (w : World) (h : Go.Lib.indexByte s.data.toList c = (i : Int)) (hi : i < s.size) (hs : s.size ≤ 9223372036854775807) : Calls Tryz.prog 161 #[.string s, .string ⟨#[c]⟩] w fun e w' => e = .returned (.tuple #[.string (s.extract 0 i), .string (s.extract (i + 1) s.size), .bool true]) ∧ Below w.heap.size w w' := by
 have HI := hide (Tryz.stringslite_Index_one s c); have H := hide h; have c1 : (0 : Int) ≤ i := by omega
 have c2 : (i : Int) ≤ s.size := by omega
 have c3 : (0 : Int) ≤ i + 1 := by omega
 have c4 : (i : Int) + 1 ≤ s.size := by omega
 have c5 : ((i : Int) + 1).toNat = i + 1 := by omega
 have c6 : IntKind.i64.wrap ((i : Int) + 1) = (i : Int) + 1 := by simp [IntKind.wrap, IntKind.bits, IntKind.signed]; omega
 clear h hi hs; go_enter Tryz.func161, Tryz.ntmps161
 go_wp2_with fail
 refine (HI.out _).mono ?_; rintro e _ ⟨rfl, rfl⟩; rw [H.out]; go_wp2; refine wp_region_held_drew (S := fun _ => True) (by kernel_rfl) ?_ (fun hHeld => ?_)
 · exact trivial
 refine tk 0 ?_; refine tk 1 ?_; refine tk 2 ?_; refine tk 3 ?_; refine tk 4 ?_; refine tk 5 ?_; refine tk 6 ?_; refine tk 7 ?_; refine tk 8 ?_; refine tk 9 ?_; refine tk 10 ?_; refine tk 11 ?_; refine wpAnyH_done (by kernel_rfl) ?_ _; go_wp2; go_ret3
 exact ⟨rfl, below_drewCd (Below.refl _ _)⟩
theorem CutC_any (c : UInt8) (s : ByteArray) (w : World) (hs : s.size ≤ 9223372036854775807) : Calls Tryz.prog 119 #[.string s, .string ⟨#[c]⟩] w fun e w' => ∃ (x y : ByteArray) (b : Bool), e = .returned (.tuple #[.string x, .string y, .bool b]) ∧ (x.data.toList, y.data.toList) = sepC c s.data.toList ∧ b = decide (c ∈ s.data.toList) ∧ x.size ≤ s.size ∧ y.size ≤ s.size ∧ Below w.heap.size w w' := by
 rcases idx_cases s.data.toList c with ⟨h1, h2⟩ | ⟨i, h1, h2, h3, h4⟩
 · have HC := hide (cutC_no c s · h1)
   have HF := hide (sepC_none h2); have HM := hide h2; clear h1 h2; go_enter Tryz.func119, Tryz.ntmps119
   go_wp2_with fail
   refine (HC.out _).mono ?_; rintro e w' ⟨rfl, rfl⟩; go_wp2; go_ret3
   exact ⟨s, ⟨#[]⟩, false, rfl, by rw [HF.out], (decide_eq_false HM.out).symm, Nat.le_refl _, Nat.zero_le _, Below.refl _ _⟩
 · rw [ba_len] at h2
   have HC := hide (cutC_at c s i · h1 h2 hs); have HM := hide (show c ∈ s.data.toList by rw [h3]; simp); have HF := hide (show sepC c s.data.toList = (s.data.toList.take i, s.data.toList.drop (i + 1)) from (congrArg (sepC c) h3).trans (sepC_some h4)); obtain ⟨x, hx⟩ : ∃ x, s.extract 0 i = x := ⟨_, rfl⟩; obtain ⟨y, hy⟩ : ∃ y, s.extract (i + 1) s.size = y := ⟨_, rfl⟩; have HX := hide (show x.data.toList = s.data.toList.take i by rw [← hx]; exact xt_take s i); have HY := hide (show y.data.toList = s.data.toList.drop (i + 1) by rw [← hy]; exact xt_drop s (i + 1)); have HXL := hide (show x.size ≤ s.size by rw [← ba_len x, ← ba_len s, HX.out, List.length_take]; omega); have HYL := hide (show y.size ≤ s.size by rw [← ba_len y, ← ba_len s, HY.out, List.length_drop]; omega); rw [hx, hy] at HC; clear h1 h2 h3 h4 hx hy; go_enter Tryz.func119, Tryz.ntmps119
   go_wp2_with fail
   refine (HC.out _).mono ?_; rintro e w' ⟨rfl, hb⟩; go_wp2; go_ret3
   exact ⟨x, y, true, rfl, by rw [HF.out, HX.out, HY.out], (decide_eq_true HM.out).symm, HXL.out, HYL.out, hb⟩
end Go.Proofs.YtjbaiibbgplljaaGreatDoor
namespace Go.Proofs.YtjbaiibbgplljaaGreatDoor
open Go.RowKit Go.Shelf Go.Proofs
attribute [local go_sem] Oper.semAt_some
theorem cutC_step {c : UInt8} {t : List UInt8} {i : Nat} (h : t = t.take i ++ c :: t.drop (i + 1)) (hm : c ∉ t.take i) : cut c t = t.take i :: cut c (t.drop (i + 1)) := (congrArg (cut c) h).trans (cut_pre _ _ _ hm)
theorem split_inC (c : UInt8) (n : Nat) (hn : 1 ≤ n) (l Bp Bs Bv : Nat) (t0 : ByteArray) (h0s : t0.size ≤ 9223372036854775807) (J : List (List UInt8) → World → Prop) (Jp : List PanicEntry → World → Prop)
 (hJs : ∀ pre W v, J pre W → J pre (W.setCell ⟨Bs, 0, none⟩ v))
 (hJc : ∀ pre W, J pre W → W.cell? ⟨Bp, 0, none⟩ = some (.string ⟨#[c]⟩) ∧ W.cell? ⟨Bv, 0, none⟩ = some (.int .i64 0) ∧ W.frozen? ⟨Bs, 0, none⟩ = false)
 (hY : ∀ pre rest (x t : ByteArray) W, J pre W → W.cell? ⟨Bs, 0, none⟩ = some (.string t) → x.size ≤ t0.size → pre ++ x.data.toList :: rest = cut c t0.data.toList → YieldAt Fence.wide (n - 1) Tryz.prog l #[.string x] W fun e W' =>
  (e = .returned (.bool true) ∧ J (pre ++ [x.data.toList]) W' ∧ W'.cell? ⟨Bs, 0, none⟩ = some (.string t)) ∨ ∃ ch, e = .panicked ch ∧ Jp ch W')
 (W : World) (h0 : J [] W) (ht : W.cell? ⟨Bs, 0, none⟩ = some (.string t0)) :
 CallsIn Fence.wide n Tryz.prog 194 #[.func (.yield l) #[] #[], .pointer (some ⟨Bp, 0, none⟩), .pointer (some ⟨Bs, 0, none⟩), .pointer (some ⟨Bv, 0, none⟩)] W fun e W' =>
  ((∃ v, e = .returned v) ∧ J (cut c t0.data.toList) W') ∨ ∃ ch, e = .panicked ch ∧ Jp ch W' := by
 refine callsIn_of_wp Tryz.func194 rfl trivial ?_ rfl; simp only [Tryz.ntmps194, List.size_toArray, List.length_cons, List.length_nil, Nat.reduceAdd, Nat.reduceSub, Array.replicate_succ, Array.replicate_zero, List.push_toArray, List.append_toArray, List.nil_append, List.cons_append]; have HI := Go.Lib.hid Tryz.strings_Index_one; obtain ⟨c1, c2, c3⟩ := hJc _ _ h0; gi_wp2
 gi_loopw [7, 8] (fun iv fv wr => ∃ (pre : List (List UInt8)) (t : ByteArray), t.size ≤ t0.size ∧ pre ++ cut c t.data.toList = cut c t0.data.toList ∧ wr.cell? ⟨Bs, 0, none⟩ = some (.string t) ∧ J pre wr)
  (fun _ _ wr => match wr.cell? ⟨Bs, 0, none⟩ with | some (.string t) => t.size | _ => 0)
 case atStart => exact ⟨[], t0, Nat.le_refl _, rfl, ht, h0⟩
 case round =>
  obtain ⟨pre, t, htl, hx, hcs, hJ⟩ := hrel; obtain ⟨c1, c2, c3⟩ := hJc _ _ hJ; have HM := Go.Lib.hid hcs; rcases idx_cases t.data.toList c with ⟨h1, h2⟩ | ⟨i, h1, h2, h3, h4⟩
  · have HQ := Go.Lib.hid h1
    have HX := Go.Lib.hid (show pre ++ t.data.toList :: [] = cut c t0.data.toList by rw [← hx, cut_all _ _ h2]); obtain ⟨fn, tmps, assign, body, hy, hR⟩ := hY pre [] t t wr hJ hcs htl HX.out; have HR := Go.Lib.hid hR; clear h1 h2 hx hR; gi_wp2_with (refine ⟨trivial, ?_⟩; gi_at_call 156; refine (callsIn_wide.2 (HI.out _ _ _)).mono ?_; rintro e w' ⟨rfl, rfl⟩; rw [HQ.out])
    refine HR.out.mono ?_; rintro e W3 (⟨rfl, hJ3, -⟩ | ⟨ch, rfl, hp⟩)
    · gi_wp2
      go_end0
      exact Or.inl ⟨⟨_, rfl⟩, by rw [← HX.out]; exact hJ3⟩
    · exact ⟨rfl, Or.inr ⟨ch, rfl, hp⟩⟩
  · rw [ba_len] at h2
    have HQ := Go.Lib.hid h1; have hcut := cutC_step h3 h4; obtain ⟨x, hxx⟩ : ∃ x, t.extract 0 i = x := ⟨_, rfl⟩; obtain ⟨y, hyy⟩ : ∃ y, t.extract (i + 1) t.size = y := ⟨_, rfl⟩; have ex : x.data.toList = t.data.toList.take i := by rw [← hxx]; exact xt_take t i
    have ey : y.data.toList = t.data.toList.drop (i + 1) := by rw [← hyy]; exact xt_drop t (i + 1)
    have hxl : x.size ≤ t0.size := by rw [← ba_len x, ex, List.length_take, ba_len]; omega
    have hyl : y.size < t.size := by rw [← ba_len y, ey, List.length_drop, ba_len]; omega
    rw [hcut, ← ex, ← ey] at hx; have HX := Go.Lib.hid (show (pre ++ [x.data.toList]) ++ cut c y.data.toList = cut c t0.data.toList by rw [← hx]; simp); have d1 : (0 : Int) ≤ i := by omega
    have d2 : (i : Int) ≤ t.size := by omega
    have d3 : IntKind.i64.wrap (i : Int) = i := by simp [IntKind.wrap, IntKind.bits, IntKind.signed]; omega
    have d4 : IntKind.i64.wrap ((i : Int) + 1) = (i : Int) + 1 := by simp [IntKind.wrap, IntKind.bits, IntKind.signed]; omega
    have d5 : (0 : Int) ≤ i + 1 := by omega
    have d6 : (i : Int) + 1 ≤ t.size := by omega
    have d7 : ¬ (i : Int) < 0 := by omega
    obtain ⟨fn, tmps, assign, body, hy, hR⟩ := hY pre (cut c y.data.toList) x t wr hJ hcs hxl hx; have HR := Go.Lib.hid hR; clear h1 h2 h3 h4 hx hR hcut ex ey; gi_wp2_with (refine ⟨trivial, ?_⟩; gi_at_call 156; refine (callsIn_wide.2 (HI.out _ _ _)).mono ?_; rintro e w' ⟨rfl, rfl⟩; rw [HQ.out])
    refine HR.out.mono ?_; rintro e W3 (⟨rfl, hJ3, hc3⟩ | ⟨ch, rfl, hp⟩)
    · obtain ⟨b1, b2, b3⟩ := hJc _ _ hJ3
      gi_wp2
      go_roundw
      case rel => exact ⟨pre ++ [x.data.toList], y, by omega, HX.out, set_sameCd hc3, hJs _ _ _ hJ3⟩
      case measure => rw [set_sameCd hc3, HM.out]; exact hyl
    · exact ⟨rfl, Or.inr ⟨ch, rfl, hp⟩⟩
theorem SplitSeqC_any (c : UInt8) (s : ByteArray) (w : World) : Calls Tryz.prog 151 #[.string s, .string ⟨#[c]⟩] w fun e w' =>
 e = .returned (.func (.func 194) #[] #[.pointer (some ⟨w.heap.size + 1, 0, none⟩), .pointer (some ⟨w.heap.size, 0, none⟩), .pointer (some ⟨w.heap.size + 2, 0, none⟩)]) ∧
   w' = ((w.alloc (.cells #[.string s] 9)).alloc (.cells #[.string ⟨#[c]⟩] 9)).alloc (.cells #[.int .i64 0] 3) := by
 have h : Calls Tryz.prog 178 #[.string s, .string ⟨#[c]⟩, .int .i64 0] w fun e w' =>
  e = .returned (.func (.func 194) #[] #[.pointer (some ⟨w.heap.size + 1, 0, none⟩), .pointer (some ⟨w.heap.size, 0, none⟩), .pointer (some ⟨w.heap.size + 2, 0, none⟩)]) ∧
    w' = ((w.alloc (.cells #[.string s] 9)).alloc (.cells #[.string ⟨#[c]⟩] 9)).alloc (.cells #[.int .i64 0] 3) := by
  go_enter Tryz.func178, Tryz.ntmps178
  go_wp2; go_ret
  exact ⟨rfl, rfl⟩
 have H := hide h; clear h; go_enter Tryz.func151, Tryz.ntmps151
 go_wp2_with fail
 refine H.out.mono ?_; rintro e w' ⟨rfl, rfl⟩; go_wp2; go_ret
 exact ⟨rfl, rfl⟩
