/- Layer code: the library's iterator over a text's pieces, for every loop body that may panic. -/
import Derived.Test.YtffdgkofolomlaaDoorCodeRead2
import Derived.Test.YtffdgkofolomlaaDoorRangeP
import Derived.Shelf.Abstract
import Derived.WalkKit
import Derived.OwnWalkIn
import Derived.TacticsInMore
import Derived.LoopNIn
import Derived.LoopIn
namespace Go.Proofs.YtffdgkofolomlaaDoor
open Go.RowKit Go.Shelf Go.Proofs
attribute [local go_sem] Oper.semAt_some

theorem set_same {w : World} {g : Nat} {v x : Value} (h : w.cell? ⟨g, 0, none⟩ = some x) : (w.setCell ⟨g, 0, none⟩ v).cell? ⟨g, 0, none⟩ = some v := World.cell?_setCell_same' _ _ _ (by rw [h]; rfl)
theorem cut_step {t : List UInt8} {i : Nat} (h : t = t.take i ++ 59 :: t.drop (i + 1)) (hm : (59 : UInt8) ∉ t.take i) : cut 59 t = t.take i :: cut 59 (t.drop (i + 1)) := (congrArg (cut 59) h).trans (cut_pre _ _ _ hm)
set_option maxRecDepth 100000 in
set_option maxHeartbeats 4000000 in
theorem split_in (n : Nat) (hn : 1 ≤ n) (l Bp Bs Bv : Nat) (t0 : ByteArray) (h0s : t0.size ≤ 9223372036854775807) (J : List (List UInt8) → World → Prop) (Jp : List PanicEntry → World → Prop)
    (hJs : ∀ pre W v, J pre W → J pre (W.setCell ⟨Bs, 0, none⟩ v))
    (hJc : ∀ pre W, J pre W → W.cell? ⟨Bp, 0, none⟩ = some (.string ⟨#[59]⟩) ∧ W.cell? ⟨Bv, 0, none⟩ = some (.int .i64 0) ∧ W.frozen? ⟨Bs, 0, none⟩ = false)
    (hY : ∀ pre rest (x t : ByteArray) W, J pre W → W.cell? ⟨Bs, 0, none⟩ = some (.string t) → x.size ≤ t0.size → pre ++ x.data.toList :: rest = cut 59 t0.data.toList → YieldAt Fence.wide (n - 1) Tryd.prog l #[.string x] W fun e W' =>
      (e = .returned (.bool true) ∧ J (pre ++ [x.data.toList]) W' ∧ W'.cell? ⟨Bs, 0, none⟩ = some (.string t)) ∨ ∃ ch, e = .panicked ch ∧ Jp ch W')
    (W : World) (h0 : J [] W) (ht : W.cell? ⟨Bs, 0, none⟩ = some (.string t0)) :
    CallsIn Fence.wide n Tryd.prog 44 #[.func (.yield l) #[] #[], .pointer (some ⟨Bp, 0, none⟩), .pointer (some ⟨Bs, 0, none⟩), .pointer (some ⟨Bv, 0, none⟩)] W fun e W' =>
      ((∃ v, e = .returned v) ∧ J (cut 59 t0.data.toList) W') ∨ ∃ ch, e = .panicked ch ∧ Jp ch W' := by
  refine callsIn_of_wp Tryd.func44 rfl trivial ?_ rfl
  simp only [Tryd.ntmps44, List.size_toArray, List.length_cons, List.length_nil, Nat.reduceAdd, Nat.reduceSub, Array.replicate_succ, Array.replicate_zero, List.push_toArray, List.append_toArray, List.nil_append, List.cons_append]
  have HI := Go.Lib.hid Tryd.strings_Index_one
  obtain ⟨c1, c2, c3⟩ := hJc _ _ h0
  gi_wp2
  gi_loopw [7, 8] (fun iv fv wr => ∃ (pre : List (List UInt8)) (t : ByteArray), t.size ≤ t0.size ∧ pre ++ cut 59 t.data.toList = cut 59 t0.data.toList ∧ wr.cell? ⟨Bs, 0, none⟩ = some (.string t) ∧ J pre wr)
    (fun _ _ wr => match wr.cell? ⟨Bs, 0, none⟩ with | some (.string t) => t.size | _ => 0)
  case atStart => exact ⟨[], t0, Nat.le_refl _, rfl, ht, h0⟩
  case round =>
    obtain ⟨pre, t, htl, hx, hcs, hJ⟩ := hrel
    obtain ⟨c1, c2, c3⟩ := hJc _ _ hJ
    have HM := Go.Lib.hid hcs
    rcases idx_cases t.data.toList 59 with ⟨h1, h2⟩ | ⟨i, h1, h2, h3, h4⟩
    · have HQ := Go.Lib.hid h1
      have HX := Go.Lib.hid (show pre ++ t.data.toList :: [] = cut 59 t0.data.toList by rw [← hx, cut_all _ _ h2])
      obtain ⟨fn, tmps, assign, body, hy, hR⟩ := hY pre [] t t wr hJ hcs htl HX.out
      have HR := Go.Lib.hid hR
      clear h1 h2 hx hR
      gi_wp2_with (refine ⟨trivial, ?_⟩; gi_at_call 46; refine (callsIn_wide.2 (HI.out _ _ _)).mono ?_; rintro e w' ⟨rfl, rfl⟩; rw [HQ.out])
      refine HR.out.mono ?_
      rintro e W3 (⟨rfl, hJ3, -⟩ | ⟨ch, rfl, hp⟩)
      · gi_wp2
        go_end0
        exact Or.inl ⟨⟨_, rfl⟩, by rw [← HX.out]; exact hJ3⟩
      · exact ⟨rfl, Or.inr ⟨ch, rfl, hp⟩⟩
    · rw [ba_len] at h2
      have HQ := Go.Lib.hid h1
      have hcut := cut_step h3 h4
      obtain ⟨x, hxx⟩ : ∃ x, t.extract 0 i = x := ⟨_, rfl⟩
      obtain ⟨y, hyy⟩ : ∃ y, t.extract (i + 1) t.size = y := ⟨_, rfl⟩
      have ex : x.data.toList = t.data.toList.take i := by rw [← hxx]; exact xt_take t i
      have ey : y.data.toList = t.data.toList.drop (i + 1) := by rw [← hyy]; exact xt_drop t (i + 1)
      have hxl : x.size ≤ t0.size := by rw [← ba_len x, ex, List.length_take, ba_len]; omega
      have hyl : y.size < t.size := by rw [← ba_len y, ey, List.length_drop, ba_len]; omega
      rw [hcut, ← ex, ← ey] at hx
      have HX := Go.Lib.hid (show (pre ++ [x.data.toList]) ++ cut 59 y.data.toList = cut 59 t0.data.toList by rw [← hx]; simp)
      have d1 : (0 : Int) ≤ i := by omega
      have d2 : (i : Int) ≤ t.size := by omega
      have d3 : IntKind.i64.wrap (i : Int) = i := by simp [IntKind.wrap, IntKind.bits, IntKind.signed]; omega
      have d4 : IntKind.i64.wrap ((i : Int) + 1) = (i : Int) + 1 := by simp [IntKind.wrap, IntKind.bits, IntKind.signed]; omega
      have d5 : (0 : Int) ≤ i + 1 := by omega
      have d6 : (i : Int) + 1 ≤ t.size := by omega
      have d7 : ¬ (i : Int) < 0 := by omega
      obtain ⟨fn, tmps, assign, body, hy, hR⟩ := hY pre (cut 59 y.data.toList) x t wr hJ hcs hxl hx
      have HR := Go.Lib.hid hR
      clear h1 h2 h3 h4 hx hR hcut ex ey
      gi_wp2_with (refine ⟨trivial, ?_⟩; gi_at_call 46; refine (callsIn_wide.2 (HI.out _ _ _)).mono ?_; rintro e w' ⟨rfl, rfl⟩; rw [HQ.out])
      refine HR.out.mono ?_
      rintro e W3 (⟨rfl, hJ3, hc3⟩ | ⟨ch, rfl, hp⟩)
      · obtain ⟨b1, b2, b3⟩ := hJc _ _ hJ3
        gi_wp2
        go_roundw
        case rel => exact ⟨pre ++ [x.data.toList], y, by omega, HX.out, set_same hc3, hJs _ _ _ hJ3⟩
        case measure => rw [set_same hc3, HM.out]; exact hyl
      · exact ⟨rfl, Or.inr ⟨ch, rfl, hp⟩⟩
end Go.Proofs.YtffdgkofolomlaaDoor
