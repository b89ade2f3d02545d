/- Layer heap: the document's own answer: Cut. -/
import Derived.Test.YtffdgkofolomlaaDoorRefHeapP
import Derived.Test.YtffdgkofolomlaaDoorHeapPut
import Derived.Deep.AppendLies
namespace Go.Proofs.YtffdgkofolomlaaDoor
open Go.RowKit

/-- a piece, as a cell -/
def tc (p : B8) : List Value := [.string ⟨p.toArray⟩]
theorem tc_len (p : B8) : (tc p).length = 1 := rfl
abbrev Pcs (w : World) (v : Value) (l : List B8) : Prop := Sl tc 1 w v l
theorem infoStr : (Tryd.prog.info? 9).map (fun i => (i.zero, i.size, i.bytes)) = some (some (.string ⟨#[]⟩), 1, 16) := by kernel_rfl
theorem ext_sub (t : ByteArray) (a b : Nat) : t.extract a b = ⟨((t.data.toList.drop a).take (b - a)).toArray⟩ := by
  apply ByteArray.ext
  apply Array.ext'
  rw [ByteArray.data_extract, Array.toList_extract]

set_option maxRecDepth 100000 in
set_option maxHeartbeats 8000000 in
theorem rCut_any (t : ByteArray) (c : UInt8) (w : World) (ht : t.size ≤ 1048576) :
    Calls Tryd.prog 27 #[.string t, .int .u8 c.toNat] w fun e w' => ∃ v, e = .returned v ∧ w'.ownsRow w.heap.size 9 1 v (cutG c [] t.data.toList).length ((cutG c [] t.data.toList).flatMap tc) ∧ Below w.heap.size w w' := by
  obtain ⟨i0, hi, hz0, hz1, hz2⟩ := info_parts infoStr
  have htl : t.data.toList.length = t.size := by rw [Array.length_toList]; rfl
  obtain ⟨sb, hsb, hsr⟩ : ∃ sb : Nat → Int, (∀ n (h : n < t.size), ((t[n]'h).toNat : Int) = sb n) ∧ ∀ n, 0 ≤ sb n ∧ sb n ≤ 255 := by
    refine ⟨fun n => if h : n < t.size then ((t[n]'h).toNat : Int) else 0, fun n h => by simp [h], fun n => ?_⟩
    dsimp only
    split
    · next h => have := UInt8.toNat_lt (t[n]'h); omega
    · omega
  obtain ⟨R, hR⟩ : ∃ R, cutG c [] t.data.toList = R := ⟨_, rfl⟩
  have HR := hide hR
  obtain ⟨L, hL⟩ : ∃ L, t.data.toList = L := ⟨_, rfl⟩
  rw [hL] at HR htl
  rw [hR]
  have HL := hide hL
  have HTL := hide htl
  clear hR hL htl
  go_enter Tryd.func27, Tryd.ntmps27
  go_wp2
  go_loopw [5, 6, 7] (fun v f i wr => ∃ (k fr : Nat) (acc : List B8), i = .int .i64 k ∧ f = .int .i64 fr ∧ fr ≤ k ∧ acc.length ≤ fr ∧ fr ≤ t.size + 1 ∧ wr.ownsRow w.heap.size 9 1 v acc.length (acc.flatMap tc) ∧ Below w.heap.size w wr ∧
    ((k ≤ t.size ∧ fr ≤ t.size ∧ Hid (acc ++ cutG c ((L.drop fr).take (k - fr)) (L.drop k) = R)) ∨ (k = t.size + 1 ∧ Hid (acc = R)))) (fun _ _ i _ => t.size + 1 - (Go.RowKit.intOf i).toNat)
  case atStart => exact ⟨0, 0, [], rfl, rfl, Nat.le_refl _, Nat.le_refl _, Nat.zero_le _, World.ownsRow_nil _ _ _ _, Below.refl _ _, .inl ⟨Nat.zero_le _, Nat.zero_le _, hide (by simpa using HR.out)⟩⟩
  case round =>
    obtain ⟨k, fr, acc, rfl, rfl, hfk, hal, hft, hown, hb, hrel⟩ := hrel
    obtain ⟨A, cp, rfl, hcp, hcm⟩ := own_form hown
    have hwa := hb.size
    rcases hrel with ⟨hk, hf2, hinv⟩ | ⟨rfl, hinv⟩
    · by_cases hlt : k < t.size
      · have hkL : k < L.length := by rw [HTL.out]; exact hlt
        obtain ⟨b, hbd, hbx⟩ : ∃ b : UInt8, L.drop k = b :: L.drop (k + 1) ∧ (b.toNat : Int) = sb k := by
          refine ⟨t[k]'hlt, ?_, hsb k hlt⟩
          rw [List.drop_eq_getElem_cons hkL]
          congr 1
          simp only [← HL.out]; rfl
        have htk : (L.drop fr).take (k + 1 - fr) = (L.drop fr).take (k - fr) ++ [b] := by
          have hb0 : L[k]? = some b := by
            have := congrArg (fun x => x[0]?) hbd
            simpa [List.getElem?_drop] using this
          rw [show k + 1 - fr = (k - fr) + 1 by omega, List.take_add_one]
          congr 1
          rw [List.getElem?_drop, show fr + (k - fr) = k by omega, hb0]; rfl
        have hinv := hinv.out
        rw [hbd] at hinv
        have q0 : (k == t.size) = false := by simp; omega
        obtain ⟨r0, r1⟩ := hsr k
        by_cases hc : b = c
        · rw [cutG, if_pos hc] at hinv
          have HI := hide hinv
          have HX := hide (ext_sub t fr k)
          have q1 : (sb k == (c.toNat : Int)) = true := by rw [← hbx, hc]; simp
          clear hc hbd htk hinv hbx
          go_wp2_with (at_builtin; refine wpList_append_own _ rfl _ _ 53 rfl w.heap.size 9 i0 (.string ⟨#[]⟩) 1 16 Tryd.underlying53 hi hz0 hz1 hz2 rfl (by decide) _ _ _ rfl (hown.alloc _) ⟨_, 0, none⟩ 1 1 [.string (t.extract fr k)] rfl rfl (row_at _ _ _ (by simp)) (by simp [Value.oneCell']) (by simp only [maxLen]; omega) (by omega) (by simp; omega) ?_; intro v' w1 hown' hgrow _)
          rw [HX.out] at hown'
          go_roundw
          case rel => exact ⟨k + 1, k + 1, acc ++ [(L.drop fr).take (k - fr)], by go_num, by go_num, by omega, by simp; omega, by omega, by rw [List.length_append, List.flatMap_append]; rw [HL.out] at hown'; exact hown', (hb.alloc hwa _).grown hgrow (by simp; omega) (own_ge hown), .inl ⟨by omega, by omega, hide (by rw [← HI.out]; simp)⟩⟩
          case measure => simp [Go.RowKit.intOf]; omega
        · rw [cutG, if_neg hc, ← htk] at hinv
          have HI := hide hinv
          have q1 : (sb k == (c.toNat : Int)) = false := by
            rw [beq_eq_false_iff_ne, ← hbx]
            intro e
            exact hc (UInt8.toNat_inj.1 (by omega))
          clear hc hbd htk hinv hbx
          go_wp2
          go_roundw
          case rel => exact ⟨k + 1, fr, acc, by go_num, rfl, by omega, hal, hft, hown, hb, .inl ⟨by omega, hf2, HI⟩⟩
          case measure => simp [Go.RowKit.intOf]; omega
      · obtain rfl : k = t.size := by omega
        have hinv := hinv.out
        rw [List.drop_eq_nil_of_le (show L.length ≤ t.size by rw [HTL.out]; exact Nat.le_refl _), cutG] at hinv
        have HI := hide hinv
        have HX := hide (ext_sub t fr t.size)
        have q0 : (t.size == t.size) = true := by simp
        clear hinv
        go_wp2_with (at_builtin; refine wpList_append_own _ rfl _ _ 53 rfl w.heap.size 9 i0 (.string ⟨#[]⟩) 1 16 Tryd.underlying53 hi hz0 hz1 hz2 rfl (by decide) _ _ _ rfl (hown.alloc _) ⟨_, 0, none⟩ 1 1 [.string (t.extract fr t.size)] rfl rfl (row_at _ _ _ (by simp)) (by simp [Value.oneCell']) (by simp only [maxLen]; omega) (by omega) (by simp; omega) ?_; intro v' w1 hown' hgrow _)
        rw [HX.out] at hown'
        go_roundw
        case rel => exact ⟨t.size + 1, t.size + 1, acc ++ [(L.drop fr).take (t.size - fr)], by go_num, by go_num, by omega, by simp; omega, by omega, by rw [List.length_append, List.flatMap_append]; rw [HL.out] at hown'; exact hown', (hb.alloc hwa _).grown hgrow (by simp; omega) (own_ge hown), .inr ⟨rfl, HI⟩⟩
        case measure => simp [Go.RowKit.intOf]
    · go_wp2
      go_ret
      have hi2 := hinv.out
      subst hi2
      exact ⟨_, rfl, hown, hb⟩
end Go.Proofs.YtffdgkofolomlaaDoor
