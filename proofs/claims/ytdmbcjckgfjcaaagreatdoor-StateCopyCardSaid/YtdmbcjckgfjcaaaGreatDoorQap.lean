import Derived.Lib.SliceRun
import Derived.Deep.Cut
import Derived.Test.YtdmbcjckgfjcaaaGreatDoorQao
import Derived.Test.YtdmbcjckgfjcaaaGreatDoorQae
/- Layer chain: a list is laid. -/
namespace Go.Proofs.YtdmbcjckgfjcaaaGreatDoor.ch
open Go.RowKit
/-- what is done, one deed behind another -/
def layOps (nx : Int) : List Int → List Dd
  | [] => []
  | [x] => [⟨2, s64 (nx + x), 0, 0⟩]
  | x :: y :: l => ⟨2, s64 (nx + x), w64 y, 0⟩ :: layOps nx (y :: l)
theorem layOps_len (nx : Int) : ∀ l : List Int, (layOps nx l).length = l.length
  | [] => rfl
  | [_] => rfl
  | _ :: y :: l => by rw [layOps, List.length_cons, layOps_len nx (y :: l)]; rfl
theorem layOps_last (nx : Int) : ∀ (l : List Int) (k : Nat) (h : k < l.length) (h' : k < (layOps nx l).length), ¬ k + 1 < l.length → (layOps nx l)[k] = ⟨2, s64 (nx + l[k]), 0, 0⟩
  | [x], 0, _, _, _ => rfl
  | [x], k + 1, h, _, _ => by simp at h
  | x :: y :: l, 0, _, _, hn => by simp at hn
  | x :: y :: l, k + 1, h, h', hn => by
    have := layOps_last nx (y :: l) k (by simpa using h) (by simpa [layOps] using h') (by simpa using hn)
    simpa [layOps] using this
theorem layOps_mid (nx : Int) : ∀ (l : List Int) (k : Nat) (h : k < l.length) (h' : k < (layOps nx l).length) (h2 : k + 1 < l.length), (layOps nx l)[k] = ⟨2, s64 (nx + l[k]), w64 l[k + 1], 0⟩
  | [x], 0, _, _, h2 => by simp at h2
  | [x], k + 1, h, _, _ => by simp at h
  | x :: y :: l, 0, _, _, _ => rfl
  | x :: y :: l, k + 1, h, h', h2 => by
    have := layOps_mid nx (y :: l) k (by simpa using h) (by simpa [layOps] using h') (by simpa using h2)
    simpa [layOps] using this
theorem lay_all (nx : Int) : ∀ (l : List Int) (m : List Int), allM m (layOps nx l) = layCells m nx l
  | [], _ => rfl
  | [_], _ => rfl
  | x :: y :: l, m => by
    rw [layOps, allM, layCells, lay_all nx (y :: l)]
    rfl
structure LyAt (w wr : World) (nx : Int) (l : List Int) (k : Nat) (v : Value) : Prop where
  own : wr.ownsRow w.heap.size 227 4 v k (((layOps nx l).take k).flatMap oc)
  below : Below w.heap.size w wr
theorem infoOp : (Tryz.prog.info? 227).map (fun i => (i.zero, i.size, i.bytes)) = some (some (.agg #[.int .i64 0, .int .i64 0, .int .u64 0, .int .u64 0]), 4, 32) := by kernel_rfl
end Go.Proofs.YtdmbcjckgfjcaaaGreatDoor.ch
/- Layer chain: a list is laid: the cells are new. -/
namespace Go.Proofs.YtdmbcjckgfjcaaaGreatDoor.ch
open Go.RowKit
def LayNew (w : World) (r : List Int) (n : Nat) (e : Ending) (w' : World) : Prop := ∃ A c, e = .returned (.slice A n c) ∧ (n ≤ c ∧ c ≤ 9223372036854775807) ∧ Cells w' (.slice A n c) r ∧ Below w.heap.size w w' ∧ ∀ y, (Value.slice A n c).ownBlock = some y → w.heap.size ≤ y
set_option maxRecDepth 100000 in
set_option maxHeartbeats 4000000 in
theorem lay_new (v lv : Value) (m l : List Int) (hd nx : Int) (w : World) (h : Cells w v m) (hl : Ints w lv l) (hbig : m.length * 8 ≤ 140737488351232) (hbl : l.length ≤ 1048576) (r : List Int) (hr : layFCh m hd nx l = r) (n : Nat) (hn : m.length = n) :
    Calls Tryz.prog 114 #[v, .int .i64 hd, .int .i64 nx, lv] w (LayNew w r n) := by
  have HC := hide h
  have HL := hide hl
  have HR := hide hr
  have HN := hide hn
  have HBG := hide hbig
  obtain ⟨A0, c0, rfl, h1, h2, -⟩ := id hl
  unfold maxLen at h2
  obtain ⟨i0, hi, hz0, hz1, hz2⟩ := info_parts infoOp
  clear h hl hr hn hbig
  go_enter Tryz.func114, Tryz.ntmps114
  go_wp2
  go_loopw [10, 19] (fun vs i wr => ∃ k : Nat, k ≤ l.length ∧ i = .int .i64 k ∧ Hid (LyAt w wr nx l k vs)) (fun _ i _ => l.length - (Go.RowKit.intOf i).toNat)
  case atStart => exact ⟨0, Nat.zero_le _, rfl, hide ⟨World.ownsRow_nil _ _ _ _, Below.refl _ _⟩⟩
  case round =>
    obtain ⟨k, hk, rfl, HA⟩ := hrel
    have hs := HA.out.below.size
    by_cases hlt : k < l.length
    · obtain ⟨g, off, rfl, hg, d0⟩ := ints_at (HL.out.below HA.out.below) hlt
      have hlo : k < (layOps nx l).length := by rw [layOps_len]; exact hlt
      obtain ⟨x, hx⟩ : ∃ x, l[k] = x := ⟨_, rfl⟩
      obtain ⟨q, hq⟩ : ∃ q, s64 (nx + x) = q := ⟨_, rfl⟩
      have e1 : IntKind.i64.wrap (nx + x) = q := by rw [wrap_sDq]; exact hq
      have e2 : wrap64 (nx + x) = q := by rw [wrap64_s]; exact hq
      rw [hx] at d0
      by_cases h3 : k + 1 < l.length
      · obtain ⟨g', off', e', hg', d1⟩ := ints_at (HL.out.below HA.out.below) h3
        have e9 := layOps_mid nx l k hlt hlo h3
        obtain ⟨y, hy⟩ : ∃ y, l[k + 1] = y := ⟨_, rfl⟩
        rw [hy] at d1 e9
        injection e' with e'
        injection e' with e3 e4
        subst e3 e4
        have e5 : IntKind.u64.wrap y = w64 y := wrap_w y
        obtain ⟨w5, e5_, hb5, -, c0_, c1_, c2_, c3_⟩ := box4Me wr (.int .i64 2) (.int .i64 q) (.int .u64 (w64 y)) (.int .u64 0) 227
        have E5 := hide e5_
        have HB6 := hide hb5
        have HB5 := hide (bcall HA.out.below hb5)
        have hs5 := HB5.out.size
        have HO5 := hide (own_below HA.out.own hb5)
        have HT := hide (show (layOps nx l).take (k + 1) = (layOps nx l).take k ++ [⟨2, q, (w64 y), 0⟩] by rw [List.take_succ_eq_append_getElem hlo, e9, hx, hq])
        clear hb5 e9 hx hq e5_
        clear hy
        go_upto_region 9 with (fail)
        rw [E5.out]
        go_wp2_with (at_builtin; refine wpList_append_own _ rfl _ _ 225 rfl w.heap.size 227 i0 (.agg #[.int .i64 0, .int .i64 0, .int .u64 0, .int .u64 0]) 4 32 Tryz.underlying225 hi hz0 hz1 hz2 rfl (by decide) _ _ _ rfl (HO5.out.alloc _) ⟨_, 0, none⟩ 1 1 [.int .i64 2, .int .i64 q, .int .u64 (w64 y), .int .u64 0] rfl rfl (row_at _ _ _ (by simp)) (by simp [Value.oneCell']) (by simp only [maxLen]; omega) (by omega) (by simp; omega) ?_; intro h'' w6 hown' hgrow _)
        go_roundw
        case rel =>
          refine ⟨k + 1, by omega, by go_num, hide ⟨?_, ?_⟩⟩
          · rw [HT.out, List.flatMap_append]; exact hown'
          · exact (HB5.out.alloc (Nat.le_trans hs HB6.out.size) _).grown hgrow (by simp; have := HB6.out.size; omega) (own_ge HA.out.own)
        case measure => simp [Go.RowKit.intOf]; omega
      · have e9 := layOps_last nx l k hlt hlo h3
        have d2 : decide ((k : Int) + 1 < (l.length : Int)) = false := decide_eq_false (by omega)
        obtain ⟨w5, e5_, hb5, -, c0_, c1_, c2_, c3_⟩ := box4Me wr (.int .i64 2) (.int .i64 q) (.int .u64 0) (.int .u64 0) 227
        have E5 := hide e5_
        have HB6 := hide hb5
        have HB5 := hide (bcall HA.out.below hb5)
        have hs5 := HB5.out.size
        have HO5 := hide (own_below HA.out.own hb5)
        have HT := hide (show (layOps nx l).take (k + 1) = (layOps nx l).take k ++ [⟨2, q, 0, 0⟩] by rw [List.take_succ_eq_append_getElem hlo, e9, hx, hq])
        clear hb5 e9 hx hq e5_
        go_upto_region 9 with (fail)
        rw [E5.out]
        go_wp2_with (at_builtin; refine wpList_append_own _ rfl _ _ 225 rfl w.heap.size 227 i0 (.agg #[.int .i64 0, .int .i64 0, .int .u64 0, .int .u64 0]) 4 32 Tryz.underlying225 hi hz0 hz1 hz2 rfl (by decide) _ _ _ rfl (HO5.out.alloc _) ⟨_, 0, none⟩ 1 1 [.int .i64 2, .int .i64 q, .int .u64 0, .int .u64 0] rfl rfl (row_at _ _ _ (by simp)) (by simp [Value.oneCell']) (by simp only [maxLen]; omega) (by omega) (by simp; omega) ?_; intro h'' w6 hown' hgrow _)
        go_roundw
        case rel =>
          refine ⟨k + 1, by omega, by go_num, hide ⟨?_, ?_⟩⟩
          · rw [HT.out, List.flatMap_append]; exact hown'
          · exact (HB5.out.alloc (Nat.le_trans hs HB6.out.size) _).grown hgrow (by simp; have := HB6.out.size; omega) (own_ge HA.out.own)
        case measure => simp [Go.RowKit.intOf]; omega
    · have hkl : k = l.length := by omega
      by_cases hne : 0 < l.length
      · obtain ⟨g, off, rfl, hg, d0⟩ := ints_at (HL.out.below HA.out.below) hne
        obtain ⟨x, hx⟩ : ∃ x, l[0] = x := ⟨_, rfl⟩
        rw [hx, Nat.add_zero] at d0
        obtain ⟨z, hz⟩ : ∃ z, packF 0 x = z := ⟨_, rfl⟩
        have hF : packF 0 (l.headD 0) = z := by
          rw [← hz, ← hx]
          cases l with
          | nil => simp at hne
          | cons _ _ => rfl
        have HZ := hide hz
        clear hx hz
        have HRR := hide (show allM m (layOps nx l ++ ([⟨2, hd, z, 0⟩] : List Dd)) = r by rw [allM_app, lay_all, ← HR.out]; unfold layFCh; rw [hF]; rfl)
        have HLR := hide (show (layOps nx l ++ ([⟨2, hd, z, 0⟩] : List Dd)).length ≤ 1048577 by rw [List.length_append, layOps_len]; simp; omega)
        have HNR := hide (show r.length = n by rw [← HRR.out, allM_len]; exact HN.out)
        clear hF
        go_wp2_with fail
        (with_reducible refine (Pack_same 0 x z HZ.out _).mono ?_)
        rintro e w5 ⟨rfl, rfl⟩
        go_wp2_with (at_builtin; refine wpList_append_own _ rfl _ _ 225 rfl w.heap.size 227 i0 (.agg #[.int .i64 0, .int .i64 0, .int .u64 0, .int .u64 0]) 4 32 Tryz.underlying225 hi hz0 hz1 hz2 rfl (by decide) _ _ _ rfl (HA.out.own.alloc _) ⟨_, 0, none⟩ 1 1 [.int .i64 2, .int .i64 hd, .int .u64 z, .int .u64 0] rfl rfl (row_at _ _ _ (by simp)) (by simp [Value.oneCell']) (by simp only [maxLen]; omega) (by omega) (by simp; omega) ?_; intro h'' w6 hown' hgrow _)
        have HB6 := hide (show Below w.heap.size w w6 from (HA.out.below.alloc hs _).grown hgrow (by simp; omega) (own_ge HA.out.own))
        have hd9 : Dds w6 h'' (layOps nx l ++ ([⟨2, hd, z, 0⟩] : List Dd)) := by
          rw [hkl, List.take_of_length_le (by rw [layOps_len]; omega)] at hown'
          refine Sl.of_own (base := w.heap.size) (e := 227) oc_len ?_
          rw [List.length_append, layOps_len, List.flatMap_append]
          exact hown'
        have HD := hide hd9
        clear hd9
        (with_reducible refine (All_any _ _ m (layOps nx l ++ ([⟨2, hd, z, 0⟩] : List Dd)) _ (HC.out.below HB6.out) HD.out HBG.out (by have := HLR.out; omega)).mono ?_)
        rintro e w7 ⟨v', h', rfl, ho, -, hb7⟩
        rw [HRR.out] at ho
        obtain ⟨A1, c1, rfl, hd1, hd2⟩ := own_form ho
        rw [HNR.out] at hd1
        have HF := hide (show LayNew w r n (.returned (.slice A1 n c1)) w7 from ⟨A1, c1, rfl, ⟨hd1, by unfold maxLen at hd2; omega⟩, by have hz := OwnC.cells ho; rw [HNR.out] at hz; exact hz, bcall HB6.out hb7, fun y hy => Nat.le_trans HB6.out.size ((ho.lt y (by rw [HNR.out]; exact hy)).1)⟩)
        clear hd1 hd2 ho hb7
        rw [HNR.out]
        go_wp2
        go_ret
        exact HF.out
      · have h0 : l = [] := List.length_eq_zero_iff.1 (by omega)
        have hF : packF 0 (l.headD 0) = 0 := by rw [h0]; rfl
        have d0 : decide ((0 : Int) < (l.length : Int)) = false := decide_eq_false (by omega)
        clear h0
        have HRR := hide (show allM m (layOps nx l ++ ([⟨2, hd, 0, 0⟩] : List Dd)) = r by rw [allM_app, lay_all, ← HR.out]; unfold layFCh; rw [hF]; rfl)
        have HLR := hide (show (layOps nx l ++ ([⟨2, hd, 0, 0⟩] : List Dd)).length ≤ 1048577 by rw [List.length_append, layOps_len]; simp; omega)
        have HNR := hide (show r.length = n by rw [← HRR.out, allM_len]; exact HN.out)
        clear hF
        go_wp2_with (at_builtin; refine wpList_append_own _ rfl _ _ 225 rfl w.heap.size 227 i0 (.agg #[.int .i64 0, .int .i64 0, .int .u64 0, .int .u64 0]) 4 32 Tryz.underlying225 hi hz0 hz1 hz2 rfl (by decide) _ _ _ rfl (HA.out.own.alloc _) ⟨_, 0, none⟩ 1 1 [.int .i64 2, .int .i64 hd, .int .u64 0, .int .u64 0] rfl rfl (row_at _ _ _ (by simp)) (by simp [Value.oneCell']) (by simp only [maxLen]; omega) (by omega) (by simp; omega) ?_; intro h'' w6 hown' hgrow _)
        have HB6 := hide (show Below w.heap.size w w6 from (HA.out.below.alloc hs _).grown hgrow (by simp; omega) (own_ge HA.out.own))
        have hd9 : Dds w6 h'' (layOps nx l ++ ([⟨2, hd, 0, 0⟩] : List Dd)) := by
          rw [hkl, List.take_of_length_le (by rw [layOps_len]; omega)] at hown'
          refine Sl.of_own (base := w.heap.size) (e := 227) oc_len ?_
          rw [List.length_append, layOps_len, List.flatMap_append]
          exact hown'
        have HD := hide hd9
        clear hd9
        (with_reducible refine (All_any _ _ m (layOps nx l ++ ([⟨2, hd, 0, 0⟩] : List Dd)) _ (HC.out.below HB6.out) HD.out HBG.out (by have := HLR.out; omega)).mono ?_)
        rintro e w7 ⟨v', h', rfl, ho, -, hb7⟩
        rw [HRR.out] at ho
        obtain ⟨A1, c1, rfl, hd1, hd2⟩ := own_form ho
        rw [HNR.out] at hd1
        have HF := hide (show LayNew w r n (.returned (.slice A1 n c1)) w7 from ⟨A1, c1, rfl, ⟨hd1, by unfold maxLen at hd2; omega⟩, by have hz := OwnC.cells ho; rw [HNR.out] at hz; exact hz, bcall HB6.out hb7, fun y hy => Nat.le_trans HB6.out.size ((ho.lt y (by rw [HNR.out]; exact hy)).1)⟩)
        clear hd1 hd2 ho hb7
        rw [HNR.out]
        go_wp2
        go_ret
        exact HF.out
end Go.Proofs.YtdmbcjckgfjcaaaGreatDoor.ch
