import Derived.Lib.SliceRun
import Derived.Deep.Cut
import Derived.Test.YtdmbcjckgfjcaaaGreatDoorRal
import Derived.Test.YtdmbcjckgfjcaaaGreatDoorRaf
/- Layer chain: a list is laid. -/
namespace Go.Proofs.YtdmbcjckgfjcaaaGreatDoor.ch
open Go.RowKit
/-- what is done, one deed behind another -/
def layOps (nx : Int) : List Int → List Dd
  | [] => []
  | [x] => [⟨2, s64 (nx + x), 0, 0⟩]
  | x :: y :: l => ⟨2, s64 (nx + x), w64 y, 0⟩ :: layOps nx (y :: l)
theorem layOps_len (nx : Int) : ∀ l : List Int, (layOps nx l).length = l.length
  | [] => rfl
  | [_] => rfl
  | _ :: y :: l => by rw [layOps, List.length_cons, layOps_len nx (y :: l)]; rfl
theorem layOps_last (nx : Int) : ∀ (l : List Int) (k : Nat) (h : k < l.length) (h' : k < (layOps nx l).length), ¬ k + 1 < l.length → (layOps nx l)[k] = ⟨2, s64 (nx + l[k]), 0, 0⟩
  | [x], 0, _, _, _ => rfl
  | [x], k + 1, h, _, _ => by simp at h
  | x :: y :: l, 0, _, _, hn => by simp at hn
  | x :: y :: l, k + 1, h, h', hn => by
    have := layOps_last nx (y :: l) k (by simpa using h) (by simpa [layOps] using h') (by simpa using hn)
    simpa [layOps] using this
theorem layOps_mid (nx : Int) : ∀ (l : List Int) (k : Nat) (h : k < l.length) (h' : k < (layOps nx l).length) (h2 : k + 1 < l.length), (layOps nx l)[k] = ⟨2, s64 (nx + l[k]), w64 l[k + 1], 0⟩
  | [x], 0, _, _, h2 => by simp at h2
  | [x], k + 1, h, _, _ => by simp at h
  | x :: y :: l, 0, _, _, _ => rfl
  | x :: y :: l, k + 1, h, h', h2 => by
    have := layOps_mid nx (y :: l) k (by simpa using h) (by simpa [layOps] using h') (by simpa using h2)
    simpa [layOps] using this
theorem lay_all (nx : Int) : ∀ (l : List Int) (m : List Int), allM m (layOps nx l) = layCells m nx l
  | [], _ => rfl
  | [_], _ => rfl
  | x :: y :: l, m => by
    rw [layOps, allM, layCells, lay_all nx (y :: l)]
    rfl
structure LyAt (w wr : World) (nx : Int) (l : List Int) (k : Nat) (v : Value) : Prop where
  own : wr.ownsRow w.heap.size 227 4 v k (((layOps nx l).take k).flatMap oc)
  below : Below w.heap.size w wr
theorem infoOp : (Tryz.prog.info? 227).map (fun i => (i.zero, i.size, i.bytes)) = some (some (.agg #[.int .i64 0, .int .i64 0, .int .u64 0, .int .u64 0]), 4, 32) := by kernel_rfl
end Go.Proofs.YtdmbcjckgfjcaaaGreatDoor.ch
/- Layer chain: a list is laid: the cells are new. -/
namespace Go.Proofs.YtdmbcjckgfjcaaaGreatDoor.ch
open Go.RowKit
def LayNew (w : World) (r : List Int) (n : Nat) (e : Ending) (w' : World) : Prop := ∃ A c, e = .returned (.slice A n c) ∧ (n ≤ c ∧ c ≤ 9223372036854775807) ∧ Cells w' (.slice A n c) r ∧ Below w.heap.size w w' ∧ ∀ y, (Value.slice A n c).ownBlock = some y → w.heap.size ≤ y
set_option maxRecDepth 100000 in
set_option maxHeartbeats 4000000 in
theorem lay_new (v lv : Value) (m l : List Int) (hd nx : Int) (w : World) (h : Cells w v m) (hl : Ints w lv l) (hbig : m.length * 8 ≤ 140737488351232) (hbl : l.length ≤ 1048576) (r : List Int) (hr : layFCh m hd nx l = r) (n : Nat) (hn : m.length = n) :
    Calls Tryz.prog 114 #[v, .int .i64 hd, .int .i64 nx, lv] w (LayNew w r n) := by
  have HC := hide h
  have HL := hide hl
  have HR := hide hr
  have HN := hide hn
  have HBG := hide hbig
  obtain ⟨A0, c0, rfl, h1, h2, -⟩ := id hl
  unfold maxLen at h2
  obtain ⟨i0, hi, hz0, hz1, hz2⟩ := info_parts infoOp
  clear h hl hr hn hbig
  go_enter Tryz.func114, Tryz.ntmps114
  go_wp2
  go_loopw [10, 19] (fun vs i wr => ∃ k : Nat, k ≤ l.length ∧ i = .int .i64 k ∧ Hid (LyAt w wr nx l k vs)) (fun _ i _ => l.length - (Go.RowKit.intOf i).toNat)
  case atStart => exact ⟨0, Nat.zero_le _, rfl, hide ⟨World.ownsRow_nil _ _ _ _, Below.refl _ _⟩⟩
  case round =>
    obtain ⟨k, hk, rfl, HA⟩ := hrel
    have hs := HA.out.below.size
    by_cases hlt : k < l.length
    · obtain ⟨g, off, rfl, hg, d0⟩ := ints_at (HL.out.below HA.out.below) hlt
      have hlo : k < (layOps nx l).length := by rw [layOps_len]; exact hlt
      obtain ⟨x, hx⟩ : ∃ x, l[k] = x := ⟨_, rfl⟩
      obtain ⟨q, hq⟩ : ∃ q, s64 (nx + x) = q := ⟨_, rfl⟩
      have e1 : IntKind.i64.wrap (nx + x) = q := by rw [wrap_sDq]; exact hq
      have e2 : wrap64 (nx + x) = q := by rw [wrap64_s]; exact hq
      rw [hx] at d0
      by_cases h3 : k + 1 < l.length
      · obtain ⟨g', off', e', hg', d1⟩ := ints_at (HL.out.below HA.out.below) h3
        have e9 := layOps_mid nx l k hlt hlo h3
        obtain ⟨y, hy⟩ : ∃ y, l[k + 1] = y := ⟨_, rfl⟩
        rw [hy] at d1 e9
        injection e' with e'
        injection e' with e3 e4
        subst e3 e4
        have e5 : IntKind.u64.wrap y = w64 y := wrap_w y
        obtain ⟨w5, e5_, hb5, -, c0_, c1_, c2_, c3_⟩ := box4Me wr (.int .i64 2) (.int .i64 q) (.int .u64 (w64 y)) (.int .u64 0) 227
        have E5 := hide e5_
        have HB6 := hide hb5
        have HB5 := hide (bcall HA.out.below hb5)
        have hs5 := HB5.out.size
        have HO5 := hide (own_below HA.out.own hb5)
        have HT := hide (show (layOps nx l).take (k + 1) = (layOps nx l).take k ++ [⟨2, q, (w64 y), 0⟩] by rw [List.take_succ_eq_append_getElem hlo, e9, hx, hq])
        clear hb5 e9 hx hq e5_
        clear hy
        go_upto_region 9 with (fail)
        rw [E5.out]
        go_wp2_with (at_builtin; refine wpList_append_own _ rfl _ _ 225 rfl w.heap.size 227 i0 (.agg #[.int .i64 0, .int .i64 0, .int .u64 0, .int .u64 0]) 4 32 Tryz.underlying225 hi hz0 hz1 hz2 rfl (by decide) _ _ _ rfl (HO5.out.alloc _) ⟨_, 0, none⟩ 1 1 [.int .i64 2, .int .i64 q, .int .u64 (w64 y), .int .u64 0] rfl rfl (row_at _ _ _ (by simp)) (by simp [Value.oneCell']) (by simp only [maxLen]; omega) (by omega) (by simp; omega) ?_; intro h'' w6 hown' hgrow _)
        go_roundw
        case rel =>
          refine ⟨k + 1, by omega, by go_num, hide ⟨?_, ?_⟩⟩
          · rw [HT.out, List.flatMap_append]; exact hown'
          · exact (HB5.out.alloc (Nat.le_trans hs HB6.out.size) _).grown hgrow (by simp; have := HB6.out.size; omega) (own_ge HA.out.own)
        case measure => simp [Go.RowKit.intOf]; omega
      · have e9 := layOps_last nx l k hlt hlo h3
        have d2 : decide ((k : Int) + 1 < (l.length : Int)) = false := decide_eq_false (by omega)
        obtain ⟨w5, e5_, hb5, -, c0_, c1_, c2_, c3_⟩ := box4Me wr (.int .i64 2) (.int .i64 q) (.int .u64 0) (.int .u64 0) 227
        have E5 := hide e5_
        have HB6 := hide hb5
        have HB5 := hide (bcall HA.out.below hb5)
        have hs5 := HB5.out.size
        have HO5 := hide (own_below HA.out.own hb5)
        have HT := hide (show (layOps nx l).take (k + 1) = (layOps nx l).take k ++ [⟨2, q, 0, 0⟩] by rw [List.take_succ_eq_append_getElem hlo, e9, hx, hq])
        clear hb5 e9 hx hq e5_
        go_upto_region 9 with (fail)
        rw [E5.out]
        go_wp2_with (at_builtin; refine wpList_append_own _ rfl _ _ 225 rfl w.heap.size 227 i0 (.agg #[.int .i64 0, .int .i64 0, .int .u64 0, .int .u64 0]) 4 32 Tryz.underlying225 hi hz0 hz1 hz2 rfl (by decide) _ _ _ rfl (HO5.out.alloc _) ⟨_, 0, none⟩ 1 1 [.int .i64 2, .int .i64 q, .int .u64 0, .int .u64 0] rfl rfl (row_at _ _ _ (by simp)) (by simp [Value.oneCell']) (by simp only [maxLen]; omega) (by omega) (by simp; omega) ?_; intro h'' w6 hown' hgrow _)
        go_roundw
        case rel =>
          refine ⟨k + 1, by omega, by go_num, hide ⟨?_, ?_⟩⟩
          · rw [HT.out, List.flatMap_append]; exact hown'
          · exact (HB5.out.alloc (Nat.le_trans hs HB6.out.size) _).grown hgrow (by simp; have := HB6.out.size; omega) (own_ge HA.out.own)
        case measure => simp [Go.RowKit.intOf]; omega
    · have hkl : k = l.length := by omega
      by_cases hne : 0 < l.length
      · obtain ⟨g, off, rfl, hg, d0⟩ := ints_at (HL.out.below HA.out.below) hne
        obtain ⟨x, hx⟩ : ∃ x, l[0] = x := ⟨_, rfl⟩
        rw [hx, Nat.add_zero] at d0
        obtain ⟨z, hz⟩ : ∃ z, packF 0 x = z := ⟨_, rfl⟩
        have hF : packF 0 (l.headD 0) = z := by
          rw [← hz, ← hx]
          cases l with
          | nil => simp at hne
          | cons _ _ => rfl
        have HZ := hide hz
        clear hx hz
        have HRR := hide (show allM m (layOps nx l ++ ([⟨2, hd, z, 0⟩] : List Dd)) = r by rw [allM_app, lay_all, ← HR.out]; unfold layFCh; rw [hF]; rfl)
        have HLR := hide (show (layOps nx l ++ ([⟨2, hd, z, 0⟩] : List Dd)).length ≤ 1048577 by rw [List.length_append, layOps_len]; simp; omega)
        have HNR := hide (show r.length = n by rw [← HRR.out, allM_len]; exact HN.out)
        clear hF
        go_wp2_with fail
        (with_reducible refine (Pack_same 0 x z HZ.out _).mono ?_)
        rintro e w5 ⟨rfl, rfl⟩
        go_wp2_with (at_builtin; refine wpList_append_own _ rfl _ _ 225 rfl w.heap.size 227 i0 (.agg #[.int .i64 0, .int .i64 0, .int .u64 0, .int .u64 0]) 4 32 Tryz.underlying225 hi hz0 hz1 hz2 rfl (by decide) _ _ _ rfl (HA.out.own.alloc _) ⟨_, 0, none⟩ 1 1 [.int .i64 2, .int .i64 hd, .int .u64 z, .int .u64 0] rfl rfl (row_at _ _ _ (by simp)) (by simp [Value.oneCell']) (by simp only [maxLen]; omega) (by omega) (by simp; omega) ?_; intro h'' w6 hown' hgrow _)
        have HB6 := hide (show Below w.heap.size w w6 from (HA.out.below.alloc hs _).grown hgrow (by simp; omega) (own_ge HA.out.own))
        have hd9 : Dds w6 h'' (layOps nx l ++ ([⟨2, hd, z, 0⟩] : List Dd)) := by
          rw [hkl, List.take_of_length_le (by rw [layOps_len]; omega)] at hown'
          refine Sl.of_own (base := w.heap.size) (e := 227) oc_len ?_
          rw [List.length_append, layOps_len, List.flatMap_append]
          exact hown'
        have HD := hide hd9
        clear hd9
        (with_reducible refine (All_any _ _ m (layOps nx l ++ ([⟨2, hd, z, 0⟩] : List Dd)) _ (HC.out.below HB6.out) HD.out HBG.out (by have := HLR.out; omega)).mono ?_)
        rintro e w7 ⟨v', h', rfl, ho, -, hb7⟩
        rw [HRR.out] at ho
        obtain ⟨A1, c1, rfl, hd1, hd2⟩ := own_form ho
        rw [HNR.out] at hd1
        have HF := hide (show LayNew w r n (.returned (.slice A1 n c1)) w7 from ⟨A1, c1, rfl, ⟨hd1, by unfold maxLen at hd2; omega⟩, by have hz := OwnC.cells ho; rw [HNR.out] at hz; exact hz, bcall HB6.out hb7, fun y hy => Nat.le_trans HB6.out.size ((ho.lt y (by rw [HNR.out]; exact hy)).1)⟩)
        clear hd1 hd2 ho hb7
        rw [HNR.out]
        go_wp2
        go_ret
        exact HF.out
      · have h0 : l = [] := List.length_eq_zero_iff.1 (by omega)
        have hF : packF 0 (l.headD 0) = 0 := by rw [h0]; rfl
        have d0 : decide ((0 : Int) < (l.length : Int)) = false := decide_eq_false (by omega)
        clear h0
        have HRR := hide (show allM m (layOps nx l ++ ([⟨2, hd, 0, 0⟩] : List Dd)) = r by rw [allM_app, lay_all, ← HR.out]; unfold layFCh; rw [hF]; rfl)
        have HLR := hide (show (layOps nx l ++ ([⟨2, hd, 0, 0⟩] : List Dd)).length ≤ 1048577 by rw [List.length_append, layOps_len]; simp; omega)
        have HNR := hide (show r.length = n by rw [← HRR.out, allM_len]; exact HN.out)
        clear hF
        go_wp2_with (at_builtin; refine wpList_append_own _ rfl _ _ 225 rfl w.heap.size 227 i0 (.agg #[.int .i64 0, .int .i64 0, .int .u64 0, .int .u64 0]) 4 32 Tryz.underlying225 hi hz0 hz1 hz2 rfl (by decide) _ _ _ rfl (HA.out.own.alloc _) ⟨_, 0, none⟩ 1 1 [.int .i64 2, .int .i64 hd, .int .u64 0, .int .u64 0] rfl rfl (row_at _ _ _ (by simp)) (by simp [Value.oneCell']) (by simp only [maxLen]; omega) (by omega) (by simp; omega) ?_; intro h'' w6 hown' hgrow _)
        have HB6 := hide (show Below w.heap.size w w6 from (HA.out.below.alloc hs _).grown hgrow (by simp; omega) (own_ge HA.out.own))
        have hd9 : Dds w6 h'' (layOps nx l ++ ([⟨2, hd, 0, 0⟩] : List Dd)) := by
          rw [hkl, List.take_of_length_le (by rw [layOps_len]; omega)] at hown'
          refine Sl.of_own (base := w.heap.size) (e := 227) oc_len ?_
          rw [List.length_append, layOps_len, List.flatMap_append]
          exact hown'
        have HD := hide hd9
        clear hd9
        (with_reducible refine (All_any _ _ m (layOps nx l ++ ([⟨2, hd, 0, 0⟩] : List Dd)) _ (HC.out.below HB6.out) HD.out HBG.out (by have := HLR.out; omega)).mono ?_)
        rintro e w7 ⟨v', h', rfl, ho, -, hb7⟩
        rw [HRR.out] at ho
        obtain ⟨A1, c1, rfl, hd1, hd2⟩ := own_form ho
        rw [HNR.out] at hd1
        have HF := hide (show LayNew w r n (.returned (.slice A1 n c1)) w7 from ⟨A1, c1, rfl, ⟨hd1, by unfold maxLen at hd2; omega⟩, by have hz := OwnC.cells ho; rw [HNR.out] at hz; exact hz, bcall HB6.out hb7, fun y hy => Nat.le_trans HB6.out.size ((ho.lt y (by rw [HNR.out]; exact hy)).1)⟩)
        clear hd1 hd2 ho hb7
        rw [HNR.out]
        go_wp2
        go_ret
        exact HF.out
end Go.Proofs.YtdmbcjckgfjcaaaGreatDoor.ch
/- Layer deque: what cells have; has the owner lowered BOTTOM? -/
namespace Go.Proofs.YtdmbcjckgfjcaaaGreatDoor
open Go.RowKit
theorem infoOp' : (Tryz.prog.info? 227).map (fun i => (i.zero, i.size, i.bytes)) = some (some (.agg #[.int .i64 0, .int .i64 0, .int .u64 0, .int .u64 0]), 4, 32) := by kernel_rfl
def ldD (a : Int) : Dd := ⟨1, a, 0, 0⟩
theorem allV_load : ∀ (l : List Int) (m : List Int), allM m (l.map ldD) = m ∧ allV m (l.map ldD) = l.map (loadF m)
  | [], _ => ⟨rfl, rfl⟩
  | a :: l, m => by
    have e : mF m (ldD a) = m := mF_load m a
    obtain ⟨h1, h2⟩ := allV_load l m
    rw [List.map_cons, allM, allV, e, h1, h2]
    exact ⟨rfl, rfl⟩
def LookEnd (w : World) (r : List Int) (n : Nat) (e : Ending) (w' : World) : Prop := ∃ A c, e = .returned (.slice A n c) ∧ (n ≤ c ∧ c ≤ 9223372036854775807) ∧ Cells w' (.slice A n c) r ∧ Below w.heap.size w w'
structure LookAt (w wr : World) (l : List Int) (k : Nat) (v : Value) : Prop where
  own : wr.ownsRow w.heap.size 227 4 v k (((l.take k).map ldD).flatMap oc)
  below : Below w.heap.size w wr
set_option maxRecDepth 100000 in
set_option maxHeartbeats 4000000 in
theorem look_any (v lv : Value) (m l : List Int) (w : World) (h : Cells w v m) (hl : Ints w lv l) (hbig : m.length * 8 ≤ 140737488351232) (hbl : l.length ≤ 64) (r : List Int) (hr : l.map (loadF m) = r) (n : Nat) (hn : r.length = n) :
    Calls Tryz.prog 92 #[v, lv] w (LookEnd w r n) := by
  have HC := hide h
  have HL := hide hl
  have HR := hide hr
  have HN := hide hn
  have hl' := hl
  obtain ⟨A, c, rfl, h1, h2, -⟩ := hl'
  unfold maxLen at h2
  obtain ⟨i0, hi, hz0, hz1, hz2⟩ := info_parts infoOp'
  clear h hl hr hn
  go_enter Tryz.func92, Tryz.ntmps92
  go_wp2
  go_loopw [5, 13] (fun vs i wr => ∃ k : Nat, k ≤ l.length ∧ i = .int .i64 k ∧ Hid (LookAt w wr l k vs)) (fun _ i _ => l.length - (Go.RowKit.intOf i).toNat)
  case atStart => exact ⟨0, Nat.zero_le _, rfl, hide ⟨World.ownsRow_nil _ _ _ _, Below.refl _ _⟩⟩
  case round =>
    obtain ⟨k, hk, rfl, HA⟩ := hrel
    by_cases hlt : k < l.length
    · obtain ⟨g, off, rfl, hg, d0⟩ := ints_at (HL.out.below HA.out.below) hlt
      obtain ⟨x, hx⟩ : ∃ x, l[k] = x := ⟨_, rfl⟩
      rw [hx] at d0
      have HX := hide (show (l.take (k + 1)).map ldD = (l.take k).map ldD ++ [ldD x] by rw [List.take_succ_eq_append_getElem hlt, hx, List.map_append]; rfl)
      have hs := HA.out.below.size
      clear hx
      go_wp2_with (at_builtin; refine wpList_append_own _ rfl _ _ 225 rfl w.heap.size 227 i0 (.agg #[.int .i64 0, .int .i64 0, .int .u64 0, .int .u64 0]) 4 32 Tryz.underlying225 hi hz0 hz1 hz2 rfl (by decide) _ _ _ rfl (HA.out.own.alloc _) ⟨_, 0, none⟩ 1 1 [.int .i64 1, .int .i64 x, .int .u64 0, .int .u64 0] rfl rfl (row_at _ _ _ (by simp)) (by simp [Value.oneCell']) (by simp only [maxLen]; omega) (by omega) (by simp; omega) ?_; intro h'' w6 hown' hgrow _)
      go_roundw
      case rel =>
        refine ⟨k + 1, by omega, by go_num, hide ⟨?_, ?_⟩⟩
        · rw [HX.out, List.flatMap_append]; exact hown'
        · exact (HA.out.below.alloc hs _).grown hgrow (by simp; omega) (own_ge HA.out.own)
      case measure => simp [Go.RowKit.intOf]; omega
    · have hkl : k = l.length := by omega
      have HO := hide (show Dds wr _ (l.map ldD) by
        have := HA.out.own
        rw [hkl, List.take_of_length_le (Nat.le_refl _)] at this
        exact Sl.of_own oc_len (by rw [List.length_map]; exact this))
      go_wp2_with fail
      (with_reducible refine (All_c _ _ m (l.map ldD) _ (HC.out.below HA.out.below) HO.out hbig (by rw [List.length_map]; omega) m r _ (allV_load l m).1 ((allV_load l m).2.trans HR.out) rfl m.length n rfl HN.out).mono ?_)
      rintro e w2 ⟨A1, c1, H1, d1, rfl, -, ⟨hd1, hd2⟩, -, hH, hb2⟩
      have HF := hide (show LookEnd w r n (.returned (.slice H1 n d1)) w2 from ⟨H1, d1, rfl, ⟨hd1, by omega⟩, hH, bcall HA.out.below hb2⟩)
      clear hd1 hd2 hH hb2
      go_wp2
      go_ret
      exact HF.out
set_option maxRecDepth 100000 in
set_option maxHeartbeats 2000000 in
theorem lowered_any (k p s c b t x u : Int) (w : World) (r : Bool) (hr : extF ⟨k, p, s, c, b, t, x, u⟩ = r) : Calls Tryz.prog 93 #[mvv k p s c b t x u] w fun e w' => e = .returned (.bool r) ∧ Below w.heap.size w w' := by
  obtain ⟨b1, hb1⟩ : ∃ b1, w64 (b - 1) = b1 := ⟨_, rfl⟩
  have hw : IntKind.u64.wrap (b - 1) = b1 := by rw [wrap_w]; exact hb1
  unfold extF at hr
  simp only [hb1] at hr
  clear hb1
  by_cases hk : k = 2
  · subst hk
    by_cases hu : u = 0
    · subst hu
      by_cases h2 : p = 2
      · subst h2
        have e : r = true := by rw [← hr]; simp
        clear hr
        subst e
        go_enter Tryz.func93, Tryz.ntmps93
        go_wp2
        go_ret
        exact ⟨rfl, balMe _ _⟩
      by_cases h4 : p = 4
      · subst h4
        have e : r = true := by rw [← hr]; simp
        clear hr
        subst e
        go_enter Tryz.func93, Tryz.ntmps93
        go_wp2
        go_ret
        exact ⟨rfl, balMe _ _⟩
      by_cases h5 : p = 5
      · subst h5
        have e : r = true := by rw [← hr]; simp
        clear hr
        subst e
        go_enter Tryz.func93, Tryz.ntmps93
        go_wp2
        go_ret
        exact ⟨rfl, balMe _ _⟩
      have q2 : (p == 2) = false := by rw [beq_eq_false_iff_ne]; exact h2
      have q4 : (p == 4) = false := by rw [beq_eq_false_iff_ne]; exact h4
      have q5 : (p == 5) = false := by rw [beq_eq_false_iff_ne]; exact h5
      by_cases h3 : p = 3
      · subst h3
        by_cases ht : t = b1
        · subst ht
          have e : r = true := by rw [← hr]; simp
          have q0 : (t == t) = true := by simp
          clear hr
          subst e
          clear h2 h4 h5
          go_enter Tryz.func93, Tryz.ntmps93
          go_wp2
          go_ret
          exact ⟨rfl, balMe _ _⟩
        · have q0 : (t == b1) = false := by rw [beq_eq_false_iff_ne]; exact ht
          have e : r = false := by rw [← hr]; simp [ht]
          clear hr
          subst e
          clear ht h2 h4 h5
          go_enter Tryz.func93, Tryz.ntmps93
          go_wp2
          go_ret
          exact ⟨rfl, balMe _ _⟩
      · have q3 : (p == 3) = false := by rw [beq_eq_false_iff_ne]; exact h3
        have e : r = false := by rw [← hr]; simp [h2, h3, h4, h5]
        clear hr
        subst e
        clear h2 h3 h4 h5
        go_enter Tryz.func93, Tryz.ntmps93
        go_wp2
        go_ret
        exact ⟨rfl, balMe _ _⟩
    · have q0 : (u != 0) = true := by rw [bne_iff_ne]; exact hu
      have e : r = false := by rw [← hr]; simp [hu]
      clear hr
      subst e
      clear hu
      go_enter Tryz.func93, Tryz.ntmps93
      go_wp2
      go_ret
      exact ⟨rfl, balMe _ _⟩
  · have q0 : (k != 2) = true := by rw [bne_iff_ne]; exact hk
    have e : r = false := by rw [← hr]; simp [hk]
    clear hr
    subst e
    clear hk
    go_enter Tryz.func93, Tryz.ntmps93
    go_wp2
    go_ret
    exact ⟨rfl, balMe _ _⟩
end Go.Proofs.YtdmbcjckgfjcaaaGreatDoor
/- Layer deque: what is in the deque. -/
namespace Go.Proofs.YtdmbcjckgfjcaaaGreatDoor
open Go.RowKit
theorem infoIDq : (Tryz.prog.info? 3).map (fun i => (i.zero, i.size, i.bytes)) = some (some (.int .i64 0), 1, 8) := by kernel_rfl
def ItemsEnd (w : World) (r : List Int) (n : Nat) (e : Ending) (w' : World) : Prop := ∃ A c, e = .returned (.slice A n c) ∧ (n ≤ c ∧ c ≤ 9223372036854775807) ∧ Ints w' (.slice A n c) r ∧ Below w.heap.size w w'
structure ItAt (w wr : World) (l : List Int) (k : Nat) (v : Value) : Prop where
  own : wr.ownsRow w.heap.size 3 1 v k (l.flatMap ic)
  below : Below w.heap.size w wr
theorem items_fin {w wr : World} {l r : List Int} {k n : Nat} {v : Value} (h : ItAt w wr l k v) (hk : l.length = k) (hr : r = l) (hn : r.length = n) : ItemsEnd w r n (.returned v) wr := by
  subst hr
  have hkn : k = n := by omega
  subst hkn
  obtain ⟨A, c, rfl, h1, h2⟩ := own_form h.own
  have := h.own
  rw [← hk] at this
  refine ⟨A, c, rfl, ⟨h1, by unfold maxLen at h2; omega⟩, ?_, h.below⟩
  rw [← hk]
  exact Sl.of_own ic_len this
theorem lit_two {w : World} (x y : Int) : ∃ w1, w.alloc (.cells #[.int .i64 x, .int .i64 y] 3) = w1 ∧ Below w.heap.size w w1 ∧ Ints w1 (.slice (some ⟨w.heap.size, 0, none⟩) 2 2) [x, y] :=
  ⟨_, rfl, balMe _ _, Sl.of_own ic_len (own_new w w.heap.size ([x, y].flatMap ic) 3 1 2 (Nat.le_refl _) rfl (by decide))⟩
set_option maxRecDepth 100000 in
set_option maxHeartbeats 8000000 in
theorem items_bigY (k p s c b t x u : Int) (v : Value) (m : List Int) (base n : Int) (w : World) (h : Cells w v m) (hm : AllU m) (hbig : m.length * 8 ≤ 140737488351232) (hbase : I6 base) (hn : I6 n) (q fr to T d cc : Int) (hq : s64 (base + 1) = q) (hf : loadF m base = fr) (hto : loadF m q = to) (hext : extF ⟨k, p, s, c, b, t, x, u⟩ = true) (hT : w64 (to + 1) = T) (hd : w64 (T - fr) = d) (hcc : max n 1 = cc) (hD : min cc 64 < d) (r : List Int) (hr : itemsF m base n ⟨k, p, s, c, b, t, x, u⟩ = r) (rn : Nat) (hrn : r.length = rn) :
    Calls Tryz.prog 27 #[v, .int .i64 base, .int .i64 n, mvv k p s c b t x u] w (ItemsEnd w r rn) := by
  have e1 : IntKind.i64.wrap (base + 0) = base := by rw [wrap_sDq, Int.add_zero]; exact s64_small hbase.1 hbase.2
  have e2 : IntKind.i64.wrap base = base := by rw [wrap_sDq]; exact s64_small hbase.1 hbase.2
  have e3 : wrap64 base = base := by rw [wrap64_s]; exact s64_small hbase.1 hbase.2
  have e4 : IntKind.i64.wrap (base + 1) = q := by rw [wrap_sDq]; exact hq
  have e5 : wrap64 (base + 1) = q := by rw [wrap64_s]; exact hq
  have e6 : IntKind.u64.wrap (to + 1) = T := by rw [wrap_w]; exact hT
  have e7 : IntKind.u64.wrap (T - fr) = d := by rw [wrap_w]; exact hd
  have hUf : U fr := by rw [← hf]; exact load_U hm _
  have hUt : U to := by rw [← hto]; exact load_U hm _
  have HLK := hide (show [base, q].map (loadF m) = [fr, to] by simp [hf, hto])
  have hUT : U T := by rw [← hT]; exact w64_U' _
  have hEnd : endF m base ⟨k, p, s, c, b, t, x, u⟩ = T := (end_yes hq hto hext).trans hT
  have HR := hide (show r = [] by rw [← hr]; exact items_big hf hEnd hd (by rw [hcc]; exact hD))
  have h1 := max_cap hn
  rw [hcc] at h1
  have hd0 : 0 ≤ d := by rw [← hd]; exact (w64_U' _).1
  have hd1 : d ≤ 18446744073709551615 := by rw [← hd]; exact (w64_U' _).2
  have HRN := hide hrn
  have HNN := hide hn
  have HCC := hide hcc
  have HX := hide hext
  obtain ⟨w1, f1⟩ : ∃ w1, w.alloc (.cells #[.int .i64 k, .int .i64 p, .int .i64 s, .int .i64 c, .int .u64 b, .int .u64 t, .int .i64 x, .int .i64 u] 80) = w1 := ⟨_, rfl⟩
  have hb1 : Below w.heap.size w w1 := by rw [← f1]; exact balMe _ _
  have M1 : Mb w1 w.heap.size ⟨k, p, s, c, b, t, x, u⟩ := by rw [← f1]; exact mb_new w ⟨k, p, s, c, b, t, x, u⟩
  have hs1 : w1.heap.size = w.heap.size + 1 := by rw [← f1]; simp
  obtain ⟨w2, f2, hb2, hI2⟩ := lit_two (w := w1) base q
  have HE1 := hide f1
  have HE2 := hide f2
  have HI2 := hide hI2
  have HS1 := hide hs1
  have HC2 := hide ((h.below hb1).below hb2)
  have HC0 := hide h
  have HM2 := hide (M1.below hb2)
  have HB2 := hide (bcall hb1 hb2)
  clear hq hf hto hext hd hcc hr hrn hn hbase hUf hUt f1 f2 hb1 hb2 M1 hI2 h hm hEnd hUT hs1 hT
  go_enter Tryz.func27, Tryz.ntmps27
  go_wp2_with fail
  rw [HE1.out, ← HS1.out, HE2.out]
  (with_reducible refine (look_any _ _ m [base, q] _ HC2.out HI2.out hbig (by simp) [fr, to] HLK.out 2 rfl).mono ?_)
  rintro e w3 ⟨A3, c3, rfl, ⟨hc31, hc32⟩, hC3, hb3⟩
  obtain ⟨g3, o3, rfl, y0, y1⟩ := cells_two hC3
  have HB3 := hide (bcall HB2.out hb3)
  have HM3 := hide (HM2.out.below hb3)
  have HC3 := hide (HC2.out.below hb3)
  clear hC3 hb3
  go_wp2
  go_quiet (fail)
  obtain ⟨a0, a1, a2, a3, a4, a5, a6, a7⟩ := HM3.out.cells
  go_wp2_with fail
  (with_reducible refine (lowered_any k p s c b t x u _ _ HX.out).mono ?_)
  rintro e w4 ⟨rfl, hb4⟩
  have hb34 : Below w3.heap.size w3 w4 := ⟨hb4.os, hb4.tape, hb4.output, hb4.size, hb4.block⟩
  have HB4 := hide (bcall HB3.out hb34)
  have HC4 := hide (HC3.out.below hb34)
  clear hb4 hb34 a0 a1 a2 a3 a4 a5 a6 a7 y0 y1
  go_wp2_with fail
  (with_reducible refine (size_any n cc HNN.out HCC.out _).mono ?_)
  rintro e w5 ⟨rfl, rfl⟩
  by_cases h6 : cc ≤ 64
  all_goals
    go_wp2
    go_ret
    rw [HR.out] at HRN ⊢
    have := HRN.out
    simp at this
    subst this
    exact ⟨none, 0, rfl, ⟨Nat.le_refl _, by omega⟩, Sl.nil_, HB4.out⟩
set_option maxRecDepth 100000 in
set_option maxHeartbeats 8000000 in
theorem items_bigN (k p s c b t x u : Int) (v : Value) (m : List Int) (base n : Int) (w : World) (h : Cells w v m) (hm : AllU m) (hbig : m.length * 8 ≤ 140737488351232) (hbase : I6 base) (hn : I6 n) (q fr to T d cc : Int) (hq : s64 (base + 1) = q) (hf : loadF m base = fr) (hto : loadF m q = to) (hext : extF ⟨k, p, s, c, b, t, x, u⟩ = false) (hT : to = T) (hd : w64 (T - fr) = d) (hcc : max n 1 = cc) (hD : min cc 64 < d) (r : List Int) (hr : itemsF m base n ⟨k, p, s, c, b, t, x, u⟩ = r) (rn : Nat) (hrn : r.length = rn) :
    Calls Tryz.prog 27 #[v, .int .i64 base, .int .i64 n, mvv k p s c b t x u] w (ItemsEnd w r rn) := by
  subst hT
  have e1 : IntKind.i64.wrap (base + 0) = base := by rw [wrap_sDq, Int.add_zero]; exact s64_small hbase.1 hbase.2
  have e2 : IntKind.i64.wrap base = base := by rw [wrap_sDq]; exact s64_small hbase.1 hbase.2
  have e3 : wrap64 base = base := by rw [wrap64_s]; exact s64_small hbase.1 hbase.2
  have e4 : IntKind.i64.wrap (base + 1) = q := by rw [wrap_sDq]; exact hq
  have e5 : wrap64 (base + 1) = q := by rw [wrap64_s]; exact hq
  have e7 : IntKind.u64.wrap (to - fr) = d := by rw [wrap_w]; exact hd
  have hUf : U fr := by rw [← hf]; exact load_U hm _
  have hUt : U to := by rw [← hto]; exact load_U hm _
  have HLK := hide (show [base, q].map (loadF m) = [fr, to] by simp [hf, hto])
  have hUT : U to := hUt
  have hEnd : endF m base ⟨k, p, s, c, b, t, x, u⟩ = to := end_no hq hto hUt hext
  have HR := hide (show r = [] by rw [← hr]; exact items_big hf hEnd hd (by rw [hcc]; exact hD))
  have h1 := max_cap hn
  rw [hcc] at h1
  have hd0 : 0 ≤ d := by rw [← hd]; exact (w64_U' _).1
  have hd1 : d ≤ 18446744073709551615 := by rw [← hd]; exact (w64_U' _).2
  have HRN := hide hrn
  have HNN := hide hn
  have HCC := hide hcc
  have HX := hide hext
  obtain ⟨w1, f1⟩ : ∃ w1, w.alloc (.cells #[.int .i64 k, .int .i64 p, .int .i64 s, .int .i64 c, .int .u64 b, .int .u64 t, .int .i64 x, .int .i64 u] 80) = w1 := ⟨_, rfl⟩
  have hb1 : Below w.heap.size w w1 := by rw [← f1]; exact balMe _ _
  have M1 : Mb w1 w.heap.size ⟨k, p, s, c, b, t, x, u⟩ := by rw [← f1]; exact mb_new w ⟨k, p, s, c, b, t, x, u⟩
  have hs1 : w1.heap.size = w.heap.size + 1 := by rw [← f1]; simp
  obtain ⟨w2, f2, hb2, hI2⟩ := lit_two (w := w1) base q
  have HE1 := hide f1
  have HE2 := hide f2
  have HI2 := hide hI2
  have HS1 := hide hs1
  have HC2 := hide ((h.below hb1).below hb2)
  have HC0 := hide h
  have HM2 := hide (M1.below hb2)
  have HB2 := hide (bcall hb1 hb2)
  clear hq hf hto hext hd hcc hr hrn hn hbase hUf hUt f1 f2 hb1 hb2 M1 hI2 h hm hEnd hUT hs1
  go_enter Tryz.func27, Tryz.ntmps27
  go_wp2_with fail
  rw [HE1.out, ← HS1.out, HE2.out]
  (with_reducible refine (look_any _ _ m [base, q] _ HC2.out HI2.out hbig (by simp) [fr, to] HLK.out 2 rfl).mono ?_)
  rintro e w3 ⟨A3, c3, rfl, ⟨hc31, hc32⟩, hC3, hb3⟩
  obtain ⟨g3, o3, rfl, y0, y1⟩ := cells_two hC3
  have HB3 := hide (bcall HB2.out hb3)
  have HM3 := hide (HM2.out.below hb3)
  have HC3 := hide (HC2.out.below hb3)
  clear hC3 hb3
  go_wp2
  go_quiet (fail)
  obtain ⟨a0, a1, a2, a3, a4, a5, a6, a7⟩ := HM3.out.cells
  go_wp2_with fail
  (with_reducible refine (lowered_any k p s c b t x u _ _ HX.out).mono ?_)
  rintro e w4 ⟨rfl, hb4⟩
  have hb34 : Below w3.heap.size w3 w4 := ⟨hb4.os, hb4.tape, hb4.output, hb4.size, hb4.block⟩
  have HB4 := hide (bcall HB3.out hb34)
  have HC4 := hide (HC3.out.below hb34)
  clear hb4 hb34 a0 a1 a2 a3 a4 a5 a6 a7 y0 y1
  go_wp2_with fail
  (with_reducible refine (size_any n cc HNN.out HCC.out _).mono ?_)
  rintro e w5 ⟨rfl, rfl⟩
  by_cases h6 : cc ≤ 64
  all_goals
    go_wp2
    go_ret
    rw [HR.out] at HRN ⊢
    have := HRN.out
    simp at this
    subst this
    exact ⟨none, 0, rfl, ⟨Nat.le_refl _, by omega⟩, Sl.nil_, HB4.out⟩
end Go.Proofs.YtdmbcjckgfjcaaaGreatDoor
/- Layer deque: what is in the deque, place by place. -/
namespace Go.Proofs.YtdmbcjckgfjcaaaGreatDoor
open Go.RowKit
set_option maxRecDepth 100000 in
set_option maxHeartbeats 8000000 in
theorem items_okY (k p s c b t x u : Int) (v : Value) (m : List Int) (base n : Int) (w : World) (h : Cells w v m) (hm : AllU m) (hbig : m.length * 8 ≤ 140737488351232) (hbase : I6 base) (hn : I6 n) (q fr to T d cc : Int) (hq : s64 (base + 1) = q) (hf : loadF m base = fr) (hto : loadF m q = to) (hext : extF ⟨k, p, s, c, b, t, x, u⟩ = true) (hT : w64 (to + 1) = T) (hd : w64 (T - fr) = d) (hcc : max n 1 = cc) (D : Nat) (hD : d = D) (hD2 : d ≤ min cc 64) (r : List Int) (hr : itemsF m base n ⟨k, p, s, c, b, t, x, u⟩ = r) (rn : Nat) (hrn : r.length = rn) :
    Calls Tryz.prog 27 #[v, .int .i64 base, .int .i64 n, mvv k p s c b t x u] w (ItemsEnd w r rn) := by
  have e1 : IntKind.i64.wrap (base + 0) = base := by rw [wrap_sDq, Int.add_zero]; exact s64_small hbase.1 hbase.2
  have e2 : IntKind.i64.wrap base = base := by rw [wrap_sDq]; exact s64_small hbase.1 hbase.2
  have e3 : wrap64 base = base := by rw [wrap64_s]; exact s64_small hbase.1 hbase.2
  have e4 : IntKind.i64.wrap (base + 1) = q := by rw [wrap_sDq]; exact hq
  have e5 : wrap64 (base + 1) = q := by rw [wrap64_s]; exact hq
  have e6 : IntKind.u64.wrap (to + 1) = T := by rw [wrap_w]; exact hT
  have e7 : IntKind.u64.wrap (T - fr) = d := by rw [wrap_w]; exact hd
  have hUf : U fr := by rw [← hf]; exact load_U hm _
  have hUt : U to := by rw [← hto]; exact load_U hm _
  have HLK := hide (show [base, q].map (loadF m) = [fr, to] by simp [hf, hto])
  have hUT : U T := by rw [← hT]; exact w64_U' _
  have hEnd : endF m base ⟨k, p, s, c, b, t, x, u⟩ = T := (end_yes hq hto hext).trans hT
  have HR := hide (show r = ((plLDq fr base n D).map (loadF m)).map s64 by rw [← hr]; exact items_fit hf hEnd hd (by rw [hcc]; exact hD2) D hD)
  have HGE := hide (go_end hUT hd D hD)
  have h64 : D ≤ 64 := by omega
  have HFR := hide (show w64 (fr + ((0 : Nat) : Int)) = fr by have h := load_U hm base; rw [hf] at h; unfold U at h; rw [show fr + ((0 : Nat) : Int) = fr by simp]; exact w64_small h.1 h.2)
  have HGN := hide (fun (j : Nat) (hj : j < D) => go_ne hUT hd hD h64 hj)
  have HGL := hide (fun (j : Nat) (hj : j ≤ D) => go_left hUT hd hD hj h64)
  have h1 := max_cap hn
  rw [hcc] at h1
  have hd0 : 0 ≤ d := by rw [← hd]; exact (w64_U' _).1
  have hd1 : d ≤ 18446744073709551615 := by rw [← hd]; exact (w64_U' _).2
  have HRN := hide hrn
  have HNN := hide hn
  have HCC := hide hcc
  have HX := hide hext
  obtain ⟨w1, f1⟩ : ∃ w1, w.alloc (.cells #[.int .i64 k, .int .i64 p, .int .i64 s, .int .i64 c, .int .u64 b, .int .u64 t, .int .i64 x, .int .i64 u] 80) = w1 := ⟨_, rfl⟩
  have hb1 : Below w.heap.size w w1 := by rw [← f1]; exact balMe _ _
  have M1 : Mb w1 w.heap.size ⟨k, p, s, c, b, t, x, u⟩ := by rw [← f1]; exact mb_new w ⟨k, p, s, c, b, t, x, u⟩
  have hs1 : w1.heap.size = w.heap.size + 1 := by rw [← f1]; simp
  obtain ⟨w2, f2, hb2, hI2⟩ := lit_two (w := w1) base q
  have HE1 := hide f1
  have HE2 := hide f2
  have HI2 := hide hI2
  have HS1 := hide hs1
  have HC2 := hide ((h.below hb1).below hb2)
  have HC0 := hide h
  have HM2 := hide (M1.below hb2)
  have HB2 := hide (bcall hb1 hb2)
  clear hq hf hto hext hd hcc hr hrn hn hbase hUf hUt f1 f2 hb1 hb2 M1 hI2 h hm hEnd hUT hs1 hT
  go_enter Tryz.func27, Tryz.ntmps27
  go_wp2_with fail
  rw [HE1.out, ← HS1.out, HE2.out]
  (with_reducible refine (look_any _ _ m [base, q] _ HC2.out HI2.out hbig (by simp) [fr, to] HLK.out 2 rfl).mono ?_)
  rintro e w3 ⟨A3, c3, rfl, ⟨hc31, hc32⟩, hC3, hb3⟩
  obtain ⟨g3, o3, rfl, y0, y1⟩ := cells_two hC3
  have HB3 := hide (bcall HB2.out hb3)
  have HM3 := hide (HM2.out.below hb3)
  have HC3 := hide (HC2.out.below hb3)
  clear hC3 hb3
  go_wp2
  go_quiet (fail)
  obtain ⟨a0, a1, a2, a3, a4, a5, a6, a7⟩ := HM3.out.cells
  go_wp2_with fail
  (with_reducible refine (lowered_any k p s c b t x u _ _ HX.out).mono ?_)
  rintro e w4 ⟨rfl, hb4⟩
  have hb34 : Below w3.heap.size w3 w4 := ⟨hb4.os, hb4.tape, hb4.output, hb4.size, hb4.block⟩
  have HB4 := hide (bcall HB3.out hb34)
  have HC4 := hide (HC3.out.below hb34)
  clear hb4 hb34 a0 a1 a2 a3 a4 a5 a6 a7 y0 y1
  go_wp2_with fail
  (with_reducible refine (size_any n cc HNN.out HCC.out _).mono ?_)
  rintro e w5 ⟨rfl, rfl⟩
  obtain ⟨i0, hi, hz0, hz1, hz2⟩ := info_parts infoIDq
  by_cases h6 : cc ≤ 64
  · go_wp2
    go_loopw [12, 13] (fun cv iv wr => ∃ j : Nat, j ≤ D ∧ iv = .int .u64 (w64 (fr + (j : Nat))) ∧ Hid (ItAt w wr (plLDq fr base n j) j cv)) (fun _ iv _ => (w64 (T - Go.RowKit.intOf iv)).toNat)
    case atStart => exact ⟨0, Nat.zero_le _, by rw [HFR.out], hide ⟨World.ownsRow_nil _ _ _ _, HB4.out⟩⟩
    case round =>
      obtain ⟨j, hj, rfl, HA⟩ := hrel
      obtain ⟨iv, hiv⟩ : ∃ iv, w64 (fr + (j : Nat)) = iv := ⟨_, rfl⟩
      have HIV := hide hiv
      rw [hiv]
      have hsz := HA.out.below.size
      by_cases hlt : j < D
      · have q0 : (iv != T) = true := by rw [bne_iff_ne, ← hiv]; exact HGN.out j hlt
        obtain ⟨pq, hpq⟩ : ∃ pq, plF fr base n j = pq := ⟨_, rfl⟩
        have HPL := hide (show plLDq fr base n (j + 1) = plLDq fr base n j ++ [pq] by rw [← hpq]; exact plL_succ _ _ _ _)
        have HPQ := hide (show s64 (base + 2 + iv % max n 1) = pq by rw [← hiv]; exact hpq)
        have HU := hide (show U iv by rw [← hiv]; exact w64_U' _)
        obtain ⟨iv2, hiv2⟩ : ∃ iv2, w64 (iv + 1) = iv2 := ⟨_, rfl⟩
        have e8 : IntKind.u64.wrap (iv + 1) = iv2 := by rw [wrap_w]; exact hiv2
        have HNX := hide (show w64 (fr + ((j + 1 : Nat) : Int)) = iv2 by rw [← hiv2, ← hiv]; exact (go_next fr j).symm)
        clear hpq hiv hiv2
        go_wp2_with fail
        (with_reducible refine (place_any base n iv pq HNN.out HU.out HPQ.out _).mono ?_)
        rintro e w6 ⟨rfl, rfl⟩
        go_wp2_with (at_builtin; refine wpList_append_own _ rfl _ _ 47 rfl w.heap.size 3 i0 (.int .i64 0) 1 8 Tryz.underlying47 hi hz0 hz1 hz2 rfl (by decide) _ _ _ rfl (HA.out.own.alloc _) ⟨_, 0, none⟩ 1 1 [.int .i64 pq] rfl rfl (row_at _ _ _ (by simp)) (by simp [Value.oneCell']) (by simp only [maxLen]; omega) (by omega) (by simp; omega) ?_; intro h'' w7 hown' hgrow _)
        go_roundw
        case rel =>
          refine ⟨j + 1, by omega, by rw [HNX.out], hide ⟨?_, ?_⟩⟩
          · rw [HPL.out, List.flatMap_append]; exact hown'
          · exact (HA.out.below.alloc hsz _).grown hgrow (by simp; omega) (own_ge HA.out.own)
        case measure =>
          show (w64 (T - iv2)).toNat < (w64 (T - iv)).toNat
          have ha := HGL.out j (by omega)
          have hb := HGL.out (j + 1) (by omega)
          rw [HIV.out] at ha
          rw [HNX.out] at hb
          omega
      · have hjD : j = D := by omega
        obtain rfl : iv = T := by rw [← hiv, hjD]; exact HGE.out
        have q0 : (iv != iv) = false := by simp
        have HO := hide (show Ints wr _ (plLDq fr base n D) by
          have := HA.out.own
          rw [hjD, ← plL_len fr base n D] at this
          rw [plL_len] at this
          exact Sl.of_own ic_len (by rw [plL_len]; exact this))
        obtain ⟨H, hH⟩ : ∃ H, (plLDq fr base n D).map (loadF m) = H := ⟨_, rfl⟩
        have HHH := hide hH
        have hHl : H.length = D := by rw [← hH, List.length_map, plL_len]
        have HHL := hide hHl
        clear hiv hH hHl hjD
        go_wp2_with fail
        (with_reducible refine (look_any _ _ m (plLDq fr base n D) _ (HC0.out.below HA.out.below) HO.out hbig (by rw [plL_len]; exact h64) H HHH.out D HHL.out).mono ?_)
        rintro e w8 ⟨A8, c8, rfl, ⟨hc81, hc82⟩, hC8, hb8⟩
        have HB8 := hide (bcall HA.out.below hb8)
        have HC8 := hide hC8
        clear hC8 hb8 hsz
        go_wp2
        go_loopw [14, 58] (fun tv i wr2 => ∃ j2 : Nat, j2 ≤ D ∧ i = .int .i64 j2 ∧ Hid (ItAt w8 wr2 ((H.take j2).map s64) j2 tv)) (fun _ i _ => D - (Go.RowKit.intOf i).toNat)
        case atStart => exact ⟨0, Nat.zero_le _, rfl, hide ⟨World.ownsRow_nil _ _ _ _, Below.refl _ _⟩⟩
        case round =>
          obtain ⟨j2, hj2, rfl, HA2⟩ := hrel
          have hsz2 := HA2.out.below.size
          by_cases hlt : j2 < D
          · have hlH : j2 < H.length := by rw [HHL.out]; exact hlt
            obtain ⟨g, off, rfl, hg, d0⟩ := cells_at (HC8.out.below HA2.out.below) hlH
            obtain ⟨y, hy⟩ : ∃ y, H[j2] = y := ⟨_, rfl⟩
            rw [hy] at d0
            obtain ⟨y1, hy1⟩ : ∃ y1, s64 y = y1 := ⟨_, rfl⟩
            have e9 : IntKind.i64.wrap y = y1 := by rw [wrap_sDq]; exact hy1
            have e10 : wrap64 y = y1 := by rw [wrap64_s]; exact hy1
            have HTK := hide (show (H.take (j2 + 1)).map s64 = (H.take j2).map s64 ++ [y1] by rw [List.take_succ_eq_append_getElem hlH, hy, List.map_append, ← hy1]; rfl)
            clear hy hy1 hlH
            go_wp2_with (at_builtin; refine wpList_append_own _ rfl _ _ 47 rfl w8.heap.size 3 i0 (.int .i64 0) 1 8 Tryz.underlying47 hi hz0 hz1 hz2 rfl (by decide) _ _ _ rfl (HA2.out.own.alloc _) ⟨_, 0, none⟩ 1 1 [.int .i64 y1] rfl rfl (row_at _ _ _ (by simp)) (by simp [Value.oneCell']) (by simp only [maxLen]; omega) (by omega) (by simp; omega) ?_; intro h'' w7 hown' hgrow _)
            go_roundw
            case rel =>
              refine ⟨j2 + 1, by omega, by go_num, hide ⟨?_, ?_⟩⟩
              · rw [HTK.out, List.flatMap_append]; exact hown'
              · exact (HA2.out.below.alloc hsz2 _).grown hgrow (by simp; omega) (own_ge HA2.out.own)
            case measure => simp [Go.RowKit.intOf]; omega
          · have hjD : j2 = D := by omega
            go_wp2
            go_ret
            have e9 : H.take j2 = H := List.take_of_length_le (by rw [HHL.out]; omega)
            have := items_fin (r := r) (n := rn) HA2.out (by rw [e9, List.length_map, HHL.out, hjD]) (by rw [HR.out, HHH.out, e9]) HRN.out
            obtain ⟨A9, c9, h91, h92, h93, h94⟩ := this
            exact ⟨A9, c9, h91, h92, h93, bcall HB8.out h94⟩
  · go_wp2
    go_loopw [12, 13] (fun cv iv wr => ∃ j : Nat, j ≤ D ∧ iv = .int .u64 (w64 (fr + (j : Nat))) ∧ Hid (ItAt w wr (plLDq fr base n j) j cv)) (fun _ iv _ => (w64 (T - Go.RowKit.intOf iv)).toNat)
    case atStart => exact ⟨0, Nat.zero_le _, by rw [HFR.out], hide ⟨World.ownsRow_nil _ _ _ _, HB4.out⟩⟩
    case round =>
      obtain ⟨j, hj, rfl, HA⟩ := hrel
      obtain ⟨iv, hiv⟩ : ∃ iv, w64 (fr + (j : Nat)) = iv := ⟨_, rfl⟩
      have HIV := hide hiv
      rw [hiv]
      have hsz := HA.out.below.size
      by_cases hlt : j < D
      · have q0 : (iv != T) = true := by rw [bne_iff_ne, ← hiv]; exact HGN.out j hlt
        obtain ⟨pq, hpq⟩ : ∃ pq, plF fr base n j = pq := ⟨_, rfl⟩
        have HPL := hide (show plLDq fr base n (j + 1) = plLDq fr base n j ++ [pq] by rw [← hpq]; exact plL_succ _ _ _ _)
        have HPQ := hide (show s64 (base + 2 + iv % max n 1) = pq by rw [← hiv]; exact hpq)
        have HU := hide (show U iv by rw [← hiv]; exact w64_U' _)
        obtain ⟨iv2, hiv2⟩ : ∃ iv2, w64 (iv + 1) = iv2 := ⟨_, rfl⟩
        have e8 : IntKind.u64.wrap (iv + 1) = iv2 := by rw [wrap_w]; exact hiv2
        have HNX := hide (show w64 (fr + ((j + 1 : Nat) : Int)) = iv2 by rw [← hiv2, ← hiv]; exact (go_next fr j).symm)
        clear hpq hiv hiv2
        go_wp2_with fail
        (with_reducible refine (place_any base n iv pq HNN.out HU.out HPQ.out _).mono ?_)
        rintro e w6 ⟨rfl, rfl⟩
        go_wp2_with (at_builtin; refine wpList_append_own _ rfl _ _ 47 rfl w.heap.size 3 i0 (.int .i64 0) 1 8 Tryz.underlying47 hi hz0 hz1 hz2 rfl (by decide) _ _ _ rfl (HA.out.own.alloc _) ⟨_, 0, none⟩ 1 1 [.int .i64 pq] rfl rfl (row_at _ _ _ (by simp)) (by simp [Value.oneCell']) (by simp only [maxLen]; omega) (by omega) (by simp; omega) ?_; intro h'' w7 hown' hgrow _)
        go_roundw
        case rel =>
          refine ⟨j + 1, by omega, by rw [HNX.out], hide ⟨?_, ?_⟩⟩
          · rw [HPL.out, List.flatMap_append]; exact hown'
          · exact (HA.out.below.alloc hsz _).grown hgrow (by simp; omega) (own_ge HA.out.own)
        case measure =>
          show (w64 (T - iv2)).toNat < (w64 (T - iv)).toNat
          have ha := HGL.out j (by omega)
          have hb := HGL.out (j + 1) (by omega)
          rw [HIV.out] at ha
          rw [HNX.out] at hb
          omega
      · have hjD : j = D := by omega
        obtain rfl : iv = T := by rw [← hiv, hjD]; exact HGE.out
        have q0 : (iv != iv) = false := by simp
        have HO := hide (show Ints wr _ (plLDq fr base n D) by
          have := HA.out.own
          rw [hjD, ← plL_len fr base n D] at this
          rw [plL_len] at this
          exact Sl.of_own ic_len (by rw [plL_len]; exact this))
        obtain ⟨H, hH⟩ : ∃ H, (plLDq fr base n D).map (loadF m) = H := ⟨_, rfl⟩
        have HHH := hide hH
        have hHl : H.length = D := by rw [← hH, List.length_map, plL_len]
        have HHL := hide hHl
        clear hiv hH hHl hjD
        go_wp2_with fail
        (with_reducible refine (look_any _ _ m (plLDq fr base n D) _ (HC0.out.below HA.out.below) HO.out hbig (by rw [plL_len]; exact h64) H HHH.out D HHL.out).mono ?_)
        rintro e w8 ⟨A8, c8, rfl, ⟨hc81, hc82⟩, hC8, hb8⟩
        have HB8 := hide (bcall HA.out.below hb8)
        have HC8 := hide hC8
        clear hC8 hb8 hsz
        go_wp2
        go_loopw [14, 58] (fun tv i wr2 => ∃ j2 : Nat, j2 ≤ D ∧ i = .int .i64 j2 ∧ Hid (ItAt w8 wr2 ((H.take j2).map s64) j2 tv)) (fun _ i _ => D - (Go.RowKit.intOf i).toNat)
        case atStart => exact ⟨0, Nat.zero_le _, rfl, hide ⟨World.ownsRow_nil _ _ _ _, Below.refl _ _⟩⟩
        case round =>
          obtain ⟨j2, hj2, rfl, HA2⟩ := hrel
          have hsz2 := HA2.out.below.size
          by_cases hlt : j2 < D
          · have hlH : j2 < H.length := by rw [HHL.out]; exact hlt
            obtain ⟨g, off, rfl, hg, d0⟩ := cells_at (HC8.out.below HA2.out.below) hlH
            obtain ⟨y, hy⟩ : ∃ y, H[j2] = y := ⟨_, rfl⟩
            rw [hy] at d0
            obtain ⟨y1, hy1⟩ : ∃ y1, s64 y = y1 := ⟨_, rfl⟩
            have e9 : IntKind.i64.wrap y = y1 := by rw [wrap_sDq]; exact hy1
            have e10 : wrap64 y = y1 := by rw [wrap64_s]; exact hy1
            have HTK := hide (show (H.take (j2 + 1)).map s64 = (H.take j2).map s64 ++ [y1] by rw [List.take_succ_eq_append_getElem hlH, hy, List.map_append, ← hy1]; rfl)
            clear hy hy1 hlH
            go_wp2_with (at_builtin; refine wpList_append_own _ rfl _ _ 47 rfl w8.heap.size 3 i0 (.int .i64 0) 1 8 Tryz.underlying47 hi hz0 hz1 hz2 rfl (by decide) _ _ _ rfl (HA2.out.own.alloc _) ⟨_, 0, none⟩ 1 1 [.int .i64 y1] rfl rfl (row_at _ _ _ (by simp)) (by simp [Value.oneCell']) (by simp only [maxLen]; omega) (by omega) (by simp; omega) ?_; intro h'' w7 hown' hgrow _)
            go_roundw
            case rel =>
              refine ⟨j2 + 1, by omega, by go_num, hide ⟨?_, ?_⟩⟩
              · rw [HTK.out, List.flatMap_append]; exact hown'
              · exact (HA2.out.below.alloc hsz2 _).grown hgrow (by simp; omega) (own_ge HA2.out.own)
            case measure => simp [Go.RowKit.intOf]; omega
          · have hjD : j2 = D := by omega
            go_wp2
            go_ret
            have e9 : H.take j2 = H := List.take_of_length_le (by rw [HHL.out]; omega)
            have := items_fin (r := r) (n := rn) HA2.out (by rw [e9, List.length_map, HHL.out, hjD]) (by rw [HR.out, HHH.out, e9]) HRN.out
            obtain ⟨A9, c9, h91, h92, h93, h94⟩ := this
            exact ⟨A9, c9, h91, h92, h93, bcall HB8.out h94⟩
end Go.Proofs.YtdmbcjckgfjcaaaGreatDoor
