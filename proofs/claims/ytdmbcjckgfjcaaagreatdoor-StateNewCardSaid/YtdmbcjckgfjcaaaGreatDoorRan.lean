import Derived.Test.YtdmbcjckgfjcaaaGreatDoorRam
/- Layer deque: what is in the deque, place by place. -/
namespace Go.Proofs.YtdmbcjckgfjcaaaGreatDoor
open Go.RowKit
set_option maxRecDepth 100000 in
set_option maxHeartbeats 8000000 in
theorem items_okN (k p s c b t x u : Int) (v : Value) (m : List Int) (base n : Int) (w : World) (h : Cells w v m) (hm : AllU m) (hbig : m.length * 8 ≤ 140737488351232) (hbase : I6 base) (hn : I6 n) (q fr to T d cc : Int) (hq : s64 (base + 1) = q) (hf : loadF m base = fr) (hto : loadF m q = to) (hext : extF ⟨k, p, s, c, b, t, x, u⟩ = false) (hT : to = T) (hd : w64 (T - fr) = d) (hcc : max n 1 = cc) (D : Nat) (hD : d = D) (hD2 : d ≤ min cc 64) (r : List Int) (hr : itemsF m base n ⟨k, p, s, c, b, t, x, u⟩ = r) (rn : Nat) (hrn : r.length = rn) :
    Calls Tryz.prog 27 #[v, .int .i64 base, .int .i64 n, mvv k p s c b t x u] w (ItemsEnd w r rn) := by
  subst hT
  have e1 : IntKind.i64.wrap (base + 0) = base := by rw [wrap_sDq, Int.add_zero]; exact s64_small hbase.1 hbase.2
  have e2 : IntKind.i64.wrap base = base := by rw [wrap_sDq]; exact s64_small hbase.1 hbase.2
  have e3 : wrap64 base = base := by rw [wrap64_s]; exact s64_small hbase.1 hbase.2
  have e4 : IntKind.i64.wrap (base + 1) = q := by rw [wrap_sDq]; exact hq
  have e5 : wrap64 (base + 1) = q := by rw [wrap64_s]; exact hq
  have e7 : IntKind.u64.wrap (to - fr) = d := by rw [wrap_w]; exact hd
  have hUf : U fr := by rw [← hf]; exact load_U hm _
  have hUt : U to := by rw [← hto]; exact load_U hm _
  have HLK := hide (show [base, q].map (loadF m) = [fr, to] by simp [hf, hto])
  have hUT : U to := hUt
  have hEnd : endF m base ⟨k, p, s, c, b, t, x, u⟩ = to := end_no hq hto hUt hext
  have HR := hide (show r = ((plLDq fr base n D).map (loadF m)).map s64 by rw [← hr]; exact items_fit hf hEnd hd (by rw [hcc]; exact hD2) D hD)
  have HGE := hide (go_end hUT hd D hD)
  have h64 : D ≤ 64 := by omega
  have HFR := hide (show w64 (fr + ((0 : Nat) : Int)) = fr by have h := load_U hm base; rw [hf] at h; unfold U at h; rw [show fr + ((0 : Nat) : Int) = fr by simp]; exact w64_small h.1 h.2)
  have HGN := hide (fun (j : Nat) (hj : j < D) => go_ne hUT hd hD h64 hj)
  have HGL := hide (fun (j : Nat) (hj : j ≤ D) => go_left hUT hd hD hj h64)
  have h1 := max_cap hn
  rw [hcc] at h1
  have hd0 : 0 ≤ d := by rw [← hd]; exact (w64_U' _).1
  have hd1 : d ≤ 18446744073709551615 := by rw [← hd]; exact (w64_U' _).2
  have HRN := hide hrn
  have HNN := hide hn
  have HCC := hide hcc
  have HX := hide hext
  obtain ⟨w1, f1⟩ : ∃ w1, w.alloc (.cells #[.int .i64 k, .int .i64 p, .int .i64 s, .int .i64 c, .int .u64 b, .int .u64 t, .int .i64 x, .int .i64 u] 80) = w1 := ⟨_, rfl⟩
  have hb1 : Below w.heap.size w w1 := by rw [← f1]; exact balMe _ _
  have M1 : Mb w1 w.heap.size ⟨k, p, s, c, b, t, x, u⟩ := by rw [← f1]; exact mb_new w ⟨k, p, s, c, b, t, x, u⟩
  have hs1 : w1.heap.size = w.heap.size + 1 := by rw [← f1]; simp
  obtain ⟨w2, f2, hb2, hI2⟩ := lit_two (w := w1) base q
  have HE1 := hide f1
  have HE2 := hide f2
  have HI2 := hide hI2
  have HS1 := hide hs1
  have HC2 := hide ((h.below hb1).below hb2)
  have HC0 := hide h
  have HM2 := hide (M1.below hb2)
  have HB2 := hide (bcall hb1 hb2)
  clear hq hf hto hext hd hcc hr hrn hn hbase hUf hUt f1 f2 hb1 hb2 M1 hI2 h hm hEnd hUT hs1
  go_enter Tryz.func27, Tryz.ntmps27
  go_wp2_with fail
  rw [HE1.out, ← HS1.out, HE2.out]
  (with_reducible refine (look_any _ _ m [base, q] _ HC2.out HI2.out hbig (by simp) [fr, to] HLK.out 2 rfl).mono ?_)
  rintro e w3 ⟨A3, c3, rfl, ⟨hc31, hc32⟩, hC3, hb3⟩
  obtain ⟨g3, o3, rfl, y0, y1⟩ := cells_two hC3
  have HB3 := hide (bcall HB2.out hb3)
  have HM3 := hide (HM2.out.below hb3)
  have HC3 := hide (HC2.out.below hb3)
  clear hC3 hb3
  go_wp2
  go_quiet (fail)
  obtain ⟨a0, a1, a2, a3, a4, a5, a6, a7⟩ := HM3.out.cells
  go_wp2_with fail
  (with_reducible refine (lowered_any k p s c b t x u _ _ HX.out).mono ?_)
  rintro e w4 ⟨rfl, hb4⟩
  have hb34 : Below w3.heap.size w3 w4 := ⟨hb4.os, hb4.tape, hb4.output, hb4.size, hb4.block⟩
  have HB4 := hide (bcall HB3.out hb34)
  have HC4 := hide (HC3.out.below hb34)
  clear hb4 hb34 a0 a1 a2 a3 a4 a5 a6 a7 y0 y1
  go_wp2_with fail
  (with_reducible refine (size_any n cc HNN.out HCC.out _).mono ?_)
  rintro e w5 ⟨rfl, rfl⟩
  obtain ⟨i0, hi, hz0, hz1, hz2⟩ := info_parts infoIDq
  by_cases h6 : cc ≤ 64
  · go_wp2
    go_loopw [12, 13] (fun cv iv wr => ∃ j : Nat, j ≤ D ∧ iv = .int .u64 (w64 (fr + (j : Nat))) ∧ Hid (ItAt w wr (plLDq fr base n j) j cv)) (fun _ iv _ => (w64 (to - Go.RowKit.intOf iv)).toNat)
    case atStart => exact ⟨0, Nat.zero_le _, by rw [HFR.out], hide ⟨World.ownsRow_nil _ _ _ _, HB4.out⟩⟩
    case round =>
      obtain ⟨j, hj, rfl, HA⟩ := hrel
      obtain ⟨iv, hiv⟩ : ∃ iv, w64 (fr + (j : Nat)) = iv := ⟨_, rfl⟩
      have HIV := hide hiv
      rw [hiv]
      have hsz := HA.out.below.size
      by_cases hlt : j < D
      · have q0 : (iv != to) = true := by rw [bne_iff_ne, ← hiv]; exact HGN.out j hlt
        obtain ⟨pq, hpq⟩ : ∃ pq, plF fr base n j = pq := ⟨_, rfl⟩
        have HPL := hide (show plLDq fr base n (j + 1) = plLDq fr base n j ++ [pq] by rw [← hpq]; exact plL_succ _ _ _ _)
        have HPQ := hide (show s64 (base + 2 + iv % max n 1) = pq by rw [← hiv]; exact hpq)
        have HU := hide (show U iv by rw [← hiv]; exact w64_U' _)
        obtain ⟨iv2, hiv2⟩ : ∃ iv2, w64 (iv + 1) = iv2 := ⟨_, rfl⟩
        have e8 : IntKind.u64.wrap (iv + 1) = iv2 := by rw [wrap_w]; exact hiv2
        have HNX := hide (show w64 (fr + ((j + 1 : Nat) : Int)) = iv2 by rw [← hiv2, ← hiv]; exact (go_next fr j).symm)
        clear hpq hiv hiv2
        go_wp2_with fail
        (with_reducible refine (place_any base n iv pq HNN.out HU.out HPQ.out _).mono ?_)
        rintro e w6 ⟨rfl, rfl⟩
        go_wp2_with (at_builtin; refine wpList_append_own _ rfl _ _ 47 rfl w.heap.size 3 i0 (.int .i64 0) 1 8 Tryz.underlying47 hi hz0 hz1 hz2 rfl (by decide) _ _ _ rfl (HA.out.own.alloc _) ⟨_, 0, none⟩ 1 1 [.int .i64 pq] rfl rfl (row_at _ _ _ (by simp)) (by simp [Value.oneCell']) (by simp only [maxLen]; omega) (by omega) (by simp; omega) ?_; intro h'' w7 hown' hgrow _)
        go_roundw
        case rel =>
          refine ⟨j + 1, by omega, by rw [HNX.out], hide ⟨?_, ?_⟩⟩
          · rw [HPL.out, List.flatMap_append]; exact hown'
          · exact (HA.out.below.alloc hsz _).grown hgrow (by simp; omega) (own_ge HA.out.own)
        case measure =>
          show (w64 (to - iv2)).toNat < (w64 (to - iv)).toNat
          have ha := HGL.out j (by omega)
          have hb := HGL.out (j + 1) (by omega)
          rw [HIV.out] at ha
          rw [HNX.out] at hb
          omega
      · have hjD : j = D := by omega
        obtain rfl : iv = to := by rw [← hiv, hjD]; exact HGE.out
        have q0 : (iv != iv) = false := by simp
        have HO := hide (show Ints wr _ (plLDq fr base n D) by
          have := HA.out.own
          rw [hjD, ← plL_len fr base n D] at this
          rw [plL_len] at this
          exact Sl.of_own ic_len (by rw [plL_len]; exact this))
        obtain ⟨H, hH⟩ : ∃ H, (plLDq fr base n D).map (loadF m) = H := ⟨_, rfl⟩
        have HHH := hide hH
        have hHl : H.length = D := by rw [← hH, List.length_map, plL_len]
        have HHL := hide hHl
        clear hiv hH hHl hjD
        go_wp2_with fail
        (with_reducible refine (look_any _ _ m (plLDq fr base n D) _ (HC0.out.below HA.out.below) HO.out hbig (by rw [plL_len]; exact h64) H HHH.out D HHL.out).mono ?_)
        rintro e w8 ⟨A8, c8, rfl, ⟨hc81, hc82⟩, hC8, hb8⟩
        have HB8 := hide (bcall HA.out.below hb8)
        have HC8 := hide hC8
        clear hC8 hb8 hsz
        go_wp2
        go_loopw [14, 58] (fun tv i wr2 => ∃ j2 : Nat, j2 ≤ D ∧ i = .int .i64 j2 ∧ Hid (ItAt w8 wr2 ((H.take j2).map s64) j2 tv)) (fun _ i _ => D - (Go.RowKit.intOf i).toNat)
        case atStart => exact ⟨0, Nat.zero_le _, rfl, hide ⟨World.ownsRow_nil _ _ _ _, Below.refl _ _⟩⟩
        case round =>
          obtain ⟨j2, hj2, rfl, HA2⟩ := hrel
          have hsz2 := HA2.out.below.size
          by_cases hlt : j2 < D
          · have hlH : j2 < H.length := by rw [HHL.out]; exact hlt
            obtain ⟨g, off, rfl, hg, d0⟩ := cells_at (HC8.out.below HA2.out.below) hlH
            obtain ⟨y, hy⟩ : ∃ y, H[j2] = y := ⟨_, rfl⟩
            rw [hy] at d0
            obtain ⟨y1, hy1⟩ : ∃ y1, s64 y = y1 := ⟨_, rfl⟩
            have e9 : IntKind.i64.wrap y = y1 := by rw [wrap_sDq]; exact hy1
            have e10 : wrap64 y = y1 := by rw [wrap64_s]; exact hy1
            have HTK := hide (show (H.take (j2 + 1)).map s64 = (H.take j2).map s64 ++ [y1] by rw [List.take_succ_eq_append_getElem hlH, hy, List.map_append, ← hy1]; rfl)
            clear hy hy1 hlH
            go_wp2_with (at_builtin; refine wpList_append_own _ rfl _ _ 47 rfl w8.heap.size 3 i0 (.int .i64 0) 1 8 Tryz.underlying47 hi hz0 hz1 hz2 rfl (by decide) _ _ _ rfl (HA2.out.own.alloc _) ⟨_, 0, none⟩ 1 1 [.int .i64 y1] rfl rfl (row_at _ _ _ (by simp)) (by simp [Value.oneCell']) (by simp only [maxLen]; omega) (by omega) (by simp; omega) ?_; intro h'' w7 hown' hgrow _)
            go_roundw
            case rel =>
              refine ⟨j2 + 1, by omega, by go_num, hide ⟨?_, ?_⟩⟩
              · rw [HTK.out, List.flatMap_append]; exact hown'
              · exact (HA2.out.below.alloc hsz2 _).grown hgrow (by simp; omega) (own_ge HA2.out.own)
            case measure => simp [Go.RowKit.intOf]; omega
          · have hjD : j2 = D := by omega
            go_wp2
            go_ret
            have e9 : H.take j2 = H := List.take_of_length_le (by rw [HHL.out]; omega)
            have := items_fin (r := r) (n := rn) HA2.out (by rw [e9, List.length_map, HHL.out, hjD]) (by rw [HR.out, HHH.out, e9]) HRN.out
            obtain ⟨A9, c9, h91, h92, h93, h94⟩ := this
            exact ⟨A9, c9, h91, h92, h93, bcall HB8.out h94⟩
  · go_wp2
    go_loopw [12, 13] (fun cv iv wr => ∃ j : Nat, j ≤ D ∧ iv = .int .u64 (w64 (fr + (j : Nat))) ∧ Hid (ItAt w wr (plLDq fr base n j) j cv)) (fun _ iv _ => (w64 (to - Go.RowKit.intOf iv)).toNat)
    case atStart => exact ⟨0, Nat.zero_le _, by rw [HFR.out], hide ⟨World.ownsRow_nil _ _ _ _, HB4.out⟩⟩
    case round =>
      obtain ⟨j, hj, rfl, HA⟩ := hrel
      obtain ⟨iv, hiv⟩ : ∃ iv, w64 (fr + (j : Nat)) = iv := ⟨_, rfl⟩
      have HIV := hide hiv
      rw [hiv]
      have hsz := HA.out.below.size
      by_cases hlt : j < D
      · have q0 : (iv != to) = true := by rw [bne_iff_ne, ← hiv]; exact HGN.out j hlt
        obtain ⟨pq, hpq⟩ : ∃ pq, plF fr base n j = pq := ⟨_, rfl⟩
        have HPL := hide (show plLDq fr base n (j + 1) = plLDq fr base n j ++ [pq] by rw [← hpq]; exact plL_succ _ _ _ _)
        have HPQ := hide (show s64 (base + 2 + iv % max n 1) = pq by rw [← hiv]; exact hpq)
        have HU := hide (show U iv by rw [← hiv]; exact w64_U' _)
        obtain ⟨iv2, hiv2⟩ : ∃ iv2, w64 (iv + 1) = iv2 := ⟨_, rfl⟩
        have e8 : IntKind.u64.wrap (iv + 1) = iv2 := by rw [wrap_w]; exact hiv2
        have HNX := hide (show w64 (fr + ((j + 1 : Nat) : Int)) = iv2 by rw [← hiv2, ← hiv]; exact (go_next fr j).symm)
        clear hpq hiv hiv2
        go_wp2_with fail
        (with_reducible refine (place_any base n iv pq HNN.out HU.out HPQ.out _).mono ?_)
        rintro e w6 ⟨rfl, rfl⟩
        go_wp2_with (at_builtin; refine wpList_append_own _ rfl _ _ 47 rfl w.heap.size 3 i0 (.int .i64 0) 1 8 Tryz.underlying47 hi hz0 hz1 hz2 rfl (by decide) _ _ _ rfl (HA.out.own.alloc _) ⟨_, 0, none⟩ 1 1 [.int .i64 pq] rfl rfl (row_at _ _ _ (by simp)) (by simp [Value.oneCell']) (by simp only [maxLen]; omega) (by omega) (by simp; omega) ?_; intro h'' w7 hown' hgrow _)
        go_roundw
        case rel =>
          refine ⟨j + 1, by omega, by rw [HNX.out], hide ⟨?_, ?_⟩⟩
          · rw [HPL.out, List.flatMap_append]; exact hown'
          · exact (HA.out.below.alloc hsz _).grown hgrow (by simp; omega) (own_ge HA.out.own)
        case measure =>
          show (w64 (to - iv2)).toNat < (w64 (to - iv)).toNat
          have ha := HGL.out j (by omega)
          have hb := HGL.out (j + 1) (by omega)
          rw [HIV.out] at ha
          rw [HNX.out] at hb
          omega
      · have hjD : j = D := by omega
        obtain rfl : iv = to := by rw [← hiv, hjD]; exact HGE.out
        have q0 : (iv != iv) = false := by simp
        have HO := hide (show Ints wr _ (plLDq fr base n D) by
          have := HA.out.own
          rw [hjD, ← plL_len fr base n D] at this
          rw [plL_len] at this
          exact Sl.of_own ic_len (by rw [plL_len]; exact this))
        obtain ⟨H, hH⟩ : ∃ H, (plLDq fr base n D).map (loadF m) = H := ⟨_, rfl⟩
        have HHH := hide hH
        have hHl : H.length = D := by rw [← hH, List.length_map, plL_len]
        have HHL := hide hHl
        clear hiv hH hHl hjD
        go_wp2_with fail
        (with_reducible refine (look_any _ _ m (plLDq fr base n D) _ (HC0.out.below HA.out.below) HO.out hbig (by rw [plL_len]; exact h64) H HHH.out D HHL.out).mono ?_)
        rintro e w8 ⟨A8, c8, rfl, ⟨hc81, hc82⟩, hC8, hb8⟩
        have HB8 := hide (bcall HA.out.below hb8)
        have HC8 := hide hC8
        clear hC8 hb8 hsz
        go_wp2
        go_loopw [14, 58] (fun tv i wr2 => ∃ j2 : Nat, j2 ≤ D ∧ i = .int .i64 j2 ∧ Hid (ItAt w8 wr2 ((H.take j2).map s64) j2 tv)) (fun _ i _ => D - (Go.RowKit.intOf i).toNat)
        case atStart => exact ⟨0, Nat.zero_le _, rfl, hide ⟨World.ownsRow_nil _ _ _ _, Below.refl _ _⟩⟩
        case round =>
          obtain ⟨j2, hj2, rfl, HA2⟩ := hrel
          have hsz2 := HA2.out.below.size
          by_cases hlt : j2 < D
          · have hlH : j2 < H.length := by rw [HHL.out]; exact hlt
            obtain ⟨g, off, rfl, hg, d0⟩ := cells_at (HC8.out.below HA2.out.below) hlH
            obtain ⟨y, hy⟩ : ∃ y, H[j2] = y := ⟨_, rfl⟩
            rw [hy] at d0
            obtain ⟨y1, hy1⟩ : ∃ y1, s64 y = y1 := ⟨_, rfl⟩
            have e9 : IntKind.i64.wrap y = y1 := by rw [wrap_sDq]; exact hy1
            have e10 : wrap64 y = y1 := by rw [wrap64_s]; exact hy1
            have HTK := hide (show (H.take (j2 + 1)).map s64 = (H.take j2).map s64 ++ [y1] by rw [List.take_succ_eq_append_getElem hlH, hy, List.map_append, ← hy1]; rfl)
            clear hy hy1 hlH
            go_wp2_with (at_builtin; refine wpList_append_own _ rfl _ _ 47 rfl w8.heap.size 3 i0 (.int .i64 0) 1 8 Tryz.underlying47 hi hz0 hz1 hz2 rfl (by decide) _ _ _ rfl (HA2.out.own.alloc _) ⟨_, 0, none⟩ 1 1 [.int .i64 y1] rfl rfl (row_at _ _ _ (by simp)) (by simp [Value.oneCell']) (by simp only [maxLen]; omega) (by omega) (by simp; omega) ?_; intro h'' w7 hown' hgrow _)
            go_roundw
            case rel =>
              refine ⟨j2 + 1, by omega, by go_num, hide ⟨?_, ?_⟩⟩
              · rw [HTK.out, List.flatMap_append]; exact hown'
              · exact (HA2.out.below.alloc hsz2 _).grown hgrow (by simp; omega) (own_ge HA2.out.own)
            case measure => simp [Go.RowKit.intOf]; omega
          · have hjD : j2 = D := by omega
            go_wp2
            go_ret
            have e9 : H.take j2 = H := List.take_of_length_le (by rw [HHL.out]; omega)
            have := items_fin (r := r) (n := rn) HA2.out (by rw [e9, List.length_map, HHL.out, hjD]) (by rw [HR.out, HHH.out, e9]) HRN.out
            obtain ⟨A9, c9, h91, h92, h93, h94⟩ := this
            exact ⟨A9, c9, h91, h92, h93, bcall HB8.out h94⟩
end Go.Proofs.YtdmbcjckgfjcaaaGreatDoor
/- Layer deque: what is in the deque, whatever there is. -/
namespace Go.Proofs.YtdmbcjckgfjcaaaGreatDoor
open Go.RowKit
theorem Items_any (k p s c b t x u : Int) (v : Value) (m : List Int) (base n : Int) (w : World) (h : Cells w v m) (hm : AllU m) (hbig : m.length * 8 ≤ 140737488351232) (hbase : I6 base) (hn : I6 n) (r : List Int) (hr : itemsF m base n ⟨k, p, s, c, b, t, x, u⟩ = r) (rn : Nat) (hrn : r.length = rn) :
    Calls Tryz.prog 27 #[v, .int .i64 base, .int .i64 n, mvv k p s c b t x u] w (ItemsEnd w r rn) := by
  cases hext : extF ⟨k, p, s, c, b, t, x, u⟩ with
  | true =>
    by_cases hD : w64 (w64 (loadF m (s64 (base + 1)) + 1) - loadF m base) ≤ min (max n 1) 64
    · have h0 := (w64_U' (w64 (loadF m (s64 (base + 1)) + 1) - loadF m base)).1
      exact items_okY k p s c b t x u v m base n w h hm hbig hbase hn _ _ _ _ _ _ rfl rfl rfl hext rfl rfl rfl _ (Int.toNat_of_nonneg h0).symm hD r hr rn hrn
    · exact items_bigY k p s c b t x u v m base n w h hm hbig hbase hn _ _ _ _ _ _ rfl rfl rfl hext rfl rfl rfl (by omega) r hr rn hrn
  | false =>
    by_cases hD : w64 (loadF m (s64 (base + 1)) - loadF m base) ≤ min (max n 1) 64
    · have h0 := (w64_U' (loadF m (s64 (base + 1)) - loadF m base)).1
      exact items_okN k p s c b t x u v m base n w h hm hbig hbase hn _ _ _ _ _ _ rfl rfl rfl hext rfl rfl rfl _ (Int.toNat_of_nonneg h0).symm hD r hr rn hrn
    · exact items_bigN k p s c b t x u v m base n w h hm hbig hbase hn _ _ _ _ _ _ rfl rfl rfl hext rfl rfl rfl (by omega) r hr rn hrn
end Go.Proofs.YtdmbcjckgfjcaaaGreatDoor
