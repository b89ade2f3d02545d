import Derived.Test.YtpffknlbffnafaaRefChainT
import Derived.Test.YtpffknlbffnafaaChainLay
import Derived.Test.YtpffknlbffnafaaChainList
/- Layer chain, the document's answer: Step, whatever the machine. -/
namespace Go.Proofs.Ytpffknlbffnafaa.ch
open Go.RowKit

theorem load_U {m : List Int} (hm : ∀ x ∈ m, U x) (a : Int) : U (loadF m a) := by
  by_cases h : 0 ≤ a ∧ a < (m.length : Int)
  · obtain ⟨i, rfl⟩ : ∃ i : Nat, a = i := ⟨a.toNat, by omega⟩
    have hi : i < m.length := by omega
    rw [load_nat i hi, List.getD_eq_getElem?_getD, List.getElem?_eq_getElem hi]
    exact hm _ (List.getElem_mem hi)
  · have : loadF m a = 0 := (at_off (m := m) (o := ⟨1, a, 0, 0⟩) (fun h' => h h'.2)).1
    rw [this]; unfold U; omega
set_option maxRecDepth 100000 in
theorem rStep_any (k p s c b t x u : Int) (v : Value) (m : List Int) (w : World) (h : Cells w v m) (hbig : m.length * 8 ≤ 140737488351232) (hb : U b) (hm : ∀ x ∈ m, U x) :
    Calls Try.prog 7 #[v, mvv k p s c b t x u] w (REnd v w (cstepF m ⟨k, p, s, c, b, t, x, u⟩).1 (cstepF m ⟨k, p, s, c, b, t, x, u⟩).2) := by
  by_cases hu : u = 0
  · subst hu
    by_cases hk1 : k = 1
    · subst hk1
      by_cases hp0 : p = 0
      · subst hp0
        have e : cstepF m ⟨1, 0, s, c, b, t, x, 0⟩ = (m, ⟨1, 1, s, c, loadF m s, t, x, 0⟩) := by simp [cstepF, cpushF]
        rw [e]
        exact rpush_0 s c b t x v m w h hbig hb _ rfl
      by_cases hp1 : p = 1
      · subst hp1
        have e : cstepF m ⟨1, 1, s, c, b, t, x, 0⟩ = (storeF m (s64 (c + t)) (nodeF b), ⟨1, 2, s, c, b, t, x, 0⟩) := by simp [cstepF, cpushF]
        rw [e]
        exact rpush_1 s c b t x v m w h hbig hb _ _ rfl rfl _ rfl
      by_cases hp2 : p = 2
      · subst hp2
        cases hq : swapsF m s b (packF (verF b + 1) t)
        · have e : cstepF m ⟨1, 2, s, c, b, t, x, 0⟩ = (swapF m s b (packF (verF b + 1) t), ⟨1, 0, s, c, b, t, x, 0⟩) := by simp [cstepF, cpushF, toC, hq]
          rw [e]
          exact rpush_2n s c b t x v m w h hbig hb _ rfl _ rfl hq
        · have e : cstepF m ⟨1, 2, s, c, b, t, x, 0⟩ = (swapF m s b (packF (verF b + 1) t), ⟨1, 3, s, c, b, t, x, 1⟩) := by simp [cstepF, cpushF, toC, hq]
          rw [e]
          exact rpush_2y s c b t x v m w h hbig hb _ rfl _ rfl hq
      have e : cstepF m ⟨1, p, s, c, b, t, x, 0⟩ = (m, ⟨1, p, s, c, b, t, x, 0⟩) := by simp [cstepF, cpushF, hp0, hp1, hp2]
      rw [e]
      rcases (show p < 0 ∨ (¬ p < 0 ∧ 2 < p) by omega) with q1 | ⟨q1, q2⟩
      · exact rno_lo 1 p s c b t x v m w h hbig hb q1
      · exact rno_hi 1 p s c b t x v m w h hbig hb q1 q2
    by_cases hk2 : k = 2
    · subst hk2
      by_cases hp0 : p = 0
      · subst hp0
        by_cases hq : nodeF (loadF m s) = 0
        · have e : cstepF m ⟨2, 0, s, c, b, t, x, 0⟩ = (m, ⟨2, 1, s, c, loadF m s, t, x, 2⟩) := by simp [cstepF, cpopF, hq]
          rw [e]
          exact rpop_0y s c b t x v m w h hbig hb _ _ rfl (load_U hm _) rfl hq
        · have e : cstepF m ⟨2, 0, s, c, b, t, x, 0⟩ = (m, ⟨2, 1, s, c, loadF m s, t, x, 0⟩) := by simp [cstepF, cpopF, hq]
          rw [e]
          exact rpop_0n s c b t x v m w h hbig hb _ _ rfl (load_U hm _) rfl hq
      by_cases hp1 : p = 1
      · subst hp1
        have e : cstepF m ⟨2, 1, s, c, b, t, x, 0⟩ = (m, ⟨2, 2, s, c, b, t, s64 (loadF m (s64 (c + nodeF b))), 0⟩) := by simp [cstepF, cpopF]
        rw [e]
        exact rpop_1 s c b t x v m w h hbig hb _ _ _ _ rfl rfl rfl rfl
      by_cases hp2 : p = 2
      · subst hp2
        cases hq : swapsF m s b (packF (verF b + 1) x)
        · have e : cstepF m ⟨2, 2, s, c, b, t, x, 0⟩ = (swapF m s b (packF (verF b + 1) x), ⟨2, 0, s, c, b, t, x, 0⟩) := by simp [cstepF, cpopF, toC, hq]
          rw [e]
          exact rpop_2n s c b t x v m w h hbig hb _ rfl _ rfl hq
        · have e : cstepF m ⟨2, 2, s, c, b, t, x, 0⟩ = (swapF m s b (packF (verF b + 1) x), ⟨2, 3, s, c, b, nodeF b, x, 1⟩) := by simp [cstepF, cpopF, toC, hq]
          rw [e]
          exact rpop_2y s c b t x v m w h hbig hb _ rfl _ rfl hq _ rfl
      have e : cstepF m ⟨2, p, s, c, b, t, x, 0⟩ = (m, ⟨2, p, s, c, b, t, x, 0⟩) := by simp [cstepF, cpopF, hp0, hp1, hp2]
      rw [e]
      rcases (show p < 0 ∨ (¬ p < 0 ∧ 2 < p) by omega) with q1 | ⟨q1, q2⟩
      · exact rno_lo 2 p s c b t x v m w h hbig hb q1
      · exact rno_hi 2 p s c b t x v m w h hbig hb q1 q2
    have e : cstepF m ⟨k, p, s, c, b, t, x, 0⟩ = (m, ⟨k, p, s, c, b, t, x, 0⟩) := by simp [cstepF, hk1, hk2]
    rw [e]
    by_cases q1 : p < 0
    · exact rno_lo k p s c b t x v m w h hbig hb q1
    by_cases q2 : 2 < p
    · exact rno_hi k p s c b t x v m w h hbig hb q1 q2
    exact rno_k k p s c b t x v m w h hbig hb q1 q2 (by rw [bne_iff_ne]; exact hk1) (by rw [bne_iff_ne]; exact hk2)
  · have e : cstepF m ⟨k, p, s, c, b, t, x, u⟩ = (m, ⟨k, p, s, c, b, t, x, u⟩) := by simp [cstepF, hu]
    rw [e]
    exact rno_u k p u s c b t x v m w h hbig hb (by rw [bne_iff_ne]; exact hu)
end Go.Proofs.Ytpffknlbffnafaa.ch
/- Layer chain, the document's answer: Lay, List. -/
namespace Go.Proofs.Ytpffknlbffnafaa.ch
open Go.RowKit

theorem lay_mid (M : List Int) (nx : Int) (l : List Int) (k : Nat) (h : k + 1 < l.length) : layCells M nx (l.drop k) = layCells (storeF M (s64 (nx + l[k])) (w64 l[k + 1])) nx (l.drop (k + 1)) := by
  rw [List.drop_eq_getElem_cons (by omega : k < l.length), List.drop_eq_getElem_cons h]; rfl
theorem lay_last (M : List Int) (nx : Int) (l : List Int) (k : Nat) (hk : k < l.length) (h : ¬ k + 1 < l.length) : layCells M nx (l.drop k) = layCells (storeF M (s64 (nx + l[k])) 0) nx (l.drop (k + 1)) := by
  rw [List.drop_eq_getElem_cons hk, List.drop_eq_nil_of_le (by omega)]; rfl
theorem slen {M : List Int} {L : Nat} (a v : Int) (h : M.length = L) : (storeF M a v).length = L := (mF_len _ _).trans h
/-- the cells, behind k of the list -/
structure RLy (w wr : World) (m : List Int) (nx : Int) (l : List Int) (k : Nat) (L : Nat) (M : List Int) (A : Option Addr) (c : Nat) : Prop where
  mem : Cells wr (.slice A L c) M
  below : Below w.heap.size w wr
  len : M.length = L
  cap : L ≤ c ∧ c ≤ 9223372036854775807
  lay : layCells M nx (l.drop k) = layCells m nx l
set_option maxRecDepth 100000 in
set_option maxHeartbeats 4000000 in
theorem rLay_any (v lv : Value) (m l : List Int) (hd nx : Int) (w : World) (h : Cells w v m) (hl : Ints w lv l) (hbig : m.length * 8 ≤ 140737488351232) (r : List Int) (hr : layF m hd nx l = r) (L : Nat) (hL : m.length = L) :
    Calls Try.prog 11 #[v, .int .i64 hd, .int .i64 nx, lv] w (LayEnd w r L) := by
  obtain ⟨A0, c0, rfl, hc01, hc02⟩ := cells_form' h
  obtain ⟨B0, b0, rfl, hb01, hb02, -⟩ := id hl
  unfold maxLen at hb02
  have HH := hide (show RLy w w m nx l 0 L m A0 c0 by subst hL; exact ⟨h, Below.refl _ _, rfl, ⟨hc01, hc02⟩, rfl⟩)
  have HI := hide hl
  have HR := hide hr
  have HBG := hide (show L * 8 ≤ 140737488351232 by rw [← hL]; exact hbig)
  rw [hL]
  clear h hl hr hbig hL hc01 hc02
  go_enter Try.func11, Try.ntmps11
  go_wp2
  go_loopw [0, 9] (fun ms iv wr => ∃ (k : Nat) (M : List Int) (A : Option Addr) (c : Nat), k ≤ l.length ∧ ms = .slice A L c ∧ iv = .int .i64 (k : Int) ∧ Hid (RLy w wr m nx l k L M A c)) (fun _ iv _ => l.length - (Go.RowKit.intOf iv).toNat)
  case atStart => exact ⟨0, m, A0, c0, Nat.zero_le _, rfl, rfl, HH⟩
  case round =>
    obtain ⟨k, M, A, c, hk, rfl, rfl, HA⟩ := hrel
    have hcp := HA.out.cap
    obtain ⟨hcp1, hcp2⟩ := hcp
    have HML := hide (show M.length * 8 ≤ 140737488351232 by rw [HA.out.len]; exact HBG.out)
    by_cases hlt : k < l.length
    · obtain ⟨g, off, rfl, hg, d0⟩ := ints_at (HI.out.below HA.out.below) hlt
      have hlti : (k : Int) < (l.length : Int) := by omega
      obtain ⟨x, hx⟩ : ∃ x, l[k] = x := ⟨_, rfl⟩
      obtain ⟨q, hq⟩ : ∃ q, s64 (nx + x) = q := ⟨_, rfl⟩
      have e1 : IntKind.i64.wrap (nx + x) = q := by rw [wrap_s]; exact hq
      have e2 : wrap64 (nx + x) = q := by rw [wrap64_s]; exact hq
      rw [hx] at d0
      by_cases h3 : k + 1 < l.length
      · obtain ⟨g', off', e', hg', d1⟩ := ints_at (HI.out.below HA.out.below) h3
        have h3i : (k : Int) + 1 < (l.length : Int) := by omega
        obtain ⟨y, hy⟩ : ∃ y, l[k + 1] = y := ⟨_, rfl⟩
        obtain ⟨y1, hy1⟩ : ∃ y1, w64 y = y1 := ⟨_, rfl⟩
        have HM := hide (lay_mid M nx l k h3)
        rw [hx, hy, hq, hy1] at HM
        rw [hy] at d1
        injection e' with e'
        injection e' with e3 e4
        subst e3 e4
        have e5 : IntKind.u64.wrap y = y1 := by rw [wrap_w]; exact hy1
        clear hx hy hq hy1
        go_wp2_with fail
        (with_reducible refine (rstore_any _ M q y1 _ rfl L (slen _ _ HA.out.len) _ HA.out.mem HML.out).mono ?_)
        rintro e w5 ⟨v', rfl, hP⟩
        obtain ⟨A1, c1, rfl, ⟨hcc1, hcc2⟩, hCN, -, hb_⟩ := hP
        have HT := hide (show RLy w w5 m nx l (k + 1) L (storeF M q y1) A1 c1 from ⟨hCN, bcall HA.out.below hb_, (mF_len _ _).trans HA.out.len, ⟨hcc1, hcc2⟩, by rw [← HM.out]; exact HA.out.lay⟩)
        clear hCN hb_
        go_wp2
        go_roundw
        case rel => exact ⟨k + 1, _, A1, c1, by omega, rfl, by go_num, HT⟩
        case measure => simp [Go.RowKit.intOf]; omega
      · have h3i : ¬ (k : Int) + 1 < (l.length : Int) := by omega
        have HM := hide (lay_last M nx l k hlt h3)
        rw [hx, hq] at HM
        clear hx hq
        go_wp2_with fail
        (with_reducible refine (rstore_any _ M q 0 _ rfl L (slen _ _ HA.out.len) _ HA.out.mem HML.out).mono ?_)
        rintro e w5 ⟨v', rfl, hP⟩
        obtain ⟨A1, c1, rfl, ⟨hcc1, hcc2⟩, hCN, -, hb_⟩ := hP
        have HT := hide (show RLy w w5 m nx l (k + 1) L (storeF M q 0) A1 c1 from ⟨hCN, bcall HA.out.below hb_, (mF_len _ _).trans HA.out.len, ⟨hcc1, hcc2⟩, by rw [← HM.out]; exact HA.out.lay⟩)
        clear hCN hb_
        go_wp2
        go_roundw
        case rel => exact ⟨k + 1, _, A1, c1, by omega, rfl, by go_num, HT⟩
        case measure => simp [Go.RowKit.intOf]; omega
    · have hlti : ¬ (k : Int) < (l.length : Int) := by omega
      have HM := hide (show M = layCells m nx l by
        have e := HA.out.lay
        rw [List.drop_eq_nil_of_le (by omega)] at e
        exact e)
      by_cases h0 : 0 < l.length
      · obtain ⟨g, off, rfl, hg, d0⟩ := ints_at (HI.out.below HA.out.below) h0
        have h0i : (0 : Int) < (l.length : Int) := by omega
        obtain ⟨x, hx⟩ : ∃ x, l[0] = x := ⟨_, rfl⟩
        rw [hx, Nat.add_zero] at d0
        obtain ⟨z, hz⟩ : ∃ z, packF 0 x = z := ⟨_, rfl⟩
        have HZ := hide hz
        have HX := hide (show storeF M hd z = r by
          rw [← HR.out, HM.out, ← hz, ← hx]
          unfold layF
          rw [List.headD_eq_head?_getD, List.head?_eq_getElem?, List.getElem?_eq_getElem h0]; rfl)
        have hU0 : U 0 := by unfold U; omega
        clear hx hz
        go_wp2_with fail
        (with_reducible refine (rPack_same 0 x z hU0 HZ.out _).mono ?_)
        rintro e _ ⟨rfl, rfl⟩
        go_wp2_with fail
        (with_reducible refine (rstore_any _ M hd z r HX.out L (by rw [← HX.out]; exact slen _ _ HA.out.len) _ HA.out.mem HML.out).mono ?_)
        rintro e w5 ⟨v', rfl, hP⟩
        obtain ⟨A1, c1, rfl, ⟨hcc1, hcc2⟩, hCN, -, hb_⟩ := hP
        have HE := hide (show LayEnd w r L (.returned (.slice A1 L c1)) w5 from ⟨A1, c1, rfl, ⟨hcc1, hcc2⟩, hCN, bcall HA.out.below hb_⟩)
        clear hCN hb_
        go_wp2
        go_ret
        exact HE.out
      · have h0i : ¬ (0 : Int) < (l.length : Int) := by omega
        have HX := hide (show storeF M hd 0 = r by
          rw [← HR.out, HM.out]
          unfold layF
          rw [List.eq_nil_of_length_eq_zero (by omega : l.length = 0)]; rfl)
        have hU0 : U 0 := by unfold U; omega
        have HZ := hide (show packF 0 0 = 0 by decide)
        go_wp2_with fail
        (with_reducible refine (rPack_same 0 0 0 hU0 HZ.out _).mono ?_)
        rintro e _ ⟨rfl, rfl⟩
        go_wp2_with fail
        (with_reducible refine (rstore_any _ M hd 0 r HX.out L (by rw [← HX.out]; exact slen _ _ HA.out.len) _ HA.out.mem HML.out).mono ?_)
        rintro e w5 ⟨v', rfl, hP⟩
        obtain ⟨A1, c1, rfl, ⟨hcc1, hcc2⟩, hCN, -, hb_⟩ := hP
        have HE := hide (show LayEnd w r L (.returned (.slice A1 L c1)) w5 from ⟨A1, c1, rfl, ⟨hcc1, hcc2⟩, hCN, bcall HA.out.below hb_⟩)
        clear hCN hb_
        go_wp2
        go_ret
        exact HE.out
set_option maxRecDepth 100000 in
set_option maxHeartbeats 4000000 in
theorem rList_any (v : Value) (m : List Int) (hd nx most : Int) (w : World) (h : Cells w v m) (hbig : m.length * 8 ≤ 140737488351232) (hm : ∀ x ∈ m, U x) (r : List Int) (hr : listF m hd nx most = r) (n : Nat) (hn : r.length = n) :
    Calls Try.prog 14 #[v, .int .i64 hd, .int .i64 nx, .int .i64 most] w (ListEnd w r n) := by
  obtain ⟨y, hy⟩ : ∃ y, loadF m hd = y := ⟨_, rfl⟩
  obtain ⟨x0, hx0⟩ : ∃ x0, nodeF y = x0 := ⟨_, rfl⟩
  obtain ⟨K, hK⟩ : ∃ K, (min (max most 0) 1000).toNat = K := ⟨_, rfl⟩
  have hKm : ∀ k : Nat, k < K ↔ ((k : Int) < most ∧ (k : Int) < 1000) := fun k => by omega
  have HBG := hide hbig
  have HUY := hide (show U y by rw [← hy]; exact load_U hm hd)
  obtain ⟨A0, c0, rfl, hc01, hc02⟩ := cells_form' h
  unfold listF at hr
  rw [hy, hx0, hK] at hr
  have HR := hide hr
  have HN := hide hn
  have HC := hide h
  have HY := hide hy
  have HX := hide hx0
  have HK := hide hKm
  have hK1 : K ≤ 1000 := by omega
  obtain ⟨i0, hi, hz0, hz1, hz2⟩ := info_parts infoI
  clear h hr hn hy hx0 hK hKm hbig hm
  go_enter Try.func14, Try.ntmps14
  go_wp2_with fail
  (with_reducible refine (rload_any _ m hd y HY.out _ HC.out HBG.out).mono ?_)
  rintro e w1 ⟨rfl, hb1⟩
  have HB1 := hide hb1
  have HC1 := hide (HC.out.below hb1)
  clear hb1
  go_wp2_with fail
  (with_reducible refine (rNode_same y x0 HUY.out HX.out _).mono ?_)
  rintro e _ ⟨rfl, rfl⟩
  go_wp2
  go_loopw [9, 10] (fun vs xs wr => ∃ (k : Nat) (l : List Int) (x : Int), k ≤ K ∧ xs = .int .i64 x ∧ Hid (LsAt w wr l k vs) ∧ Hid (l ++ listFrom m nx (K - k) x = r)) (fun vs _ _ => K - lenOf vs)
  case atStart => exact ⟨0, [], x0, Nat.zero_le _, rfl, hide ⟨World.ownsRow_nil _ _ _ _, HB1.out, rfl⟩, HR⟩
  case round =>
    obtain ⟨k, l, x, hk, rfl, HA, HS⟩ := hrel
    by_cases hx : x = 0
    · subst hx
      have HF := hide (list_fin HA.out (by rw [← HS.out, from_zero, List.append_nil]) HN.out)
      go_wp2
      go_ret
      exact HF.out
    · have q0 : (x != 0) = true := by rw [bne_iff_ne]; exact hx
      obtain ⟨A, c, rfl, hc1, hc2⟩ := own_form HA.out.own
      by_cases hlt : k < K
      · obtain ⟨hlt', hlt2⟩ := (HK.out k).1 hlt
        obtain ⟨q, hq⟩ : ∃ q, s64 (nx + x) = q := ⟨_, rfl⟩
        obtain ⟨z, hz⟩ : ∃ z, loadF m q = z := ⟨_, rfl⟩
        obtain ⟨x2, hx2⟩ : ∃ x2, s64 z = x2 := ⟨_, rfl⟩
        have e1 : IntKind.i64.wrap (nx + x) = q := by rw [wrap_s]; exact hq
        have e2 : wrap64 (nx + x) = q := by rw [wrap64_s]; exact hq
        have e3 : IntKind.i64.wrap z = x2 := by rw [wrap_s]; exact hx2
        have e4 : wrap64 z = x2 := by rw [wrap64_s]; exact hx2
        have HS2 := hide (show (l ++ [x]) ++ listFrom m nx (K - (k + 1)) x2 = r by
          have e := HS.out
          rw [show K - k = (K - (k + 1)) + 1 by omega, listFrom, if_neg hx, hq, hz, hx2] at e
          rw [List.append_assoc]; exact e)
        have HZ := hide hz
        have hs := HA.out.below.size
        clear hx hq hz hx2
        go_wp2_with (at_builtin; refine wpList_append_own _ rfl _ _ 27 rfl w.heap.size 3 i0 (.int .i64 0) 1 8 Try.underlying27 hi hz0 hz1 hz2 rfl (by decide) _ _ _ rfl (HA.out.own.alloc _) ⟨_, 0, none⟩ 1 1 [.int .i64 x] rfl rfl (row_at _ _ _ (by simp)) (by simp [Value.oneCell']) (by simp only [maxLen]; omega) (by omega) (by simp; omega) ?_; intro v' w6 hown' hgrow _)
        have HB := hide (show Below w.heap.size w w6 from (HA.out.below.alloc hs _).grown hgrow (by simp; omega) (own_ge HA.out.own))
        (with_reducible refine (rload_any _ m q z HZ.out _ (HC.out.below HB.out) HBG.out).mono ?_)
        rintro e w7 ⟨rfl, hb7⟩
        have HL := hide (show LsAt w w7 (l ++ [x]) (k + 1) v' from ⟨by rw [List.flatMap_append]; exact own_below hown' hb7, bcall HB.out hb7, by rw [List.length_append, HA.out.len]; rfl⟩)
        have hln : lenOf v' = k + 1 := by obtain ⟨A9, c9, rfl, -, -⟩ := own_form hown'; rfl
        go_wp2
        go_roundw
        case rel => exact ⟨k + 1, l ++ [x], x2, by omega, rfl, HL, HS2⟩
        case measure =>
          show K - lenOf v' < K - lenOf (.slice A k c)
          rw [hln]
          show K - (k + 1) < K - k
          omega
      · have HF := hide (list_fin HA.out (by rw [← HS.out, show K - k = 0 by omega, listFrom, List.append_nil]) HN.out)
        by_cases hm1 : (k : Int) < most
        · have hm2 : ¬ (k : Int) < 1000 := fun h' => hlt ((HK.out k).2 ⟨hm1, h'⟩)
          go_wp2
          go_ret
          exact HF.out
        · go_wp2
          go_ret
          exact HF.out
end Go.Proofs.Ytpffknlbffnafaa.ch
