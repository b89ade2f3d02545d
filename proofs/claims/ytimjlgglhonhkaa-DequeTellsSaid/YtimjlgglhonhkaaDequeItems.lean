/- Layer deque: what is in the deque. -/
import Derived.Test.YtimjlgglhonhkaaDequeLook
import Derived.Test.YtimjlgglhonhkaaDequeQs
namespace Go.Proofs.Ytimjlgglhonhkaa
open Go.RowKit

theorem infoI : (Try.prog.info? 3).map (fun i => (i.zero, i.size, i.bytes)) = some (some (.int .i64 0), 1, 8) := by kernel_rfl
def ItemsEnd (w : World) (r : List Int) (n : Nat) (e : Ending) (w' : World) : Prop := ∃ A c, e = .returned (.slice A n c) ∧ (n ≤ c ∧ c ≤ 9223372036854775807) ∧ Ints w' (.slice A n c) r ∧ Below w.heap.size w w'
structure ItAt (w wr : World) (l : List Int) (k : Nat) (v : Value) : Prop where
  own : wr.ownsRow w.heap.size 3 1 v k (l.flatMap ic)
  below : Below w.heap.size w wr
theorem items_fin {w wr : World} {l r : List Int} {k n : Nat} {v : Value} (h : ItAt w wr l k v) (hk : l.length = k) (hr : r = l) (hn : r.length = n) : ItemsEnd w r n (.returned v) wr := by
  subst hr
  have hkn : k = n := by omega
  subst hkn
  obtain ⟨A, c, rfl, h1, h2⟩ := own_form h.own
  have := h.own
  rw [← hk] at this
  refine ⟨A, c, rfl, ⟨h1, by unfold maxLen at h2; omega⟩, ?_, h.below⟩
  rw [← hk]
  exact Sl.of_own ic_len this
theorem lit_two {w : World} (x y : Int) : ∃ w1, w.alloc (.cells #[.int .i64 x, .int .i64 y] 3) = w1 ∧ Below w.heap.size w w1 ∧ Ints w1 (.slice (some ⟨w.heap.size, 0, none⟩) 2 2) [x, y] :=
  ⟨_, rfl, bal _ _, Sl.of_own ic_len (own_new w w.heap.size ([x, y].flatMap ic) 3 1 2 (Nat.le_refl _) rfl (by decide))⟩

set_option maxRecDepth 100000 in
set_option maxHeartbeats 8000000 in
theorem items_bigY (k p s c b t x u : Int) (v : Value) (m : List Int) (base n : Int) (w : World) (h : Cells w v m) (hm : AllU m) (hbig : m.length * 8 ≤ 140737488351232) (hbase : I6 base) (hn : I6 n) (q fr to T d cc : Int) (hq : s64 (base + 1) = q) (hf : loadF m base = fr) (hto : loadF m q = to) (hext : extF ⟨k, p, s, c, b, t, x, u⟩ = true) (hT : w64 (to + 1) = T) (hd : w64 (T - fr) = d) (hcc : max n 1 = cc) (hD : min cc 64 < d) (r : List Int) (hr : itemsF m base n ⟨k, p, s, c, b, t, x, u⟩ = r) (rn : Nat) (hrn : r.length = rn) :
    Calls Try.prog 15 #[v, .int .i64 base, .int .i64 n, mvv k p s c b t x u] w (ItemsEnd w r rn) := by
  have e1 : IntKind.i64.wrap (base + 0) = base := by rw [wrap_s, Int.add_zero]; exact s64_small hbase.1 hbase.2
  have e2 : IntKind.i64.wrap base = base := by rw [wrap_s]; exact s64_small hbase.1 hbase.2
  have e3 : wrap64 base = base := by rw [wrap64_s]; exact s64_small hbase.1 hbase.2
  have e4 : IntKind.i64.wrap (base + 1) = q := by rw [wrap_s]; exact hq
  have e5 : wrap64 (base + 1) = q := by rw [wrap64_s]; exact hq
  have e6 : IntKind.u64.wrap (to + 1) = T := by rw [wrap_w]; exact hT
  have e7 : IntKind.u64.wrap (T - fr) = d := by rw [wrap_w]; exact hd
  have hUf : U fr := by rw [← hf]; exact load_U hm _
  have hUt : U to := by rw [← hto]; exact load_U hm _
  have HLK := hide (show [base, q].map (loadF m) = [fr, to] by simp [hf, hto])
  have hUT : U T := by rw [← hT]; exact w64_U' _
  have hEnd : endF m base ⟨k, p, s, c, b, t, x, u⟩ = T := (end_yes hq hto hext).trans hT
  have HR := hide (show r = [] by rw [← hr]; exact items_big hf hEnd hd (by rw [hcc]; exact hD))
  have h1 := max_cap hn
  rw [hcc] at h1
  have hd0 : 0 ≤ d := by rw [← hd]; exact (w64_U' _).1
  have hd1 : d ≤ 18446744073709551615 := by rw [← hd]; exact (w64_U' _).2
  have HRN := hide hrn
  have HNN := hide hn
  have HCC := hide hcc
  have HX := hide hext
  obtain ⟨w1, f1⟩ : ∃ w1, w.alloc (.cells #[.int .i64 k, .int .i64 p, .int .i64 s, .int .i64 c, .int .u64 b, .int .u64 t, .int .i64 x, .int .i64 u] 26) = w1 := ⟨_, rfl⟩
  have hb1 : Below w.heap.size w w1 := by rw [← f1]; exact bal _ _
  have M1 : Mb w1 w.heap.size ⟨k, p, s, c, b, t, x, u⟩ := by rw [← f1]; exact mb_new w ⟨k, p, s, c, b, t, x, u⟩
  have hs1 : w1.heap.size = w.heap.size + 1 := by rw [← f1]; simp
  obtain ⟨w2, f2, hb2, hI2⟩ := lit_two (w := w1) base q
  have HE1 := hide f1
  have HE2 := hide f2
  have HI2 := hide hI2
  have HS1 := hide hs1
  have HC2 := hide ((h.below hb1).below hb2)
  have HC0 := hide h
  have HM2 := hide (M1.below hb2)
  have HB2 := hide (bcall hb1 hb2)
  clear hq hf hto hext hd hcc hr hrn hn hbase hUf hUt f1 f2 hb1 hb2 M1 hI2 h hm hEnd hUT hs1 hT
  go_enter Try.func15, Try.ntmps15
  go_wp2_with fail
  rw [HE1.out, ← HS1.out, HE2.out]
  (with_reducible refine (look_any _ _ m [base, q] _ HC2.out HI2.out hbig (by simp) [fr, to] HLK.out 2 rfl).mono ?_)
  rintro e w3 ⟨A3, c3, rfl, ⟨hc31, hc32⟩, hC3, hb3⟩
  obtain ⟨g3, o3, rfl, y0, y1⟩ := cells_two hC3
  have HB3 := hide (bcall HB2.out hb3)
  have HM3 := hide (HM2.out.below hb3)
  have HC3 := hide (HC2.out.below hb3)
  clear hC3 hb3
  go_wp2
  go_quiet (fail)
  obtain ⟨a0, a1, a2, a3, a4, a5, a6, a7⟩ := HM3.out.cells
  go_wp2_with fail
  (with_reducible refine (lowered_any k p s c b t x u _ _ HX.out).mono ?_)
  rintro e w4 ⟨rfl, hb4⟩
  have hb34 : Below w3.heap.size w3 w4 := ⟨hb4.os, hb4.tape, hb4.output, hb4.size, hb4.block⟩
  have HB4 := hide (bcall HB3.out hb34)
  have HC4 := hide (HC3.out.below hb34)
  clear hb4 hb34 a0 a1 a2 a3 a4 a5 a6 a7 y0 y1
  go_wp2_with fail
  (with_reducible refine (size_any n cc HNN.out HCC.out _).mono ?_)
  rintro e w5 ⟨rfl, rfl⟩
  by_cases h6 : cc ≤ 64
  all_goals
    go_wp2
    go_ret
    rw [HR.out] at HRN ⊢
    have := HRN.out
    simp at this
    subst this
    exact ⟨none, 0, rfl, ⟨Nat.le_refl _, by omega⟩, Sl.nil_, HB4.out⟩
set_option maxRecDepth 100000 in
set_option maxHeartbeats 8000000 in
theorem items_bigN (k p s c b t x u : Int) (v : Value) (m : List Int) (base n : Int) (w : World) (h : Cells w v m) (hm : AllU m) (hbig : m.length * 8 ≤ 140737488351232) (hbase : I6 base) (hn : I6 n) (q fr to T d cc : Int) (hq : s64 (base + 1) = q) (hf : loadF m base = fr) (hto : loadF m q = to) (hext : extF ⟨k, p, s, c, b, t, x, u⟩ = false) (hT : to = T) (hd : w64 (T - fr) = d) (hcc : max n 1 = cc) (hD : min cc 64 < d) (r : List Int) (hr : itemsF m base n ⟨k, p, s, c, b, t, x, u⟩ = r) (rn : Nat) (hrn : r.length = rn) :
    Calls Try.prog 15 #[v, .int .i64 base, .int .i64 n, mvv k p s c b t x u] w (ItemsEnd w r rn) := by
  subst hT
  have e1 : IntKind.i64.wrap (base + 0) = base := by rw [wrap_s, Int.add_zero]; exact s64_small hbase.1 hbase.2
  have e2 : IntKind.i64.wrap base = base := by rw [wrap_s]; exact s64_small hbase.1 hbase.2
  have e3 : wrap64 base = base := by rw [wrap64_s]; exact s64_small hbase.1 hbase.2
  have e4 : IntKind.i64.wrap (base + 1) = q := by rw [wrap_s]; exact hq
  have e5 : wrap64 (base + 1) = q := by rw [wrap64_s]; exact hq
  have e7 : IntKind.u64.wrap (to - fr) = d := by rw [wrap_w]; exact hd
  have hUf : U fr := by rw [← hf]; exact load_U hm _
  have hUt : U to := by rw [← hto]; exact load_U hm _
  have HLK := hide (show [base, q].map (loadF m) = [fr, to] by simp [hf, hto])
  have hUT : U to := hUt
  have hEnd : endF m base ⟨k, p, s, c, b, t, x, u⟩ = to := end_no hq hto hUt hext
  have HR := hide (show r = [] by rw [← hr]; exact items_big hf hEnd hd (by rw [hcc]; exact hD))
  have h1 := max_cap hn
  rw [hcc] at h1
  have hd0 : 0 ≤ d := by rw [← hd]; exact (w64_U' _).1
  have hd1 : d ≤ 18446744073709551615 := by rw [← hd]; exact (w64_U' _).2
  have HRN := hide hrn
  have HNN := hide hn
  have HCC := hide hcc
  have HX := hide hext
  obtain ⟨w1, f1⟩ : ∃ w1, w.alloc (.cells #[.int .i64 k, .int .i64 p, .int .i64 s, .int .i64 c, .int .u64 b, .int .u64 t, .int .i64 x, .int .i64 u] 26) = w1 := ⟨_, rfl⟩
  have hb1 : Below w.heap.size w w1 := by rw [← f1]; exact bal _ _
  have M1 : Mb w1 w.heap.size ⟨k, p, s, c, b, t, x, u⟩ := by rw [← f1]; exact mb_new w ⟨k, p, s, c, b, t, x, u⟩
  have hs1 : w1.heap.size = w.heap.size + 1 := by rw [← f1]; simp
  obtain ⟨w2, f2, hb2, hI2⟩ := lit_two (w := w1) base q
  have HE1 := hide f1
  have HE2 := hide f2
  have HI2 := hide hI2
  have HS1 := hide hs1
  have HC2 := hide ((h.below hb1).below hb2)
  have HC0 := hide h
  have HM2 := hide (M1.below hb2)
  have HB2 := hide (bcall hb1 hb2)
  clear hq hf hto hext hd hcc hr hrn hn hbase hUf hUt f1 f2 hb1 hb2 M1 hI2 h hm hEnd hUT hs1
  go_enter Try.func15, Try.ntmps15
  go_wp2_with fail
  rw [HE1.out, ← HS1.out, HE2.out]
  (with_reducible refine (look_any _ _ m [base, q] _ HC2.out HI2.out hbig (by simp) [fr, to] HLK.out 2 rfl).mono ?_)
  rintro e w3 ⟨A3, c3, rfl, ⟨hc31, hc32⟩, hC3, hb3⟩
  obtain ⟨g3, o3, rfl, y0, y1⟩ := cells_two hC3
  have HB3 := hide (bcall HB2.out hb3)
  have HM3 := hide (HM2.out.below hb3)
  have HC3 := hide (HC2.out.below hb3)
  clear hC3 hb3
  go_wp2
  go_quiet (fail)
  obtain ⟨a0, a1, a2, a3, a4, a5, a6, a7⟩ := HM3.out.cells
  go_wp2_with fail
  (with_reducible refine (lowered_any k p s c b t x u _ _ HX.out).mono ?_)
  rintro e w4 ⟨rfl, hb4⟩
  have hb34 : Below w3.heap.size w3 w4 := ⟨hb4.os, hb4.tape, hb4.output, hb4.size, hb4.block⟩
  have HB4 := hide (bcall HB3.out hb34)
  have HC4 := hide (HC3.out.below hb34)
  clear hb4 hb34 a0 a1 a2 a3 a4 a5 a6 a7 y0 y1
  go_wp2_with fail
  (with_reducible refine (size_any n cc HNN.out HCC.out _).mono ?_)
  rintro e w5 ⟨rfl, rfl⟩
  by_cases h6 : cc ≤ 64
  all_goals
    go_wp2
    go_ret
    rw [HR.out] at HRN ⊢
    have := HRN.out
    simp at this
    subst this
    exact ⟨none, 0, rfl, ⟨Nat.le_refl _, by omega⟩, Sl.nil_, HB4.out⟩
end Go.Proofs.Ytimjlgglhonhkaa
