/- Layer mem: the document's own answer: Same, Do. -/
import Derived.Test.YtpffknlbffnafaaMemUse3
import Derived.Deep.AppendLies
namespace Go.Proofs.Ytpffknlbffnafaa
open Go.RowKit

set_option maxHeartbeats 2000000 in
theorem rSame_any (va vb : Value) (a b : List Int) (w : World) (ha : Cells w va a) (hb : Cells w vb b) :
    Calls Try.prog 9 #[va, vb] w fun e w' => e = .returned (.bool (decide (a = b))) ∧ Below w.heap.size w w' := by
  have ha' := ha
  have hb' := hb
  obtain ⟨A, c, rfl, h1, h2, -⟩ := ha'
  obtain ⟨B, d, rfl, h3, h4, -⟩ := hb'
  unfold maxLen at h2 h4
  have HA := hide ha
  have HB := hide hb
  clear ha hb
  by_cases hn : a.length = b.length
  · have q : (((a.length : Int)) != ((b.length : Int))) = false := by rw [bne_eq_false_iff_eq]; omega
    have HN := hide hn
    clear hn
    go_enter Try.func9, Try.ntmps9
    go_wp2
    go_loopw [5] (fun i wr => ∃ k : Nat, k ≤ a.length ∧ i = .int .i64 k ∧ Below w.heap.size w wr ∧ Hid (a.take k = b.take k)) (fun i _ => a.length - (Go.RowKit.intOf i).toNat)
    case atStart => exact ⟨0, Nat.zero_le _, rfl, Below.refl _ _, hide (by simp)⟩
    case round =>
      obtain ⟨k, hk, rfl, hbw, HE⟩ := hrel
      by_cases hlt : k < a.length
      · have hlb : k < b.length := by have := HN.out; omega
        obtain ⟨b1, o1, rfl, -, c0⟩ := cells_at (HA.out.below hbw) hlt
        obtain ⟨b2, o2, rfl, -, c2⟩ := cells_at (HB.out.below hbw) hlb
        by_cases he : a[k] = b[k]
        · have e1 : (a[k] != b[k]) = false := by rw [bne_eq_false_iff_eq]; exact he
          have HE' := hide (show a.take (k + 1) = b.take (k + 1) by rw [List.take_succ_eq_append_getElem hlt, List.take_succ_eq_append_getElem hlb, HE.out, he])
          clear he
          generalize a[k] = x at *
          generalize b[k] = y at *
          go_wp2
          go_quiet (fail)
          go_wp2
          go_roundw
          case rel => exact ⟨k + 1, by omega, by go_num, bdrewN hbw _, HE'⟩
          case measure => simp [Go.RowKit.intOf]; omega
        · have e1 : (a[k] != b[k]) = true := by rw [bne_iff_ne]; exact he
          have HF := hide (show decide (a = b) = false by
            simp only [decide_eq_false_iff_not]
            intro h
            apply he
            simp [h])
          clear he
          generalize a[k] = x at *
          generalize b[k] = y at *
          go_wp2
          go_quiet (fail)
          go_wp2
          go_ret
          exact ⟨ret_bool HF.out.symm, bdrewN hbw _⟩
      · have HF := hide (show a = b by
          have h := HE.out
          have := HN.out
          rwa [List.take_of_length_le (by omega), List.take_of_length_le (by omega)] at h)
        go_wp2
        go_ret
        exact ⟨ret_bool (by rw [HF.out]; simp), hbw⟩
  · have q : (((a.length : Int)) != ((b.length : Int))) = true := by rw [bne_iff_ne]; omega
    have HN := hide (show decide (a = b) = false by simp; intro e; exact hn (by rw [e]))
    clear hn
    go_enter Try.func9, Try.ntmps9
    go_wp2
    go_ret
    exact ⟨ret_bool HN.out.symm, Below.refl _ _⟩



/-- what the document's Do leaves -/
def RDo (w : World) (v : Value) (m : List Int) (k t a b : Int) (e : Ending) (w' : World) : Prop :=
  ∃ v', e = .returned (.tuple #[v', .int .u64 (vF m ⟨k, t, a, b⟩), .bool (okF m ⟨k, t, a, b⟩)]) ∧ Cells w' v' (mF m ⟨k, t, a, b⟩) ∧ (v' = v ∨ ∀ x, v'.ownBlock = some x → w.heap.size ≤ x) ∧ Below w.heap.size w w'
theorem RDo.kept {w w' : World} {v : Value} {m : List Int} {k t a b x : Int} {d : Bool} (h : Cells w v m) (hb : Below w.heap.size w w') (hm : mF m ⟨k, t, a, b⟩ = m) (hx : vF m ⟨k, t, a, b⟩ = x) (hd : okF m ⟨k, t, a, b⟩ = d) :
    RDo w v m k t a b (.returned (.tuple #[v, .int .u64 x, .bool d])) w' :=
  ⟨v, by rw [hx, hd], by rw [hm]; exact h.below hb, .inl rfl, hb⟩
theorem RDo.new {w w1 w2 : World} {v : Value} {m : List Int} {k t a b x y : Int} {d : Bool} {j g c : Nat} (hb : Below w.heap.size w w1) (hown : w2.ownsRow w1.heap.size 24 1 (.slice (some ⟨g, 0, none⟩) m.length c) m.length (m.flatMap uc)) (hb2 : Below w1.heap.size w1 w2)
    (hm : mF m ⟨k, t, a, b⟩ = m.set j y) (hx : vF m ⟨k, t, a, b⟩ = x) (hd : okF m ⟨k, t, a, b⟩ = d) :
    RDo w v m k t a b (.returned (.tuple #[.slice (some ⟨g, 0, none⟩) m.length c, .int .u64 x, .bool d])) (w2.setCell ⟨g, j, none⟩ (.int .u64 y)) := by
  obtain ⟨h1, h2⟩ := turn_end (j := j) hown (Below.refl _ _) y
  have hg : w1.heap.size ≤ g := (hown.lt g rfl).1
  refine ⟨_, by rw [hx, hd], ?_, .inr fun x hx => ?_, bcall hb (hb2.setCell hg _)⟩
  · rw [hm]
    exact Sl.of_own uc_len (by rw [List.length_set]; exact h1)
  · simp only [Value.ownBlock, Option.some.injEq] at hx
    subst hx
    exact Nat.le_trans hb.size hg

set_option maxHeartbeats 2000000 in
theorem rDo_neg (v : Value) (m : List Int) (k t a b : Int) (w : World) (h : Cells w v m) (_hbig : m.length * 8 ≤ 140737488351232) (ht : t < 0) :
    Calls Try.prog 38 #[v, ov k t a b] w (RDo w v m k t a b) := by
  have GM := hide h
  obtain ⟨A, c, rfl, hc1, hc2, -⟩ := h
  unfold maxLen at hc2
  obtain ⟨w1, e1, hb1, hs1, c0, c1, c2, c3⟩ := box4 w (.int .i64 k) (.int .i64 t) (.int .u64 a) (.int .u64 b) 78
  have HE := hide e1
  clear e1 hs1
  go_enter Try.func38, Try.ntmps38
  go_wp2
  go_ret3
  obtain ⟨f1, f2, f3⟩ := at_off (m := m) (o := ⟨k, t, a, b⟩) (by simp only; omega)
  exact RDo.kept GM.out (by rw [HE.out]; exact hb1) f3 f1 f2
set_option maxHeartbeats 2000000 in
theorem rDo_far (v : Value) (m : List Int) (k t a b : Int) (w : World) (h : Cells w v m) (_hbig : m.length * 8 ≤ 140737488351232) (ht : (m.length : Int) ≤ t) (ht2 : 0 ≤ t) :
    Calls Try.prog 38 #[v, ov k t a b] w (RDo w v m k t a b) := by
  have GM := hide h
  obtain ⟨A, c, rfl, hc1, hc2, -⟩ := h
  unfold maxLen at hc2
  obtain ⟨w1, e1, hb1, hs1, c0, c1, c2, c3⟩ := box4 w (.int .i64 k) (.int .i64 t) (.int .u64 a) (.int .u64 b) 78
  have HE := hide e1
  clear e1 hs1
  go_enter Try.func38, Try.ntmps38
  go_wp2
  go_ret3
  obtain ⟨f1, f2, f3⟩ := at_off (m := m) (o := ⟨k, t, a, b⟩) (by simp only; omega)
  exact RDo.kept GM.out (by rw [HE.out]; exact hb1) f3 f1 f2
set_option maxHeartbeats 2000000 in
theorem rDo_low (v : Value) (m : List Int) (k t a b : Int) (w : World) (h : Cells w v m) (_hbig : m.length * 8 ≤ 140737488351232) (ht : 0 ≤ t ∧ t < (m.length : Int)) (hk : k < 1) :
    Calls Try.prog 38 #[v, ov k t a b] w (RDo w v m k t a b) := by
  have GM := hide h
  obtain ⟨A, c, rfl, hc1, hc2, -⟩ := h
  unfold maxLen at hc2
  obtain ⟨w1, e1, hb1, hs1, c0, c1, c2, c3⟩ := box4 w (.int .i64 k) (.int .i64 t) (.int .u64 a) (.int .u64 b) 78
  have HE := hide e1
  clear e1 hs1
  go_enter Try.func38, Try.ntmps38
  go_wp2
  go_ret3
  obtain ⟨f1, f2, f3⟩ := at_off (m := m) (o := ⟨k, t, a, b⟩) (by simp only; omega)
  exact RDo.kept GM.out (by rw [HE.out]; exact hb1) f3 f1 f2
set_option maxHeartbeats 2000000 in
theorem rDo_high (v : Value) (m : List Int) (k t a b : Int) (w : World) (h : Cells w v m) (_hbig : m.length * 8 ≤ 140737488351232) (ht : 0 ≤ t ∧ t < (m.length : Int)) (hk : 4 < k) :
    Calls Try.prog 38 #[v, ov k t a b] w (RDo w v m k t a b) := by
  have GM := hide h
  obtain ⟨A, c, rfl, hc1, hc2, -⟩ := h
  unfold maxLen at hc2
  have hk1 : 1 ≤ k := by omega
  obtain ⟨w1, e1, hb1, hs1, c0, c1, c2, c3⟩ := box4 w (.int .i64 k) (.int .i64 t) (.int .u64 a) (.int .u64 b) 78
  have HE := hide e1
  clear e1 hs1
  go_enter Try.func38, Try.ntmps38
  go_wp2
  go_ret3
  obtain ⟨f1, f2, f3⟩ := at_off (m := m) (o := ⟨k, t, a, b⟩) (by simp only; omega)
  exact RDo.kept GM.out (by rw [HE.out]; exact hb1) f3 f1 f2
set_option maxHeartbeats 2000000 in
theorem rDo_load (v : Value) (m : List Int) (t a b : Int) (w : World) (h : Cells w v m) (_hbig : m.length * 8 ≤ 140737488351232) (ht : 0 ≤ t ∧ t < (m.length : Int)) :
    Calls Try.prog 38 #[v, ov 1 t a b] w (RDo w v m 1 t a b) := by
  have GM := hide h
  obtain ⟨A, c, rfl, hc1, hc2, -⟩ := h
  unfold maxLen at hc2
  obtain ⟨j, rfl⟩ : ∃ j : Nat, t = j := ⟨t.toNat, by omega⟩
  have hj : j < m.length := by omega
  obtain ⟨y, hy⟩ : ∃ y, m[j] = y := ⟨_, rfl⟩
  obtain ⟨r0, o0, rfl, -, y0⟩ := cells_at GM.out (k := j) hj
  rw [hy] at y0
  have HF := hide (load_f hj hy a b)
  clear hy
  obtain ⟨w1, e1, hb1, hs1, c0, c1, c2, c3⟩ := box4 w (.int .i64 1) (.int .i64 j) (.int .u64 a) (.int .u64 b) 78
  have HE := hide e1
  clear e1 hs1
  have y0 := keepc hb1 y0
  have y0a : (w.alloc (.cells #[.int .i64 1, .int .i64 j, .int .u64 a, .int .u64 b] 78)).cell? ⟨r0, o0 + j, none⟩ = some (.int .u64 y) := by rw [HE.out]; exact y0
  have d0 : decide ((j : Int) < 0) = false := decide_eq_false (by omega)
  have d1 : decide (m.length ≤ j) = false := decide_eq_false (by omega)
  go_enter Try.func38, Try.ntmps38
  go_wp2
  go_ret3
  exact RDo.kept GM.out (by rw [HE.out]; exact hb1) HF.out.1 HF.out.2.1 HF.out.2.2
set_option maxHeartbeats 2000000 in
theorem rDo_no (v : Value) (m : List Int) (t a b : Int) (w : World) (h : Cells w v m) (_hbig : m.length * 8 ≤ 140737488351232) (ht : 0 ≤ t ∧ t < (m.length : Int)) (hq : m[t.toNat]? ≠ some a) :
    Calls Try.prog 38 #[v, ov 3 t a b] w (RDo w v m 3 t a b) := by
  have GM := hide h
  obtain ⟨A, c, rfl, hc1, hc2, -⟩ := h
  unfold maxLen at hc2
  obtain ⟨j, rfl⟩ : ∃ j : Nat, t = j := ⟨t.toNat, by omega⟩
  have hj : j < m.length := by omega
  obtain ⟨y, hy⟩ : ∃ y, m[j] = y := ⟨_, rfl⟩
  obtain ⟨r0, o0, rfl, -, y0⟩ := cells_at GM.out (k := j) hj
  rw [hy] at y0
  have hya : y ≠ a := by intro e; apply hq; simp [List.getElem?_eq_getElem hj, hy, e]
  have HF := hide (dswap_no (b := b) hj hy hya)
  have q : (y != a) = true := by simp [hya]
  clear hq hya hy
  obtain ⟨w1, e1, hb1, hs1, c0, c1, c2, c3⟩ := box4 w (.int .i64 3) (.int .i64 j) (.int .u64 a) (.int .u64 b) 78
  have HE := hide e1
  clear e1 hs1
  have y0 := keepc hb1 y0
  have y0a : (w.alloc (.cells #[.int .i64 3, .int .i64 j, .int .u64 a, .int .u64 b] 78)).cell? ⟨r0, o0 + j, none⟩ = some (.int .u64 y) := by rw [HE.out]; exact y0
  have d0 : decide ((j : Int) < 0) = false := decide_eq_false (by omega)
  have d1 : decide (m.length ≤ j) = false := decide_eq_false (by omega)
  go_enter Try.func38, Try.ntmps38
  go_wp2
  go_ret3
  exact RDo.kept GM.out (by rw [HE.out]; exact hb1) HF.out.1 HF.out.2.1 HF.out.2.2
set_option maxHeartbeats 2000000 in
theorem rDo_store (v : Value) (m : List Int) (t a b : Int) (w : World) (h : Cells w v m) (hbig : m.length * 8 ≤ 140737488351232) (ht : 0 ≤ t ∧ t < (m.length : Int)) :
    Calls Try.prog 38 #[v, ov 2 t a b] w (RDo w v m 2 t a b) := by
  have GM := hide h
  obtain ⟨A, c, rfl, hc1, hc2, -⟩ := h
  unfold maxLen at hc2
  obtain ⟨j, rfl⟩ : ∃ j : Nat, t = j := ⟨t.toNat, by omega⟩
  have hj : j < m.length := by omega
  obtain ⟨y, hy⟩ : ∃ y, m[j] = y := ⟨_, rfl⟩
  obtain ⟨r0, o0, rfl, -, y0⟩ := cells_at GM.out (k := j) hj
  rw [hy] at y0
  have HF := hide (store_f hj hy a b)
  have HY := hide hy
  clear hy
  obtain ⟨w1, e1, hb1, hs1, c0, c1, c2, c3⟩ := box4 w (.int .i64 2) (.int .i64 j) (.int .u64 a) (.int .u64 b) 78
  have HE := hide e1
  clear e1 hs1
  have y0 := keepc hb1 y0
  have y0a : (w.alloc (.cells #[.int .i64 2, .int .i64 j, .int .u64 a, .int .u64 b] 78)).cell? ⟨r0, o0 + j, none⟩ = some (.int .u64 y) := by rw [HE.out]; exact y0
  have d0 : decide ((j : Int) < 0) = false := decide_eq_false (by omega)
  have d1 : decide (m.length ≤ j) = false := decide_eq_false (by omega)
  go_enter Try.func38, Try.ntmps38
  obtain ⟨i0, hi, hz0, hz1, hz2⟩ := info_parts infoU
  have GM1 := hide (GM.out.below hb1)
  go_wp2_with (at_builtin; rw [HE.out]; refine wpList_append_sl _ rfl (.const (.slice none 0 0)) _ 22 rfl w1.heap.size 24 i0 (.int .u64 0) 1 8 Try.underlying22 hi hz0 hz1 hz2 rfl (by decide) _ _ _ rfl (World.ownsRow_nil _ _ _ _) _ m rfl GM1.out uc_len (fun _ u hu => by simp [uc] at hu; subst hu; rfl) (by unfold maxLen; omega) (by omega) (by simp) ?_)
  intro v5 w2 hown hb2
  have hown : w2.ownsRow w1.heap.size 24 1 v5 m.length (m.flatMap uc) := by simpa using hown
  obtain ⟨g, cc, rfl, hg, -⟩ := hown.form (by omega)
  have hcc : m.length ≤ cc ∧ cc ≤ 9223372036854775807 := by
    obtain ⟨A5, c5, e5, hd1, hd2⟩ := own_form hown
    injection e5 with _ _ e5
    subst e5
    unfold maxLen at hd2
    omega
  obtain ⟨hd1, hd2⟩ := hcc
  have HO := hide hown
  have x0 := hown.cellAt j (by omega)
  rw [uc_get m j hj] at x0
  have z0 := hown.frozenAt j
  have c0 := keepc hb2 c0
  have c1 := keepc hb2 c1
  have c2 := keepc hb2 c2
  have c3 := keepc hb2 c3
  clear hown
  go_wp2
  go_ret3
  exact RDo.new hb1 HO.out hb2 HF.out.1 HF.out.2.1 HF.out.2.2
set_option maxHeartbeats 2000000 in
theorem rDo_yes (v : Value) (m : List Int) (t a b : Int) (w : World) (h : Cells w v m) (hbig : m.length * 8 ≤ 140737488351232) (ht : 0 ≤ t ∧ t < (m.length : Int)) (hq : m[t.toNat]? = some a) :
    Calls Try.prog 38 #[v, ov 3 t a b] w (RDo w v m 3 t a b) := by
  have GM := hide h
  obtain ⟨A, c, rfl, hc1, hc2, -⟩ := h
  unfold maxLen at hc2
  obtain ⟨j, rfl⟩ : ∃ j : Nat, t = j := ⟨t.toNat, by omega⟩
  have hj : j < m.length := by omega
  obtain ⟨y, hy⟩ : ∃ y, m[j] = y := ⟨_, rfl⟩
  obtain ⟨r0, o0, rfl, -, y0⟩ := cells_at GM.out (k := j) hj
  rw [hy] at y0
  have hya : y = a := by simpa [List.getElem?_eq_getElem hj, hy] using hq
  have HF := hide (show mF m ⟨3, (j : Int), a, b⟩ = m.set j b ∧ vF m ⟨3, (j : Int), a, b⟩ = y ∧ okF m ⟨3, (j : Int), a, b⟩ = true by subst hya; exact dswap_yes hj hy)
  have q : (y != a) = false := by simp [hya]
  clear hq hya hy
  obtain ⟨w1, e1, hb1, hs1, c0, c1, c2, c3⟩ := box4 w (.int .i64 3) (.int .i64 j) (.int .u64 a) (.int .u64 b) 78
  have HE := hide e1
  clear e1 hs1
  have y0 := keepc hb1 y0
  have y0a : (w.alloc (.cells #[.int .i64 3, .int .i64 j, .int .u64 a, .int .u64 b] 78)).cell? ⟨r0, o0 + j, none⟩ = some (.int .u64 y) := by rw [HE.out]; exact y0
  have d0 : decide ((j : Int) < 0) = false := decide_eq_false (by omega)
  have d1 : decide (m.length ≤ j) = false := decide_eq_false (by omega)
  go_enter Try.func38, Try.ntmps38
  obtain ⟨i0, hi, hz0, hz1, hz2⟩ := info_parts infoU
  have GM1 := hide (GM.out.below hb1)
  go_wp2_with (at_builtin; rw [HE.out]; refine wpList_append_sl _ rfl (.const (.slice none 0 0)) _ 22 rfl w1.heap.size 24 i0 (.int .u64 0) 1 8 Try.underlying22 hi hz0 hz1 hz2 rfl (by decide) _ _ _ rfl (World.ownsRow_nil _ _ _ _) _ m rfl GM1.out uc_len (fun _ u hu => by simp [uc] at hu; subst hu; rfl) (by unfold maxLen; omega) (by omega) (by simp) ?_)
  intro v5 w2 hown hb2
  have hown : w2.ownsRow w1.heap.size 24 1 v5 m.length (m.flatMap uc) := by simpa using hown
  obtain ⟨g, cc, rfl, hg, -⟩ := hown.form (by omega)
  have hcc : m.length ≤ cc ∧ cc ≤ 9223372036854775807 := by
    obtain ⟨A5, c5, e5, hd1, hd2⟩ := own_form hown
    injection e5 with _ _ e5
    subst e5
    unfold maxLen at hd2
    omega
  obtain ⟨hd1, hd2⟩ := hcc
  have HO := hide hown
  have x0 := hown.cellAt j (by omega)
  rw [uc_get m j hj] at x0
  have z0 := hown.frozenAt j
  have c0 := keepc hb2 c0
  have c1 := keepc hb2 c1
  have c2 := keepc hb2 c2
  have c3 := keepc hb2 c3
  clear hown
  go_wp2
  go_ret3
  exact RDo.new hb1 HO.out hb2 HF.out.1 HF.out.2.1 HF.out.2.2
set_option maxHeartbeats 2000000 in
theorem rDo_add (v : Value) (m : List Int) (t a b : Int) (w : World) (h : Cells w v m) (hbig : m.length * 8 ≤ 140737488351232) (ht : 0 ≤ t ∧ t < (m.length : Int)) :
    Calls Try.prog 38 #[v, ov 4 t a b] w (RDo w v m 4 t a b) := by
  have GM := hide h
  obtain ⟨A, c, rfl, hc1, hc2, -⟩ := h
  unfold maxLen at hc2
  obtain ⟨j, rfl⟩ : ∃ j : Nat, t = j := ⟨t.toNat, by omega⟩
  have hj : j < m.length := by omega
  obtain ⟨y, hy⟩ : ∃ y, m[j] = y := ⟨_, rfl⟩
  obtain ⟨r0, o0, rfl, -, y0⟩ := cells_at GM.out (k := j) hj
  rw [hy] at y0
  have HF := hide (add_f hj hy a b)
  obtain ⟨s, hs⟩ : ∃ s, addU y a = s := ⟨_, rfl⟩
  rw [hs] at HF
  have hw : IntKind.u64.wrap (y + a) = s := by rw [wrap_u]; exact hs
  clear hy hs
  obtain ⟨w1, e1, hb1, hs1, c0, c1, c2, c3⟩ := box4 w (.int .i64 4) (.int .i64 j) (.int .u64 a) (.int .u64 b) 78
  have HE := hide e1
  clear e1 hs1
  have y0 := keepc hb1 y0
  have y0a : (w.alloc (.cells #[.int .i64 4, .int .i64 j, .int .u64 a, .int .u64 b] 78)).cell? ⟨r0, o0 + j, none⟩ = some (.int .u64 y) := by rw [HE.out]; exact y0
  have d0 : decide ((j : Int) < 0) = false := decide_eq_false (by omega)
  have d1 : decide (m.length ≤ j) = false := decide_eq_false (by omega)
  go_enter Try.func38, Try.ntmps38
  obtain ⟨i0, hi, hz0, hz1, hz2⟩ := info_parts infoU
  have GM1 := hide (GM.out.below hb1)
  go_wp2_with (at_builtin; rw [HE.out]; refine wpList_append_sl _ rfl (.const (.slice none 0 0)) _ 22 rfl w1.heap.size 24 i0 (.int .u64 0) 1 8 Try.underlying22 hi hz0 hz1 hz2 rfl (by decide) _ _ _ rfl (World.ownsRow_nil _ _ _ _) _ m rfl GM1.out uc_len (fun _ u hu => by simp [uc] at hu; subst hu; rfl) (by unfold maxLen; omega) (by omega) (by simp) ?_)
  intro v5 w2 hown hb2
  have hown : w2.ownsRow w1.heap.size 24 1 v5 m.length (m.flatMap uc) := by simpa using hown
  obtain ⟨g, cc, rfl, hg, -⟩ := hown.form (by omega)
  have hcc : m.length ≤ cc ∧ cc ≤ 9223372036854775807 := by
    obtain ⟨A5, c5, e5, hd1, hd2⟩ := own_form hown
    injection e5 with _ _ e5
    subst e5
    unfold maxLen at hd2
    omega
  obtain ⟨hd1, hd2⟩ := hcc
  have HO := hide hown
  have x0 := hown.cellAt j (by omega)
  rw [uc_get m j hj] at x0
  have z0 := hown.frozenAt j
  have c0 := keepc hb2 c0
  have c1 := keepc hb2 c1
  have c2 := keepc hb2 c2
  have c3 := keepc hb2 c3
  clear hown
  go_wp2
  go_ret3
  exact RDo.new hb1 HO.out hb2 HF.out.1 HF.out.2.1 HF.out.2.2
theorem rDo_any (v : Value) (m : List Int) (k t a b : Int) (w : World) (h : Cells w v m) (hbig : m.length * 8 ≤ 140737488351232) :
    Calls Try.prog 38 #[v, ov k t a b] w (RDo w v m k t a b) := by
  by_cases h1 : t < 0
  · exact rDo_neg v m k t a b w h hbig h1
  · by_cases h2 : (m.length : Int) ≤ t
    · exact rDo_far v m k t a b w h hbig h2 (by omega)
    · have ht : 0 ≤ t ∧ t < (m.length : Int) := by omega
      by_cases h3 : k < 1
      · exact rDo_low v m k t a b w h hbig ht h3
      · by_cases h4 : 4 < k
        · exact rDo_high v m k t a b w h hbig ht h4
        · obtain rfl | rfl | rfl | rfl : k = 1 ∨ k = 2 ∨ k = 3 ∨ k = 4 := by omega
          · exact rDo_load v m t a b w h hbig ht
          · exact rDo_store v m t a b w h hbig ht
          · by_cases hq : m[t.toNat]? = some a
            · exact rDo_yes v m t a b w h hbig ht hq
            · exact rDo_no v m t a b w h hbig ht hq
          · exact rDo_add v m t a b w h hbig ht
end Go.Proofs.Ytpffknlbffnafaa
