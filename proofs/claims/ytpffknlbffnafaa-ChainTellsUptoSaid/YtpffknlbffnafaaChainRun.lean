/- Layer chain: a machine that steps alone, so often. -/
import Derived.Test.YtpffknlbffnafaaChainStepAll
import Derived.Test.YtpffknlbffnafaaChainR
import Derived.Test.YtpffknlbffnafaaChainU
namespace Go.Proofs.Ytpffknlbffnafaa.ch
open Go.RowKit

theorem cstep_len (m : List Int) (d : Cm) : (cstepF m d).1.length = m.length := (cstep_one (m := m) (c := d)).1.len
/-- Step, with named values -/
theorem Step_c (k p s c b t x u : Int) (v : Value) (m : List Int) (w : World) (h : Cells w v m) (hbig : m.length * 8 ≤ 140737488351232) (m1 : List Int) (k1 p1 s1 c1 b1 t1 x1 u1 : Int)
    (hr : cstepF m ⟨k, p, s, c, b, t, x, u⟩ = (m1, ⟨k1, p1, s1, c1, b1, t1, x1, u1⟩)) (n : Nat) (hn : m1.length = n) :
    Calls Try.prog 6 #[v, mvv k p s c b t x u] w fun e w' => ∃ A c, e = .returned (.tuple #[.slice A n c, mvv k1 p1 s1 c1 b1 t1 x1 u1]) ∧ (n ≤ c ∧ c ≤ 9223372036854775807) ∧ Cells w' (.slice A n c) m1 ∧ Below w.heap.size w w' ∧ ∀ y, (Value.slice A n c).ownBlock = some y → w.heap.size ≤ y := by
  subst hn
  refine (Step_any k p s c b t x u v m w h hbig).mono ?_
  rw [hr]
  rintro e w' ⟨A, c, rfl, h1, h2, h3, h4, h5⟩
  exact ⟨A, c, rfl, ⟨h1, h2⟩, h3, h4, h5⟩

structure RunAt (w : World) (d0 : Cm) (m0 : List Int) (most : Nat) (n : Nat) (A : Option Addr) (L c : Nat) (m : List Int) (d : Cm) (wr : World) : Prop where
  box : Mb wr w.heap.size d
  res : Mb wr (w.heap.size + 1) ⟨0, 0, 0, 0, 0, 0, 0, 0⟩
  mem : Cells wr (.slice A L c) m
  ne : 0 < L → ∀ y, (Value.slice A L c).ownBlock = some y → y ≠ w.heap.size ∧ y ≠ w.heap.size + 1
  below : Below w.heap.size w wr
  len : m.length = L
  run : runC most m0 d0 = ((runC (most - n) m d).1, (runC (most - n) m d).2.1, n + (runC (most - n) m d).2.2)

/-- what a run leaves -/
def RunEnd (w : World) (L : Nat) (r : List Int × Cm × Nat) (e : Ending) (w' : World) : Prop :=
  ∃ A c, e = .returned (.tuple #[.slice A L c, mv r.2.1, .int .i64 (r.2.2 : Nat)]) ∧ (L ≤ c ∧ c ≤ 9223372036854775807) ∧ r.1.length = L ∧ Cells w' (.slice A L c) r.1 ∧ Below w.heap.size w w'

theorem RunAt.fin {w wr : World} {d0 : Cm} {m0 m : List Int} {most n L c : Nat} {A : Option Addr} {k p s q b t x u : Int} (h : RunAt w d0 m0 most n A L c m ⟨k, p, s, q, b, t, x, u⟩ wr) (hn : n = most ∨ u ≠ 0) (hc : L ≤ c ∧ c ≤ 9223372036854775807) :
    RunEnd w L (runC most m0 d0) (.returned (.tuple #[.slice A L c, mvv k p s q b t x u, .int .i64 (n : Nat)])) (set8 wr (w.heap.size + 1) k p s q b t x u).drew := by
  have hr : runC most m0 d0 = (m, ⟨k, p, s, q, b, t, x, u⟩, n) := by
    rw [h.run]
    rcases hn with rfl | hu
    · rw [Nat.sub_self]; rfl
    · rw [runC_stop _ _ _ (by simpa using hu)]; rfl
  unfold RunEnd
  rw [hr]
  exact ⟨A, c, rfl, hc, h.len, cells_drew (cells_set8 h.mem fun h0 y hy => (h.ne (by rw [← h.len]; exact h0) y hy).2), (set8_below h.below (by omega)).drew⟩
theorem RunAt.next {w wr w5 : World} {d0 : Cm} {m0 m m1 : List Int} {most n L c c1 : Nat} {A A1 : Option Addr} {k p s q b t x k1 p1 s1 q1 b1 t1 x1 u1 : Int} (h : RunAt w d0 m0 most n A L c m ⟨k, p, s, q, b, t, x, 0⟩ wr) (hn : n < most)
    (hr : cstepF m ⟨k, p, s, q, b, t, x, 0⟩ = (m1, ⟨k1, p1, s1, q1, b1, t1, x1, u1⟩)) (hC : Cells w5 (.slice A1 L c1) m1) (hb : Below wr.heap.size wr w5) (hnw : ∀ y, (Value.slice A1 L c1).ownBlock = some y → wr.heap.size ≤ y) :
    RunAt w d0 m0 most (n + 1) A1 L c1 m1 ⟨k1, p1, s1, q1, b1, t1, x1, u1⟩ (set8 w5 w.heap.size k1 p1 s1 q1 b1 t1 x1 u1) := by
  have hlt := h.res.lt
  have hl1 : m1.length = L := by
    have e := cstep_len m ⟨k, p, s, q, b, t, x, 0⟩
    rw [hr] at e
    exact e.trans h.len
  have h5 := bcall h.below hb
  refine ⟨(h.box.below hb).set8, (h.res.below hb).far (by omega), cells_set8 hC fun _ y hy => by have := hnw y hy; omega, fun _ y hy => by have := hnw y hy; omega, set8_below h5 (Nat.le_refl _), hl1, ?_⟩
  rw [h.run]
  have e : most - n = (most - (n + 1)) + 1 := by omega
  rw [e, runC, if_pos rfl, hr]
  simp only [Prod.mk.injEq, true_and]
  omega
theorem RunAt.start {w w1 : World} {k p s q b t x u : Int} {m : List Int} {A : Option Addr} {c : Nat} (most : Nat) (h : Cells w (.slice A m.length c) m) (hb : Below w.heap.size w w1) (h1 : Mb w1 w.heap.size ⟨k, p, s, q, b, t, x, u⟩) (h2 : Mb w1 (w.heap.size + 1) ⟨0, 0, 0, 0, 0, 0, 0, 0⟩) :
    RunAt w ⟨k, p, s, q, b, t, x, u⟩ m most 0 A m.length c m ⟨k, p, s, q, b, t, x, u⟩ w1 :=
  ⟨h1, h2, h.below hb, fun h0 y hy => by
    obtain ⟨b0, off0, e0, hlt, -⟩ := cells_at h h0
    subst e0
    simp only [Value.ownBlock, Option.some.injEq] at hy
    omega, hb, rfl, by simp⟩

set_option maxRecDepth 100000 in
set_option maxHeartbeats 4000000 in
theorem run_any (k p s q b t x u : Int) (v : Value) (m : List Int) (w : World) (h : Cells w v m) (hbig : m.length * 8 ≤ 140737488351232) (most : Nat) (hmost : most ≤ 1000) :
    Calls Try.prog 23 #[v, mvv k p s q b t x u, .int .i64 most] w (RunEnd w m.length (runC most m ⟨k, p, s, q, b, t, x, u⟩)) := by
  obtain ⟨w1, e1, hb1, hs1, M1, R1⟩ := box_two w k p s q b t x u
  have HE := hide e1
  obtain ⟨A, c, rfl, hc1, hc2⟩ := cells_form' h
  have HST := hide (RunAt.start most h hb1 M1 R1)
  obtain ⟨L, hL⟩ : ∃ L, m.length = L := ⟨_, rfl⟩
  rw [hL] at HST hc1 hbig
  rw [hL]
  obtain ⟨RR, hRR⟩ : ∃ RR, RunEnd w L (runC most m ⟨k, p, s, q, b, t, x, u⟩) = RR := ⟨_, rfl⟩
  have HRR := hide hRR
  rw [hRR]
  obtain ⟨d0, hd0⟩ : ∃ d0, d0 = (⟨k, p, s, q, b, t, x, u⟩ : Cm) := ⟨_, rfl⟩
  clear e1 h hs1 M1 R1 hb1 hL hRR hd0
  go_enter Try.func23, Try.ntmps23
  go_wp2
  go_loopw [0, 9] (fun vs i wr => ∃ (n : Nat) (A' : Option Addr) (c' : Nat) (m' : List Int) (k' p' s' q' b' t' x' u' : Int), n ≤ most ∧ i = .int .i64 n ∧ vs = .slice A' L c' ∧ (L ≤ c' ∧ c' ≤ 9223372036854775807) ∧ Hid (RunAt w ⟨k, p, s, q, b, t, x, u⟩ m most n A' L c' m' ⟨k', p', s', q', b', t', x', u'⟩ wr)) (fun _ i _ => most - (Go.RowKit.intOf i).toNat)
  case atStart =>
    rw [HE.out]
    exact ⟨0, A, c, m, k, p, s, q, b, t, x, u, Nat.zero_le _, rfl, rfl, ⟨hc1, hc2⟩, HST⟩
  case round =>
    obtain ⟨n, A', c', m', k', p', s', q', b', t', x', u', hn, rfl, rfl, ⟨hd1, hd2⟩, HR⟩ := hrel
    obtain ⟨a0, a1, a2, a3, a4, a5, a6, a7⟩ := HR.out.box.cells
    obtain ⟨z0, z1, z2, z3, z4, z5, z6, z7⟩ := HR.out.res.cells
    obtain ⟨f0, f1, f2, f3, f4, f5, f6, f7⟩ := HR.out.res.unfs
    by_cases hlt : n < most
    · by_cases hu : u' = 0
      · subst hu
        obtain ⟨r, hr⟩ : ∃ r, cstepF m' ⟨k', p', s', q', b', t', x', 0⟩ = r := ⟨_, rfl⟩
        obtain ⟨m1, ⟨k1, p1, s1, q1, b1, t1, x1, u1⟩⟩ := r
        have HSR := hide hr
        have HL1 := hide (show m1.length = L by
          have e := cstep_len m' ⟨k', p', s', q', b', t', x', 0⟩
          rw [hr] at e
          exact e.trans HR.out.len)
        have HBG := hide (show m'.length * 8 ≤ 140737488351232 by rw [HR.out.len]; exact hbig)
        clear hr z0 z1 z2 z3 z4 z5 z6 z7 f0 f1 f2 f3 f4 f5 f6 f7
        go_wp2_with fail
        (with_reducible refine (Step_c k' p' s' q' b' t' x' 0 _ m' _ HR.out.mem HBG.out m1 k1 p1 s1 q1 b1 t1 x1 u1 HSR.out L HL1.out).mono ?_)
        rintro e w5 ⟨A1, c1, rfl, ⟨hg1, hg2⟩, hC, hb, hnw⟩
        have HN := hide (HR.out.next hlt HSR.out hC hb hnw)
        have HM5 := hide (HR.out.box.below hb)
        clear a0 a1 a2 a3 a4 a5 a6 a7 hC hb hnw
        obtain ⟨a0, a1, a2, a3, a4, a5, a6, a7⟩ := HM5.out.cells
        obtain ⟨f0, f1, f2, f3, f4, f5, f6, f7⟩ := HM5.out.unfs
        go_wp2
        go_roundw
        case rel => exact ⟨n + 1, A1, c1, m1, k1, p1, s1, q1, b1, t1, x1, u1, by omega, by go_num, rfl, ⟨hg1, hg2⟩, HN⟩
        case measure => simp [Go.RowKit.intOf]; omega
      · have q0 : (u' == 0) = false := by rw [beq_eq_false_iff_ne]; exact hu
        have HF := hide (HR.out.fin (.inr hu) ⟨hd1, hd2⟩)
        clear hu
        go_wp2
        go_region
        all_goals
          go_wp2
          rw [← HRR.out]
          exact bodyPost_ret (v := .tuple #[.slice A' L c', mvv k' p' s' q' b' t' x' u', .int .i64 (n : Nat)]) (by simp [results, Try.results23, go_sem, z0, z1, z2, z3, z4, z5, z6, z7]) rfl HF.out
    · have HF := hide (HR.out.fin (.inl (by omega)) ⟨hd1, hd2⟩)
      go_wp2
      go_region
      all_goals
        go_wp2
        rw [← HRR.out]
        exact bodyPost_ret (v := .tuple #[.slice A' L c', mvv k' p' s' q' b' t' x' u', .int .i64 (n : Nat)]) (by simp [results, Try.results23, go_sem, z0, z1, z2, z3, z4, z5, z6, z7]) rfl HF.out
end Go.Proofs.Ytpffknlbffnafaa.ch
