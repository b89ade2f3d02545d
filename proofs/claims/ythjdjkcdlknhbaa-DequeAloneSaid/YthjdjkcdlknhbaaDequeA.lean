/- Layer deque: alone it is a list. No program in this text. -/
import Derived.Test.YthjdjkcdlknhbaaDequeR
namespace Go.Proofs.Ythjdjkcdlknhbaa

theorem run_go {k : Nat} {m m' M : List Int} {d d' D : Mc} {N : Nat} (h0 : d.out = 0) (hs : stepF m d = (m', d')) (hr : runF k m' d' = (M, D, N)) : runF (k + 1) m d = (M, D, N + 1) := by
  rw [runF, if_pos h0, hs]
  simp only [hr]

/-- nobody steps: from t on, below bt -/
structure Alone (cap hi : Nat) (m : List Int) (t bt : Nat) (ps : List Int) : Prop where
  mem : m = (t : Int) :: (bt : Int) :: ps
  len : ps.length = cap
  c1 : 1 ≤ cap
  c2 : cap ≤ 64
  t1 : 1 ≤ t
  tb : t ≤ bt
  rm : bt ≤ t + cap
  hb : bt ≤ hi
  vals : ∀ v ∈ ps, 0 ≤ v ∧ v ≤ hi
section
variable {cap hi t bt : Nat} {m ps : List Int} {x : Int}
theorem Alone.up (h : Alone cap hi m t bt ps) : Alone cap (hi + 1) m t bt ps :=
  { h with hb := Nat.le_succ_of_le h.hb, vals := fun v hv => by have := h.vals v hv; omega }
theorem w64_dn (h : 1 ≤ bt) (h2 : bt ≤ 1000001) : w64 ((bt : Int) - 1) = ((bt - 1 : Nat) : Int) := by rw [w64_small (by omega) (by omega)]; omega
theorem w64_up (h2 : t ≤ 1000001) : w64 ((t : Int) + 1) = ((t + 1 : Nat) : Int) := by rw [w64_small (by omega) (by omega)]; rfl
theorem alone_push (h : Alone cap hi m t bt ps) (hhh : hi ≤ 1000000) (hr : bt < t + cap) (h0 : 0 ≤ x) (h1 : x ≤ hi + 1) :
    ∃ m', runF 20 m (startF 1 0 cap x) = (m', ⟨1, 4, 0, cap, bt, t, x, 1⟩, 4) ∧ Alone cap (hi + 1) m' t (bt + 1) (ps.set (bt % ps.length) x) ∧ its (ps.set (bt % ps.length) x) t (bt + 1) = its ps t bt ++ [x] := by
  have hm := h.mem
  have hl := h.len
  have hc1 := h.c1
  have hc2 := h.c2
  have htb := h.tb
  have hb := h.hb
  have hw : w64 ((bt : Int) - t) = (bt : Int) - t := w64_small (by omega) (by omega)
  have hwx : w64 x = x := w64_small (by omega) (by omega)
  have hw1 := w64_up (t := bt) (by omega)
  have s0 : stepF m (startF 1 0 cap x) = (m, ⟨1, 1, 0, cap, bt, 0, x, 0⟩) := by rw [hm]; simp [startF, stepF, pushF, bottom0, load_bot]
  have s1 : stepF m ⟨1, 1, 0, cap, bt, 0, x, 0⟩ = (m, ⟨1, 2, 0, cap, bt, t, x, 0⟩) := by
    rw [hm]; simp only [stepF, pushF, load_top, cap0 _ _ _ _ _ _ _ hc1, hw, if_neg (show ¬ (cap : Int) ≤ (bt : Int) - t by omega)]; simp
  have s2 : stepF m ⟨1, 2, 0, cap, bt, t, x, 0⟩ = ((t : Int) :: (bt : Int) :: ps.set (bt % ps.length) x, ⟨1, 3, 0, cap, bt, t, x, 0⟩) := by
    rw [hm]; simp [stepF, pushF, store_val _ _ _ _ _ _ _ hl hc1 hc2, hwx]
  have s3 : stepF ((t : Int) :: (bt : Int) :: ps.set (bt % ps.length) x) ⟨1, 3, 0, cap, bt, t, x, 0⟩ = ((t : Int) :: ((bt + 1 : Nat) : Int) :: ps.set (bt % ps.length) x, ⟨1, 4, 0, cap, bt, t, x, 1⟩) := by
    simp only [stepF, pushF, bottom0, store_bot, hw1]; simp
  refine ⟨_, run_go rfl s0 (run_go rfl s1 (run_go rfl s2 (run_go rfl s3 (run_stop _ _ _ (by simp))))), ⟨rfl, by rw [List.length_set]; exact hl, hc1, hc2, h.t1, by omega, by omega, by omega, fun v hv => ?_⟩, ?_⟩
  · rcases List.mem_or_eq_of_mem_set hv with hv | rfl
    · have := h.vals v hv; omega
    · omega
  · have e1 : valP (ps.set (bt % ps.length) x) bt = x := val_set_eq bt x (by omega)
    rw [its_snoc htb, its_set x (by omega), e1]
theorem alone_full (h : Alone cap hi m t bt ps) (_hhh : hi ≤ 1000000) (hr : bt = t + cap) :
    runF 20 m (startF 1 0 cap x) = (m, ⟨1, 2, 0, cap, bt, t, x, 3⟩, 2) := by
  have hm := h.mem
  have hc1 := h.c1
  have hc2 := h.c2
  have hb := h.hb
  have hw : w64 ((bt : Int) - t) = (bt : Int) - t := w64_small (by omega) (by omega)
  have s0 : stepF m (startF 1 0 cap x) = (m, ⟨1, 1, 0, cap, bt, 0, x, 0⟩) := by rw [hm]; simp [startF, stepF, pushF, bottom0, load_bot]
  have s1 : stepF m ⟨1, 1, 0, cap, bt, 0, x, 0⟩ = (m, ⟨1, 2, 0, cap, bt, t, x, 3⟩) := by
    rw [hm]; simp only [stepF, pushF, load_top, cap0 _ _ _ _ _ _ _ hc1, hw, if_pos (show (cap : Int) ≤ (bt : Int) - t by omega)]; simp
  exact run_go rfl s0 (run_go rfl s1 (run_stop _ _ _ (by simp)))
/-- pop: of none -/
theorem alone_pop_none (h : Alone cap hi m t bt ps) (hhh : hi ≤ 1000000) (hr : bt = t) :
    ∃ d n, runF 20 m (startF 2 0 cap x) = (m, d, n) ∧ d.out = 2 ∧ d.x = 0 ∧ d.kind = 2 := by
  subst hr
  have hm := h.mem
  have hb := h.hb
  have ht1 := h.t1
  have hw1 := w64_dn (bt := bt) ht1 (by omega)
  have hs : s64 ((bt : Int) - ((bt - 1 : Nat) : Int)) = 1 := by rw [s64_small (by omega) (by omega)]; omega
  have s0 : stepF m (startF 2 0 cap x) = (m, ⟨2, 1, 0, cap, bt, 0, x, 0⟩) := by rw [hm]; simp [startF, stepF, popF, bottom0, load_bot]
  have s1 : stepF m ⟨2, 1, 0, cap, bt, 0, x, 0⟩ = ((bt : Int) :: ((bt - 1 : Nat) : Int) :: ps, ⟨2, 2, 0, cap, bt, 0, x, 0⟩) := by
    rw [hm]; simp only [stepF, popF, bottom0, store_bot, hw1]; simp
  have s2 : stepF ((bt : Int) :: ((bt - 1 : Nat) : Int) :: ps) ⟨2, 2, 0, cap, bt, 0, x, 0⟩ = ((bt : Int) :: ((bt - 1 : Nat) : Int) :: ps, ⟨2, 5, 0, cap, bt, bt, x, 0⟩) := by
    simp only [stepF, popF, load_top, hw1, hs]; simp
  have s5 : stepF ((bt : Int) :: ((bt - 1 : Nat) : Int) :: ps) ⟨2, 5, 0, cap, bt, bt, x, 0⟩ = (m, ⟨2, 6, 0, cap, bt, bt, 0, 2⟩) := by
    rw [hm]; simp only [stepF, popF, bottom0, store_bot]; simp
  exact ⟨_, _, run_go rfl s0 (run_go rfl s1 (run_go rfl s2 (run_go rfl s5 (run_stop _ _ _ (by simp))))), rfl, rfl, rfl⟩
/-- pop: the last one -/
theorem alone_pop (h : Alone cap hi m t bt ps) (hhh : hi ≤ 1000000) (hr : t < bt) :
    ∃ d n m' t' bt' y, runF 20 m (startF 2 0 cap x) = (m', d, n) ∧ d.out = 1 ∧ d.x = y ∧ d.kind = 2 ∧ Alone cap hi m' t' bt' ps ∧ its ps t bt = its ps t' bt' ++ [y] := by
  obtain ⟨c, rfl⟩ : ∃ c, bt = c + 1 := ⟨bt - 1, by omega⟩
  have hm := h.mem
  have hl := h.len
  have hc1 := h.c1
  have hc2 := h.c2
  have hb := h.hb
  have ht1 := h.t1
  have hrm := h.rm
  have hw1 : w64 (((c + 1 : Nat) : Int) - 1) = (c : Int) := by rw [w64_small (by omega) (by omega)]; omega
  have hwt := w64_up (t := t) (by omega)
  have hs : s64 ((t : Int) - (c : Int)) = (t : Int) - c := s64_small (by omega) (by omega)
  have hv := h.vals _ (val_mem c (show 0 < ps.length by omega))
  have hx : s64 (valP ps c) = valP ps c := s64_small (by omega) (by omega)
  have hits : its ps t (c + 1) = its ps t c ++ [valP ps c] := its_snoc (by omega)
  have s0 : stepF m (startF 2 0 cap x) = (m, ⟨2, 1, 0, cap, ((c + 1 : Nat) : Int), 0, x, 0⟩) := by rw [hm]; simp [startF, stepF, popF, bottom0, load_bot]
  have s1 : stepF m ⟨2, 1, 0, cap, ((c + 1 : Nat) : Int), 0, x, 0⟩ = ((t : Int) :: (c : Int) :: ps, ⟨2, 2, 0, cap, ((c + 1 : Nat) : Int), 0, x, 0⟩) := by
    rw [hm]; simp only [stepF, popF, bottom0, store_bot, hw1]; simp
  have s2 : stepF ((t : Int) :: (c : Int) :: ps) ⟨2, 2, 0, cap, ((c + 1 : Nat) : Int), 0, x, 0⟩ = ((t : Int) :: (c : Int) :: ps, ⟨2, 3, 0, cap, ((c + 1 : Nat) : Int), t, x, 0⟩) := by
    simp only [stepF, popF, load_top, hw1, hs, if_neg (show ¬ 0 < (t : Int) - c by omega)]; simp
  by_cases htc : t = c
  · subst htc
    have s3 : stepF ((t : Int) :: (t : Int) :: ps) ⟨2, 3, 0, cap, ((t + 1 : Nat) : Int), t, x, 0⟩ = ((t : Int) :: (t : Int) :: ps, ⟨2, 4, 0, cap, ((t + 1 : Nat) : Int), t, valP ps t, 0⟩) := by
      simp only [stepF, popF, hw1, load_val _ _ _ _ _ _ _ hl hc1 hc2, hx]; simp
    have s4 : stepF ((t : Int) :: (t : Int) :: ps) ⟨2, 4, 0, cap, ((t + 1 : Nat) : Int), t, valP ps t, 0⟩ = (((t + 1 : Nat) : Int) :: (t : Int) :: ps, ⟨2, 6, 0, cap, ((t + 1 : Nat) : Int), t, valP ps t, 0⟩) := by
      simp only [stepF, popF, hwt, (swap_yes _ _ _ _).1, (swap_yes _ _ _ _).2]; simp
    have s6 : stepF (((t + 1 : Nat) : Int) :: (t : Int) :: ps) ⟨2, 6, 0, cap, ((t + 1 : Nat) : Int), t, valP ps t, 0⟩ = (((t + 1 : Nat) : Int) :: ((t + 1 : Nat) : Int) :: ps, ⟨2, 7, 0, cap, ((t + 1 : Nat) : Int), t, valP ps t, 1⟩) := by
      simp only [stepF, popF, bottom0, store_bot]; simp
    refine ⟨_, _, _, t + 1, t + 1, valP ps t, run_go rfl s0 (run_go rfl s1 (run_go rfl s2 (run_go rfl s3 (run_go rfl s4 (run_go rfl s6 (run_stop _ _ _ (by simp))))))), rfl, rfl, rfl, ⟨rfl, hl, hc1, hc2, by omega, by omega, by omega, hb, h.vals⟩, ?_⟩
    rw [hits, its_nil (Nat.le_refl _), its_nil (Nat.le_refl _)]
  · have s3 : stepF ((t : Int) :: (c : Int) :: ps) ⟨2, 3, 0, cap, ((c + 1 : Nat) : Int), t, x, 0⟩ = ((t : Int) :: (c : Int) :: ps, ⟨2, 4, 0, cap, ((c + 1 : Nat) : Int), t, valP ps c, 1⟩) := by
      simp only [stepF, popF, hw1, load_val _ _ _ _ _ _ _ hl hc1 hc2, hx, if_neg (show ¬ (t : Int) = (c : Int) by omega)]; simp
    exact ⟨_, _, _, t, c, valP ps c, run_go rfl s0 (run_go rfl s1 (run_go rfl s2 (run_go rfl s3 (run_stop _ _ _ (by simp))))), rfl, rfl, rfl, ⟨rfl, hl, hc1, hc2, ht1, by omega, by omega, by omega, h.vals⟩, hits⟩
theorem alone_steal_none (h : Alone cap hi m t bt ps) (_hhh : hi ≤ 1000000) (hr : bt = t) :
    ∃ d, runF 20 m (startF 3 0 cap x) = (m, d, 2) ∧ d.out = 2 ∧ d.kind = 3 ∧ d.x = x := by
  subst hr
  have hm := h.mem
  have s0 : stepF m (startF 3 0 cap x) = (m, ⟨3, 1, 0, cap, 0, bt, x, 0⟩) := by rw [hm]; simp [startF, stepF, stealF, load_top]
  have s1 : stepF m ⟨3, 1, 0, cap, 0, bt, x, 0⟩ = (m, ⟨3, 2, 0, cap, bt, bt, x, 2⟩) := by
    rw [hm]; simp only [stepF, stealF, bottom0, load_bot]; simp [s64]
  exact ⟨_, run_go rfl s0 (run_go rfl s1 (run_stop _ _ _ (by simp))), rfl, rfl, rfl⟩
theorem alone_steal (h : Alone cap hi m t bt ps) (hhh : hi ≤ 1000000) (hr : t < bt) :
    ∃ d m' y, runF 20 m (startF 3 0 cap x) = (m', d, 4) ∧ d.out = 1 ∧ d.x = y ∧ d.kind = 3 ∧ Alone cap hi m' (t + 1) bt ps ∧ its ps t bt = y :: its ps (t + 1) bt := by
  have hm := h.mem
  have hl := h.len
  have hc1 := h.c1
  have hc2 := h.c2
  have hb := h.hb
  have hrm := h.rm
  have hwt := w64_up (t := t) (by omega)
  have hs : s64 ((bt : Int) - t) = (bt : Int) - t := s64_small (by omega) (by omega)
  have hv := h.vals _ (val_mem t (show 0 < ps.length by omega))
  have hx : s64 (valP ps t) = valP ps t := s64_small (by omega) (by omega)
  have s0 : stepF m (startF 3 0 cap x) = (m, ⟨3, 1, 0, cap, 0, t, x, 0⟩) := by rw [hm]; simp [startF, stepF, stealF, load_top]
  have s1 : stepF m ⟨3, 1, 0, cap, 0, t, x, 0⟩ = (m, ⟨3, 2, 0, cap, bt, t, x, 0⟩) := by
    rw [hm]; simp only [stepF, stealF, bottom0, load_bot, hs, if_neg (show ¬ (bt : Int) - t ≤ 0 by omega)]; simp
  have s2 : stepF m ⟨3, 2, 0, cap, bt, t, x, 0⟩ = (m, ⟨3, 3, 0, cap, bt, t, valP ps t, 0⟩) := by
    rw [hm]; simp only [stepF, stealF, load_val _ _ _ _ _ _ _ hl hc1 hc2, hx]; simp
  have s3 : stepF m ⟨3, 3, 0, cap, bt, t, valP ps t, 0⟩ = (((t + 1 : Nat) : Int) :: (bt : Int) :: ps, ⟨3, 4, 0, cap, bt, t, valP ps t, 1⟩) := by
    rw [hm]; simp only [stepF, stealF, hwt, (swap_yes _ _ _ _).1, (swap_yes _ _ _ _).2]; simp
  exact ⟨_, _, valP ps t, run_go rfl s0 (run_go rfl s1 (run_go rfl s2 (run_go rfl s3 (run_stop _ _ _ (by simp))))), rfl, rfl, rfl, ⟨rfl, hl, hc1, hc2, by omega, by omega, by omega, hb, h.vals⟩, its_head hr⟩
theorem alone_items (h : Alone cap hi m t bt ps) (hhh : hi ≤ 1000000) {o : Mc} (ho : extF o = false) : itemsF m 0 cap o = its ps t bt := by
  have hm := h.mem
  have hl := h.len
  have hc1 := h.c1
  have hc2 := h.c2
  have hb := h.hb
  have htb := h.tb
  have hrm := h.rm
  have h0 : w64 ((bt : Int) + 0) = (bt : Int) := by rw [w64_small (by omega) (by omega)]; omega
  have hbot : loadF m (s64 (0 + 1)) = (bt : Int) := by rw [hm, show s64 (0 + 1) = 1 by simp [s64]]; exact load_bot _ _ _
  have hend : endF m 0 o = (bt : Int) := by unfold endF; rw [hbot, ho]; exact h0
  have htop : loadF m 0 = (t : Int) := by rw [hm]; exact load_top _ _ _
  have hs : s64 ((bt : Int) - t) = (bt : Int) - t := s64_small (by omega) (by omega)
  have hmx : max (cap : Int) 1 = (cap : Int) := by omega
  unfold itemsF
  simp only [htop, hend, hs, hmx]
  by_cases hle : bt ≤ t
  · rw [if_pos (.inl (by omega)), its_nil hle]
  · have hw : w64 ((bt : Int) - t) = (bt : Int) - t := w64_small (by omega) (by omega)
    rw [hw, if_neg (by omega)]
    unfold its
    rw [show ((bt : Int) - t).toNat = bt - t by omega]
    apply List.map_congr_left
    intro k hk
    rw [List.mem_range] at hk
    have hwk : w64 ((t : Int) + (k : Nat)) = ((t + k : Nat) : Int) := by rw [w64_small (by omega) (by omega)]; rfl
    have hmod := Nat.mod_lt (t + k) (show 0 < cap by omega)
    have hv := h.vals _ (val_mem (t + k) (show 0 < ps.length by omega))
    have e3 : s64 (0 + 2 + (((t + k) % cap : Nat) : Int)) = 2 + (((t + k) % cap : Nat) : Int) := place_small (by omega)
    have e4 : loadF m (2 + (((t + k) % cap : Nat) : Int)) = valP ps (t + k) := by rw [hm]; exact load_mod _ hl hc1 hc2 _ _
    rw [hwk, show (((t + k : Nat) : Int) % (cap : Int)) = (((t + k) % cap : Nat) : Int) by simp, e3, e4]
    exact s64_small (by omega) (by omega)
theorem alone_start (hc1 : 1 ≤ cap) (hc2 : cap ≤ 64) : Alone cap 1 (1 :: 1 :: List.replicate cap 0) 1 1 (List.replicate cap 0) :=
  ⟨rfl, by simp, hc1, hc2, Nat.le_refl _, Nat.le_refl _, by omega, Nat.le_refl _, fun v hv => by rw [(List.mem_replicate.1 hv).2]; decide⟩
end
end Go.Proofs.Ythjdjkcdlknhbaa
