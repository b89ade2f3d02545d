/- Layer deque, the document's answer: Step, whatever the machine. -/
import Derived.Test.YtimjlgglhonhkaaRefDequeGo
import Derived.Test.YtimjlgglhonhkaaRefDequePushes
import Derived.Test.YtimjlgglhonhkaaRefDequePop
import Derived.Test.YtimjlgglhonhkaaRefDequeSteal
namespace Go.Proofs.Ytimjlgglhonhkaa
open Go.RowKit

theorem rStep_any (k p s c b t x u : Int) (v : Value) (m : List Int) (w : World) (h : Cells w v m) (hbig : m.length * 8 ≤ 140737488351232) (hd : McU ⟨k, p, s, c, b, t, x, u⟩) :
    Calls Try.prog 13 #[v, mvv k p s c b t x u] w (REnd v w (stepF m ⟨k, p, s, c, b, t, x, u⟩).1 (stepF m ⟨k, p, s, c, b, t, x, u⟩).2) := by
  have hs := hd.base
  have hc := hd.cap
  have hb := hd.b
  have ht := hd.t
  simp only at hs hc hb ht
  by_cases hu : u = 0
  · subst hu
    by_cases hk1 : k = 1
    · subst hk1
      by_cases hp0 : p = 0
      · subst hp0
        have e : stepF m ⟨1, 0, s, c, b, t, x, 0⟩ = (m, ⟨1, 1, s, c, loadF m (s64 (s + 1)), t, x, 0⟩) := by simp [stepF, pushF, bottomC]
        rw [e]
        exact rstep_1 0 s c b t x v m w h _ rfl _ _ _ _ _ _ _ _ fun v w h => rpush_0 s c b t x v m w h hbig hs hc hb ht _ rfl _ rfl
      by_cases hp1 : p = 1
      · subst hp1
        by_cases hq : max c 1 ≤ w64 (b - loadF m s)
        · have e : stepF m ⟨1, 1, s, c, b, t, x, 0⟩ = (m, ⟨1, 2, s, c, b, loadF m s, x, 3⟩) := by simp [stepF, pushF, capF, hq]
          rw [e]
          exact rstep_1 1 s c b t x v m w h _ rfl _ _ _ _ _ _ _ _ fun v w h => rpush_1y s c b t x v m w h hbig hs hc hb ht _ rfl _ _ rfl rfl hq
        · have e : stepF m ⟨1, 1, s, c, b, t, x, 0⟩ = (m, ⟨1, 2, s, c, b, loadF m s, x, 0⟩) := by simp [stepF, pushF, capF, hq]
          rw [e]
          exact rstep_1 1 s c b t x v m w h _ rfl _ _ _ _ _ _ _ _ fun v w h => rpush_1n s c b t x v m w h hbig hs hc hb ht _ rfl _ _ rfl rfl hq
      by_cases hp2 : p = 2
      · subst hp2
        have e : stepF m ⟨1, 2, s, c, b, t, x, 0⟩ = (storeF m (s64 (s + 2 + b % max c 1)) (w64 x), ⟨1, 3, s, c, b, t, x, 0⟩) := by simp [stepF, pushF, placeC, capF]
        rw [e]
        exact rstep_1 2 s c b t x v m w h _ (store_len _ _ _) _ _ _ _ _ _ _ _ fun v w h => rpush_2 s c b t x v m w h hbig hs hc hb ht _ rfl _ rfl _ rfl
      by_cases hp3 : p = 3
      · subst hp3
        have e : stepF m ⟨1, 3, s, c, b, t, x, 0⟩ = (storeF m (s64 (s + 1)) (w64 (b + 1)), ⟨1, 4, s, c, b, t, x, 1⟩) := by simp [stepF, pushF, bottomC]
        rw [e]
        exact rstep_1 3 s c b t x v m w h _ (store_len _ _ _) _ _ _ _ _ _ _ _ fun v w h => rpush_3 s c b t x v m w h hbig hs hc hb ht _ rfl _ rfl _ rfl
      have e : stepF m ⟨1, p, s, c, b, t, x, 0⟩ = (m, ⟨1, p, s, c, b, t, x, 0⟩) := by simp [stepF, pushF, hp0, hp1, hp2, hp3]
      rw [e]
      exact rstep_1 p s c b t x v m w h _ rfl _ _ _ _ _ _ _ _ fun v w h => rpush_d p s c b t x v m w h hbig hs hc hb ht (beq_eq_false_iff_ne.2 hp0) (beq_eq_false_iff_ne.2 hp1) (beq_eq_false_iff_ne.2 hp2) (beq_eq_false_iff_ne.2 hp3)
    by_cases hk2 : k = 2
    · subst hk2
      by_cases hp0 : p = 0
      · subst hp0
        have e : stepF m ⟨2, 0, s, c, b, t, x, 0⟩ = (m, ⟨2, 1, s, c, loadF m (s64 (s + 1)), t, x, 0⟩) := by simp [stepF, popF, bottomC]
        rw [e]
        exact rstep_2 0 s c b t x v m w h _ rfl _ _ _ _ _ _ _ _ fun v w h => rpop_0 s c b t x v m w h hbig hs hc hb ht _ rfl _ rfl
      by_cases hp1 : p = 1
      · subst hp1
        have e : stepF m ⟨2, 1, s, c, b, t, x, 0⟩ = (storeF m (s64 (s + 1)) (w64 (b - 1)), ⟨2, 2, s, c, b, t, x, 0⟩) := by simp [stepF, popF, bottomC]
        rw [e]
        exact rstep_2 1 s c b t x v m w h _ (store_len _ _ _) _ _ _ _ _ _ _ _ fun v w h => rpop_1 s c b t x v m w h hbig hs hc hb ht _ rfl _ rfl _ rfl
      by_cases hp2 : p = 2
      · subst hp2
        by_cases hq : 0 < s64 (loadF m s - w64 (b - 1))
        · have e : stepF m ⟨2, 2, s, c, b, t, x, 0⟩ = (m, ⟨2, 5, s, c, b, loadF m s, x, 0⟩) := by simp [stepF, popF, hq]
          rw [e]
          exact rstep_2 2 s c b t x v m w h _ rfl _ _ _ _ _ _ _ _ fun v w h => rpop_2y s c b t x v m w h hbig hs hc hb ht _ rfl _ _ rfl rfl hq
        · have e : stepF m ⟨2, 2, s, c, b, t, x, 0⟩ = (m, ⟨2, 3, s, c, b, loadF m s, x, 0⟩) := by simp [stepF, popF, hq]
          rw [e]
          exact rstep_2 2 s c b t x v m w h _ rfl _ _ _ _ _ _ _ _ fun v w h => rpop_2n s c b t x v m w h hbig hs hc hb ht _ rfl _ _ rfl rfl hq
      by_cases hp3 : p = 3
      · subst hp3
        by_cases hq : t = w64 (b - 1)
        · have e : stepF m ⟨2, 3, s, c, b, t, x, 0⟩ = (m, ⟨2, 4, s, c, b, t, s64 (loadF m (s64 (s + 2 + w64 (b - 1) % max c 1))), 0⟩) := by simp [stepF, popF, placeC, capF, hq]
          rw [e]
          exact rstep_2 3 s c b t x v m w h _ rfl _ _ _ _ _ _ _ _ fun v w h => rpop_3y s c b t x v m w h hbig hs hc hb ht _ rfl _ rfl _ rfl _ rfl hq
        · have e : stepF m ⟨2, 3, s, c, b, t, x, 0⟩ = (m, ⟨2, 4, s, c, b, t, s64 (loadF m (s64 (s + 2 + w64 (b - 1) % max c 1))), 1⟩) := by simp [stepF, popF, placeC, capF, hq]
          rw [e]
          exact rstep_2 3 s c b t x v m w h _ rfl _ _ _ _ _ _ _ _ fun v w h => rpop_3n s c b t x v m w h hbig hs hc hb ht _ rfl _ rfl _ rfl _ rfl hq
      by_cases hp4 : p = 4
      · subst hp4
        by_cases hq : swapsF m s t (w64 (t + 1)) = true
        · have e : stepF m ⟨2, 4, s, c, b, t, x, 0⟩ = (swapF m s t (w64 (t + 1)), ⟨2, 6, s, c, b, t, x, 0⟩) := by simp [stepF, popF, hq]
          rw [e]
          exact rstep_2 4 s c b t x v m w h _ (swap_len _ _ _ _) _ _ _ _ _ _ _ _ fun v w h => rpop_4y s c b t x v m w h hbig hs hc hb ht _ rfl _ rfl hq
        · have e : stepF m ⟨2, 4, s, c, b, t, x, 0⟩ = (swapF m s t (w64 (t + 1)), ⟨2, 5, s, c, b, t, x, 0⟩) := by simp [stepF, popF, hq]
          rw [e]
          exact rstep_2 4 s c b t x v m w h _ (swap_len _ _ _ _) _ _ _ _ _ _ _ _ fun v w h => rpop_4n s c b t x v m w h hbig hs hc hb ht _ rfl _ rfl (by simpa using hq)
      by_cases hp5 : p = 5
      · subst hp5
        have e : stepF m ⟨2, 5, s, c, b, t, x, 0⟩ = (storeF m (s64 (s + 1)) b, ⟨2, 6, s, c, b, t, 0, 2⟩) := by simp [stepF, popF, bottomC]
        rw [e]
        exact rstep_2 5 s c b t x v m w h _ (store_len _ _ _) _ _ _ _ _ _ _ _ fun v w h => rpop_5 s c b t x v m w h hbig hs hc hb ht _ rfl _ rfl
      by_cases hp6 : p = 6
      · subst hp6
        have e : stepF m ⟨2, 6, s, c, b, t, x, 0⟩ = (storeF m (s64 (s + 1)) b, ⟨2, 7, s, c, b, t, x, 1⟩) := by simp [stepF, popF, bottomC]
        rw [e]
        exact rstep_2 6 s c b t x v m w h _ (store_len _ _ _) _ _ _ _ _ _ _ _ fun v w h => rpop_6 s c b t x v m w h hbig hs hc hb ht _ rfl _ rfl
      have e : stepF m ⟨2, p, s, c, b, t, x, 0⟩ = (m, ⟨2, p, s, c, b, t, x, 0⟩) := by simp [stepF, popF, hp0, hp1, hp2, hp3, hp4, hp5, hp6]
      rw [e]
      exact rstep_2 p s c b t x v m w h _ rfl _ _ _ _ _ _ _ _ fun v w h => rpop_d p s c b t x v m w h hbig hs hc hb ht (beq_eq_false_iff_ne.2 hp0) (beq_eq_false_iff_ne.2 hp1) (beq_eq_false_iff_ne.2 hp2) (beq_eq_false_iff_ne.2 hp3) (beq_eq_false_iff_ne.2 hp4) (beq_eq_false_iff_ne.2 hp5) (beq_eq_false_iff_ne.2 hp6)
    by_cases hk3 : k = 3
    · subst hk3
      by_cases hp0 : p = 0
      · subst hp0
        have e : stepF m ⟨3, 0, s, c, b, t, x, 0⟩ = (m, ⟨3, 1, s, c, b, loadF m s, x, 0⟩) := by simp [stepF, stealF]
        rw [e]
        exact rstep_3 0 s c b t x v m w h _ rfl _ _ _ _ _ _ _ _ fun v w h => rsteal_0 s c b t x v m w h hbig hs hc hb ht _ rfl
      by_cases hp1 : p = 1
      · subst hp1
        by_cases hq : s64 (loadF m (s64 (s + 1)) - t) ≤ 0
        · have e : stepF m ⟨3, 1, s, c, b, t, x, 0⟩ = (m, ⟨3, 2, s, c, loadF m (s64 (s + 1)), t, x, 2⟩) := by simp [stepF, stealF, bottomC, hq]
          rw [e]
          exact rstep_3 1 s c b t x v m w h _ rfl _ _ _ _ _ _ _ _ fun v w h => rsteal_1y s c b t x v m w h hbig hs hc hb ht _ rfl _ rfl _ rfl hq
        · have e : stepF m ⟨3, 1, s, c, b, t, x, 0⟩ = (m, ⟨3, 2, s, c, loadF m (s64 (s + 1)), t, x, 0⟩) := by simp [stepF, stealF, bottomC, hq]
          rw [e]
          exact rstep_3 1 s c b t x v m w h _ rfl _ _ _ _ _ _ _ _ fun v w h => rsteal_1n s c b t x v m w h hbig hs hc hb ht _ rfl _ rfl _ rfl hq
      by_cases hp2 : p = 2
      · subst hp2
        have e : stepF m ⟨3, 2, s, c, b, t, x, 0⟩ = (m, ⟨3, 3, s, c, b, t, s64 (loadF m (s64 (s + 2 + t % max c 1))), 0⟩) := by simp [stepF, stealF, placeC, capF]
        rw [e]
        exact rstep_3 2 s c b t x v m w h _ rfl _ _ _ _ _ _ _ _ fun v w h => rsteal_2 s c b t x v m w h hbig hs hc hb ht _ rfl _ rfl _ rfl
      by_cases hp3 : p = 3
      · subst hp3
        by_cases hq : swapsF m s t (w64 (t + 1)) = true
        · have e : stepF m ⟨3, 3, s, c, b, t, x, 0⟩ = (swapF m s t (w64 (t + 1)), ⟨3, 4, s, c, b, t, x, 1⟩) := by simp [stepF, stealF, hq]
          rw [e]
          exact rstep_3 3 s c b t x v m w h _ (swap_len _ _ _ _) _ _ _ _ _ _ _ _ fun v w h => rsteal_3y s c b t x v m w h hbig hs hc hb ht _ rfl _ rfl hq
        · have e : stepF m ⟨3, 3, s, c, b, t, x, 0⟩ = (swapF m s t (w64 (t + 1)), ⟨3, 4, s, c, b, t, 0, 4⟩) := by simp [stepF, stealF, hq]
          rw [e]
          exact rstep_3 3 s c b t x v m w h _ (swap_len _ _ _ _) _ _ _ _ _ _ _ _ fun v w h => rsteal_3n s c b t x v m w h hbig hs hc hb ht _ rfl _ rfl (by simpa using hq)
      have e : stepF m ⟨3, p, s, c, b, t, x, 0⟩ = (m, ⟨3, p, s, c, b, t, x, 0⟩) := by simp [stepF, stealF, hp0, hp1, hp2, hp3]
      rw [e]
      exact rstep_3 p s c b t x v m w h _ rfl _ _ _ _ _ _ _ _ fun v w h => rsteal_d p s c b t x v m w h hbig hs hc hb ht (beq_eq_false_iff_ne.2 hp0) (beq_eq_false_iff_ne.2 hp1) (beq_eq_false_iff_ne.2 hp2) (beq_eq_false_iff_ne.2 hp3)
    have e : stepF m ⟨k, p, s, c, b, t, x, 0⟩ = (m, ⟨k, p, s, c, b, t, x, 0⟩) := by simp [stepF, hk1, hk2, hk3]
    rw [e]
    exact rstep_k k p s c b t x v m w h (beq_eq_false_iff_ne.2 hk1) (beq_eq_false_iff_ne.2 hk2) (beq_eq_false_iff_ne.2 hk3)
  · have e : stepF m ⟨k, p, s, c, b, t, x, u⟩ = (m, ⟨k, p, s, c, b, t, x, u⟩) := by simp [stepF, hu]
    rw [e]
    exact rstep_u k p s c b t x u v m w h (bne_iff_ne.2 hu)
end Go.Proofs.Ytimjlgglhonhkaa
