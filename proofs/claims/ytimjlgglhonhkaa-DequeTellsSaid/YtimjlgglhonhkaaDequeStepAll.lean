/- Layer deque: Step, whatever the machine. -/
import Derived.Test.YtimjlgglhonhkaaDequeStepGo
import Derived.Test.YtimjlgglhonhkaaDequeSees
import Derived.Test.YtimjlgglhonhkaaDequeSees2
import Derived.Test.YtimjlgglhonhkaaDequePuts
import Derived.Test.YtimjlgglhonhkaaDequeFills
import Derived.Test.YtimjlgglhonhkaaDequeStealSees
import Derived.Test.YtimjlgglhonhkaaDequeTakesY
import Derived.Test.YtimjlgglhonhkaaDequeTakesN
import Derived.Test.YtimjlgglhonhkaaDequeSwaps
import Derived.Shelf.Abstract
namespace Go.Proofs.Ytimjlgglhonhkaa
open Go.RowKit

theorem store_len (m : List Int) (a v : Int) : (storeF m a v).length = m.length := mF_len _ _
theorem swap_len (m : List Int) (a x y : Int) : (swapF m a x y).length = m.length := mF_len _ _
theorem w64_U (x : Int) : U (w64 x) := by unfold U w64; omega
theorem s64_id {x : Int} (h : I6 x) : s64 x = x := s64_small h.1 h.2

section
variable (s c b t x : Int) (v : Value) (m : List Int) (w : World) (h : Cells w v m) (hbig : m.length * 8 ≤ 140737488351232) (hs : I6 s) (hc : I6 c) (hb : U b) (ht : U t)
include h hbig  in
set_option maxRecDepth 100000 in
theorem push_0 : Calls Try.prog 12 #[v, mvv 1 0 s c b t x 0] w (StepEnd w m ⟨1, 1, s, c, loadF m (s64 (s + 1)), t, x, 0⟩) :=
  step_go 1 s c b t x 0 65 v m w h hbig rfl (enters_of Try.func65 (by kernel_rfl) rfl) (1) (1) (s) (c) (loadF m (s64 (s + 1))) (t) (x) (0) m (rfl)
    fun w B v h => seeBottom_any B (1) (1) (s) (c) (b) (t) (x) (0) v m _ _ rfl rfl w h hbig
include h hbig hs hc in
set_option maxRecDepth 100000 in
theorem push_1y (hq : max c 1 ≤ w64 (b - loadF m s)) : Calls Try.prog 12 #[v, mvv 1 1 s c b t x 0] w (StepEnd w m ⟨1, 2, s, c, b, loadF m s, x, 3⟩) :=
  step_go 1 s c b t x 1 66 v m w h hbig rfl (enters_of Try.func66 (by kernel_rfl) rfl) (1) (2) (s) (c) (b) (loadF m s) (x) (3) m (rfl)
    fun w B v h => pushSeesTop_yes B (1) (2) (s) (c) (b) (t) (x) (0) v m _ _ _ (s64_id hs) hc rfl rfl rfl hq w h hbig
include h hbig hs hc in
set_option maxRecDepth 100000 in
theorem push_1n (hq : ¬ max c 1 ≤ w64 (b - loadF m s)) : Calls Try.prog 12 #[v, mvv 1 1 s c b t x 0] w (StepEnd w m ⟨1, 2, s, c, b, loadF m s, x, 0⟩) :=
  step_go 1 s c b t x 1 66 v m w h hbig rfl (enters_of Try.func66 (by kernel_rfl) rfl) (1) (2) (s) (c) (b) (loadF m s) (x) (0) m (rfl)
    fun w B v h => pushSeesTop_no B (1) (2) (s) (c) (b) (t) (x) (0) v m _ _ _ (s64_id hs) hc rfl rfl rfl hq w h hbig
include h hbig hc hb in
set_option maxRecDepth 100000 in
theorem push_2 : Calls Try.prog 12 #[v, mvv 1 2 s c b t x 0] w (StepEnd w (storeF m (s64 (s + 2 + b % max c 1)) (w64 x)) ⟨1, 3, s, c, b, t, x, 0⟩) :=
  step_go 1 s c b t x 2 67 v m w h hbig rfl (enters_of Try.func67 (by kernel_rfl) rfl) (1) (3) (s) (c) (b) (t) (x) (0) (storeF m (s64 (s + 2 + b % max c 1)) (w64 x)) (store_len _ _ _)
    fun w B v h => pushFills_any B (1) (3) (s) (c) (b) (t) (x) (0) v m _ _ _ hc hb rfl rfl rfl w h hbig
include h hbig  in
set_option maxRecDepth 100000 in
theorem push_3 : Calls Try.prog 12 #[v, mvv 1 3 s c b t x 0] w (StepEnd w (storeF m (s64 (s + 1)) (w64 (b + 1))) ⟨1, 4, s, c, b, t, x, 1⟩) :=
  step_go 1 s c b t x 3 68 v m w h hbig rfl (enters_of Try.func68 (by kernel_rfl) rfl) (1) (4) (s) (c) (b) (t) (x) (1) (storeF m (s64 (s + 1)) (w64 (b + 1))) (store_len _ _ _)
    fun w B v h => pushRaises_any B (1) (4) (s) (c) (b) (t) (x) (0) v m _ _ _ rfl rfl rfl w h hbig
include h hbig  in
set_option maxRecDepth 100000 in
theorem pop_0 : Calls Try.prog 12 #[v, mvv 2 0 s c b t x 0] w (StepEnd w m ⟨2, 1, s, c, loadF m (s64 (s + 1)), t, x, 0⟩) :=
  step_go 2 s c b t x 0 65 v m w h hbig rfl (enters_of Try.func65 (by kernel_rfl) rfl) (2) (1) (s) (c) (loadF m (s64 (s + 1))) (t) (x) (0) m (rfl)
    fun w B v h => seeBottom_any B (2) (1) (s) (c) (b) (t) (x) (0) v m _ _ rfl rfl w h hbig
include h hbig  in
set_option maxRecDepth 100000 in
theorem pop_1 : Calls Try.prog 12 #[v, mvv 2 1 s c b t x 0] w (StepEnd w (storeF m (s64 (s + 1)) (w64 (b - 1))) ⟨2, 2, s, c, b, t, x, 0⟩) :=
  step_go 2 s c b t x 1 69 v m w h hbig rfl (enters_of Try.func69 (by kernel_rfl) rfl) (2) (2) (s) (c) (b) (t) (x) (0) (storeF m (s64 (s + 1)) (w64 (b - 1))) (store_len _ _ _)
    fun w B v h => popLowers_any B (2) (2) (s) (c) (b) (t) (x) (0) v m _ _ _ rfl rfl rfl w h hbig
include h hbig hs in
set_option maxRecDepth 100000 in
theorem pop_2y (hq : 0 < s64 (loadF m s - w64 (b - 1))) : Calls Try.prog 12 #[v, mvv 2 2 s c b t x 0] w (StepEnd w m ⟨2, 5, s, c, b, loadF m s, x, 0⟩) :=
  step_go 2 s c b t x 2 70 v m w h hbig rfl (enters_of Try.func70 (by kernel_rfl) rfl) (2) (5) (s) (c) (b) (loadF m s) (x) (0) m (rfl)
    fun w B v h => popSeesTop_yes B (2) (3) (s) (c) (b) (t) (x) (0) v m _ _ _ (s64_id hs) rfl rfl rfl hq w h hbig
include h hbig hs in
set_option maxRecDepth 100000 in
theorem pop_2n (hq : ¬ 0 < s64 (loadF m s - w64 (b - 1))) : Calls Try.prog 12 #[v, mvv 2 2 s c b t x 0] w (StepEnd w m ⟨2, 3, s, c, b, loadF m s, x, 0⟩) :=
  step_go 2 s c b t x 2 70 v m w h hbig rfl (enters_of Try.func70 (by kernel_rfl) rfl) (2) (3) (s) (c) (b) (loadF m s) (x) (0) m (rfl)
    fun w B v h => popSeesTop_no B (2) (3) (s) (c) (b) (t) (x) (0) v m _ _ _ (s64_id hs) rfl rfl rfl hq w h hbig
include h hbig hc in
set_option maxRecDepth 100000 in
theorem pop_3y (hq : t = w64 (b - 1)) : Calls Try.prog 12 #[v, mvv 2 3 s c b t x 0] w (StepEnd w m ⟨2, 4, s, c, b, t, s64 (loadF m (s64 (s + 2 + w64 (b - 1) % max c 1))), 0⟩) :=
  step_go 2 s c b t x 3 71 v m w h hbig rfl (enters_of Try.func71 (by kernel_rfl) rfl) (2) (4) (s) (c) (b) (t) (s64 (loadF m (s64 (s + 2 + w64 (b - 1) % max c 1)))) (0) m (rfl)
    fun w B v h => popTakes_yes B (2) (4) (s) (c) (b) (t) (x) (0) v m _ _ _ _ hc (w64_U _) rfl rfl rfl rfl hq w h hbig
include h hbig hc in
set_option maxRecDepth 100000 in
theorem pop_3n (hq : t ≠ w64 (b - 1)) : Calls Try.prog 12 #[v, mvv 2 3 s c b t x 0] w (StepEnd w m ⟨2, 4, s, c, b, t, s64 (loadF m (s64 (s + 2 + w64 (b - 1) % max c 1))), 1⟩) :=
  step_go 2 s c b t x 3 71 v m w h hbig rfl (enters_of Try.func71 (by kernel_rfl) rfl) (2) (4) (s) (c) (b) (t) (s64 (loadF m (s64 (s + 2 + w64 (b - 1) % max c 1)))) (1) m (rfl)
    fun w B v h => popTakes_no B (2) (4) (s) (c) (b) (t) (x) (0) v m _ _ _ _ hc (w64_U _) rfl rfl rfl rfl hq w h hbig
include h hbig hs in
set_option maxRecDepth 100000 in
theorem pop_4y (hq : swapsF m s t (w64 (t + 1)) = true) : Calls Try.prog 12 #[v, mvv 2 4 s c b t x 0] w (StepEnd w (swapF m s t (w64 (t + 1))) ⟨2, 6, s, c, b, t, x, 0⟩) :=
  step_go 2 s c b t x 4 72 v m w h hbig rfl (enters_of Try.func72 (by kernel_rfl) rfl) (2) (6) (s) (c) (b) (t) (x) (0) (swapF m s t (w64 (t + 1))) (swap_len _ _ _ _)
    fun w B v h => popTakesTop_yes B (2) (5) (s) (c) (b) (t) (x) (0) v m hs _ rfl hq w h hbig
include h hbig hs in
set_option maxRecDepth 100000 in
theorem pop_4n (hq : swapsF m s t (w64 (t + 1)) = false) : Calls Try.prog 12 #[v, mvv 2 4 s c b t x 0] w (StepEnd w (swapF m s t (w64 (t + 1))) ⟨2, 5, s, c, b, t, x, 0⟩) :=
  step_go 2 s c b t x 4 72 v m w h hbig rfl (enters_of Try.func72 (by kernel_rfl) rfl) (2) (5) (s) (c) (b) (t) (x) (0) (swapF m s t (w64 (t + 1))) (swap_len _ _ _ _)
    fun w B v h => popTakesTop_no B (2) (5) (s) (c) (b) (t) (x) (0) v m hs _ rfl hq w h hbig
include h hbig  in
set_option maxRecDepth 100000 in
theorem pop_5 : Calls Try.prog 12 #[v, mvv 2 5 s c b t x 0] w (StepEnd w (storeF m (s64 (s + 1)) b) ⟨2, 6, s, c, b, t, 0, 2⟩) :=
  step_go 2 s c b t x 5 73 v m w h hbig rfl (enters_of Try.func73 (by kernel_rfl) rfl) (2) (6) (s) (c) (b) (t) (0) (2) (storeF m (s64 (s + 1)) b) (store_len _ _ _)
    fun w B v h => popIsEmpty_any B (2) (6) (s) (c) (b) (t) (x) (0) v m _ _ rfl rfl w h hbig
include h hbig  in
set_option maxRecDepth 100000 in
theorem pop_6 : Calls Try.prog 12 #[v, mvv 2 6 s c b t x 0] w (StepEnd w (storeF m (s64 (s + 1)) b) ⟨2, 7, s, c, b, t, x, 1⟩) :=
  step_go 2 s c b t x 6 74 v m w h hbig rfl (enters_of Try.func74 (by kernel_rfl) rfl) (2) (7) (s) (c) (b) (t) (x) (1) (storeF m (s64 (s + 1)) b) (store_len _ _ _)
    fun w B v h => popIsDone_any B (2) (7) (s) (c) (b) (t) (x) (0) v m _ _ rfl rfl w h hbig
include h hbig hs in
set_option maxRecDepth 100000 in
theorem steal_0 : Calls Try.prog 12 #[v, mvv 3 0 s c b t x 0] w (StepEnd w m ⟨3, 1, s, c, b, loadF m s, x, 0⟩) :=
  step_go 3 s c b t x 0 75 v m w h hbig rfl (enters_of Try.func75 (by kernel_rfl) rfl) (3) (1) (s) (c) (b) (loadF m s) (x) (0) m (rfl)
    fun w B v h => seeTop_any B (3) (1) (s) (c) (b) (t) (x) (0) v m _ _ (s64_id hs) rfl w h hbig
include h hbig  in
set_option maxRecDepth 100000 in
theorem steal_1y (hq : s64 (loadF m (s64 (s + 1)) - t) ≤ 0) : Calls Try.prog 12 #[v, mvv 3 1 s c b t x 0] w (StepEnd w m ⟨3, 2, s, c, loadF m (s64 (s + 1)), t, x, 2⟩) :=
  step_go 3 s c b t x 1 76 v m w h hbig rfl (enters_of Try.func76 (by kernel_rfl) rfl) (3) (2) (s) (c) (loadF m (s64 (s + 1))) (t) (x) (2) m (rfl)
    fun w B v h => stealSeesBottom_yes B (3) (2) (s) (c) (b) (t) (x) (0) v m _ _ _ rfl rfl rfl hq w h hbig
include h hbig  in
set_option maxRecDepth 100000 in
theorem steal_1n (hq : ¬ s64 (loadF m (s64 (s + 1)) - t) ≤ 0) : Calls Try.prog 12 #[v, mvv 3 1 s c b t x 0] w (StepEnd w m ⟨3, 2, s, c, loadF m (s64 (s + 1)), t, x, 0⟩) :=
  step_go 3 s c b t x 1 76 v m w h hbig rfl (enters_of Try.func76 (by kernel_rfl) rfl) (3) (2) (s) (c) (loadF m (s64 (s + 1))) (t) (x) (0) m (rfl)
    fun w B v h => stealSeesBottom_no B (3) (2) (s) (c) (b) (t) (x) (0) v m _ _ _ rfl rfl rfl hq w h hbig
include h hbig hc ht in
set_option maxRecDepth 100000 in
theorem steal_2 : Calls Try.prog 12 #[v, mvv 3 2 s c b t x 0] w (StepEnd w m ⟨3, 3, s, c, b, t, s64 (loadF m (s64 (s + 2 + t % max c 1))), 0⟩) :=
  step_go 3 s c b t x 2 77 v m w h hbig rfl (enters_of Try.func77 (by kernel_rfl) rfl) (3) (3) (s) (c) (b) (t) (s64 (loadF m (s64 (s + 2 + t % max c 1)))) (0) m (rfl)
    fun w B v h => stealSees_any B (3) (3) (s) (c) (b) (t) (x) (0) v m _ _ _ hc ht rfl rfl rfl w h hbig
include h hbig hs in
set_option maxRecDepth 100000 in
theorem steal_3y (hq : swapsF m s t (w64 (t + 1)) = true) : Calls Try.prog 12 #[v, mvv 3 3 s c b t x 0] w (StepEnd w (swapF m s t (w64 (t + 1))) ⟨3, 4, s, c, b, t, x, 1⟩) :=
  step_go 3 s c b t x 3 78 v m w h hbig rfl (enters_of Try.func78 (by kernel_rfl) rfl) (3) (4) (s) (c) (b) (t) (x) (1) (swapF m s t (w64 (t + 1))) (swap_len _ _ _ _)
    fun w B v h => stealTakesTop_yes B (3) (4) (s) (c) (b) (t) (x) (0) v m hs _ rfl hq w h hbig
include h hbig hs in
set_option maxRecDepth 100000 in
theorem steal_3n (hq : swapsF m s t (w64 (t + 1)) = false) : Calls Try.prog 12 #[v, mvv 3 3 s c b t x 0] w (StepEnd w (swapF m s t (w64 (t + 1))) ⟨3, 4, s, c, b, t, 0, 4⟩) :=
  step_go 3 s c b t x 3 78 v m w h hbig rfl (enters_of Try.func78 (by kernel_rfl) rfl) (3) (4) (s) (c) (b) (t) (0) (4) (swapF m s t (w64 (t + 1))) (swap_len _ _ _ _)
    fun w B v h => stealTakesTop_no B (3) (4) (s) (c) (b) (t) (x) (0) v m hs _ rfl hq w h hbig
end

theorem Step_any (k p s c b t x u : Int) (v : Value) (m : List Int) (w : World) (h : Cells w v m) (hbig : m.length * 8 ≤ 140737488351232) (hd : McU ⟨k, p, s, c, b, t, x, u⟩) :
    Calls Try.prog 12 #[v, mvv k p s c b t x u] w (StepEnd w (stepF m ⟨k, p, s, c, b, t, x, u⟩).1 (stepF m ⟨k, p, s, c, b, t, x, u⟩).2) := by
  have hs := hd.base
  have hc := hd.cap
  have hb := hd.b
  have ht := hd.t
  simp only at hs hc hb ht
  by_cases hu : u = 0
  · subst hu
    by_cases hk1 : k = 1
    · subst hk1
      by_cases hp0 : p = 0
      · subst hp0
        have e : stepF m ⟨1, 0, s, c, b, t, x, 0⟩ = (m, ⟨1, 1, s, c, loadF m (s64 (s + 1)), t, x, 0⟩) := by simp [stepF, pushF, bottomC]
        rw [e]
        exact push_0 s c b t x v m w h hbig
      by_cases hp1 : p = 1
      · subst hp1
        by_cases hq : max c 1 ≤ w64 (b - loadF m s)
        · have e : stepF m ⟨1, 1, s, c, b, t, x, 0⟩ = (m, ⟨1, 2, s, c, b, loadF m s, x, 3⟩) := by simp [stepF, pushF, capF, hq]
          rw [e]
          exact push_1y s c b t x v m w h hbig hs hc hq
        · have e : stepF m ⟨1, 1, s, c, b, t, x, 0⟩ = (m, ⟨1, 2, s, c, b, loadF m s, x, 0⟩) := by simp [stepF, pushF, capF, hq]
          rw [e]
          exact push_1n s c b t x v m w h hbig hs hc hq
      by_cases hp2 : p = 2
      · subst hp2
        have e : stepF m ⟨1, 2, s, c, b, t, x, 0⟩ = (storeF m (s64 (s + 2 + b % max c 1)) (w64 x), ⟨1, 3, s, c, b, t, x, 0⟩) := by simp [stepF, pushF, placeC, capF]
        rw [e]
        exact push_2 s c b t x v m w h hbig hc hb
      by_cases hp3 : p = 3
      · subst hp3
        have e : stepF m ⟨1, 3, s, c, b, t, x, 0⟩ = (storeF m (s64 (s + 1)) (w64 (b + 1)), ⟨1, 4, s, c, b, t, x, 1⟩) := by simp [stepF, pushF, bottomC]
        rw [e]
        exact push_3 s c b t x v m w h hbig
      have e : stepF m ⟨1, p, s, c, b, t, x, 0⟩ = (m, ⟨1, p, s, c, b, t, x, 0⟩) := by simp [stepF, pushF, hp0, hp1, hp2, hp3]
      rw [e]
      have e2 : (tl 1).length = 4 := rfl
      exact step_stop 1 p s c b t x 0 v m w h hbig (.inr (by rw [e2]; omega))
    by_cases hk2 : k = 2
    · subst hk2
      by_cases hp0 : p = 0
      · subst hp0
        have e : stepF m ⟨2, 0, s, c, b, t, x, 0⟩ = (m, ⟨2, 1, s, c, loadF m (s64 (s + 1)), t, x, 0⟩) := by simp [stepF, popF, bottomC]
        rw [e]
        exact pop_0 s c b t x v m w h hbig
      by_cases hp1 : p = 1
      · subst hp1
        have e : stepF m ⟨2, 1, s, c, b, t, x, 0⟩ = (storeF m (s64 (s + 1)) (w64 (b - 1)), ⟨2, 2, s, c, b, t, x, 0⟩) := by simp [stepF, popF, bottomC]
        rw [e]
        exact pop_1 s c b t x v m w h hbig
      by_cases hp2 : p = 2
      · subst hp2
        by_cases hq : 0 < s64 (loadF m s - w64 (b - 1))
        · have e : stepF m ⟨2, 2, s, c, b, t, x, 0⟩ = (m, ⟨2, 5, s, c, b, loadF m s, x, 0⟩) := by simp [stepF, popF, hq]
          rw [e]
          exact pop_2y s c b t x v m w h hbig hs hq
        · have e : stepF m ⟨2, 2, s, c, b, t, x, 0⟩ = (m, ⟨2, 3, s, c, b, loadF m s, x, 0⟩) := by simp [stepF, popF, hq]
          rw [e]
          exact pop_2n s c b t x v m w h hbig hs hq
      by_cases hp3 : p = 3
      · subst hp3
        by_cases hq : t = w64 (b - 1)
        · have e : stepF m ⟨2, 3, s, c, b, t, x, 0⟩ = (m, ⟨2, 4, s, c, b, t, s64 (loadF m (s64 (s + 2 + w64 (b - 1) % max c 1))), 0⟩) := by simp [stepF, popF, placeC, capF, hq]
          rw [e]
          exact pop_3y s c b t x v m w h hbig hc hq
        · have e : stepF m ⟨2, 3, s, c, b, t, x, 0⟩ = (m, ⟨2, 4, s, c, b, t, s64 (loadF m (s64 (s + 2 + w64 (b - 1) % max c 1))), 1⟩) := by simp [stepF, popF, placeC, capF, hq]
          rw [e]
          exact pop_3n s c b t x v m w h hbig hc hq
      by_cases hp4 : p = 4
      · subst hp4
        by_cases hq : swapsF m s t (w64 (t + 1)) = true
        · have e : stepF m ⟨2, 4, s, c, b, t, x, 0⟩ = (swapF m s t (w64 (t + 1)), ⟨2, 6, s, c, b, t, x, 0⟩) := by simp [stepF, popF, hq]
          rw [e]
          exact pop_4y s c b t x v m w h hbig hs hq
        · have e : stepF m ⟨2, 4, s, c, b, t, x, 0⟩ = (swapF m s t (w64 (t + 1)), ⟨2, 5, s, c, b, t, x, 0⟩) := by simp [stepF, popF, hq]
          rw [e]
          exact pop_4n s c b t x v m w h hbig hs (by simpa using hq)
      by_cases hp5 : p = 5
      · subst hp5
        have e : stepF m ⟨2, 5, s, c, b, t, x, 0⟩ = (storeF m (s64 (s + 1)) b, ⟨2, 6, s, c, b, t, 0, 2⟩) := by simp [stepF, popF, bottomC]
        rw [e]
        exact pop_5 s c b t x v m w h hbig
      by_cases hp6 : p = 6
      · subst hp6
        have e : stepF m ⟨2, 6, s, c, b, t, x, 0⟩ = (storeF m (s64 (s + 1)) b, ⟨2, 7, s, c, b, t, x, 1⟩) := by simp [stepF, popF, bottomC]
        rw [e]
        exact pop_6 s c b t x v m w h hbig
      have e : stepF m ⟨2, p, s, c, b, t, x, 0⟩ = (m, ⟨2, p, s, c, b, t, x, 0⟩) := by simp [stepF, popF, hp0, hp1, hp2, hp3, hp4, hp5, hp6]
      rw [e]
      have e2 : (tl 2).length = 7 := rfl
      exact step_stop 2 p s c b t x 0 v m w h hbig (.inr (by rw [e2]; omega))
    by_cases hk3 : k = 3
    · subst hk3
      by_cases hp0 : p = 0
      · subst hp0
        have e : stepF m ⟨3, 0, s, c, b, t, x, 0⟩ = (m, ⟨3, 1, s, c, b, loadF m s, x, 0⟩) := by simp [stepF, stealF]
        rw [e]
        exact steal_0 s c b t x v m w h hbig hs
      by_cases hp1 : p = 1
      · subst hp1
        by_cases hq : s64 (loadF m (s64 (s + 1)) - t) ≤ 0
        · have e : stepF m ⟨3, 1, s, c, b, t, x, 0⟩ = (m, ⟨3, 2, s, c, loadF m (s64 (s + 1)), t, x, 2⟩) := by simp [stepF, stealF, bottomC, hq]
          rw [e]
          exact steal_1y s c b t x v m w h hbig hq
        · have e : stepF m ⟨3, 1, s, c, b, t, x, 0⟩ = (m, ⟨3, 2, s, c, loadF m (s64 (s + 1)), t, x, 0⟩) := by simp [stepF, stealF, bottomC, hq]
          rw [e]
          exact steal_1n s c b t x v m w h hbig hq
      by_cases hp2 : p = 2
      · subst hp2
        have e : stepF m ⟨3, 2, s, c, b, t, x, 0⟩ = (m, ⟨3, 3, s, c, b, t, s64 (loadF m (s64 (s + 2 + t % max c 1))), 0⟩) := by simp [stepF, stealF, placeC, capF]
        rw [e]
        exact steal_2 s c b t x v m w h hbig hc ht
      by_cases hp3 : p = 3
      · subst hp3
        by_cases hq : swapsF m s t (w64 (t + 1)) = true
        · have e : stepF m ⟨3, 3, s, c, b, t, x, 0⟩ = (swapF m s t (w64 (t + 1)), ⟨3, 4, s, c, b, t, x, 1⟩) := by simp [stepF, stealF, hq]
          rw [e]
          exact steal_3y s c b t x v m w h hbig hs hq
        · have e : stepF m ⟨3, 3, s, c, b, t, x, 0⟩ = (swapF m s t (w64 (t + 1)), ⟨3, 4, s, c, b, t, 0, 4⟩) := by simp [stepF, stealF, hq]
          rw [e]
          exact steal_3n s c b t x v m w h hbig hs (by simpa using hq)
      have e : stepF m ⟨3, p, s, c, b, t, x, 0⟩ = (m, ⟨3, p, s, c, b, t, x, 0⟩) := by simp [stepF, stealF, hp0, hp1, hp2, hp3]
      rw [e]
      have e2 : (tl 3).length = 4 := rfl
      exact step_stop 3 p s c b t x 0 v m w h hbig (.inr (by rw [e2]; omega))
    have e : stepF m ⟨k, p, s, c, b, t, x, 0⟩ = (m, ⟨k, p, s, c, b, t, x, 0⟩) := by simp [stepF, hk1, hk2, hk3]
    rw [e]
    exact step_stop k p s c b t x 0 v m w h hbig (.inr (by
      have e : (tl k).length = 0 := by unfold tl; rw [if_neg hk1, if_neg hk2, if_neg hk3]; rfl
      rw [e]; omega))
  · have e : stepF m ⟨k, p, s, c, b, t, x, u⟩ = (m, ⟨k, p, s, c, b, t, x, u⟩) := by simp [stepF, hu]
    rw [e]
    exact step_stop k p s c b t x u v m w h hbig (.inl hu)
end Go.Proofs.Ytimjlgglhonhkaa
