/- Layer chain: Step, whatever the machine. -/
import Derived.Test.YtpffknlbffnafaaChainStepGo
import Derived.Test.YtpffknlbffnafaaChainPuts
import Derived.Test.YtpffknlbffnafaaChainHeads
import Derived.Shelf.Abstract
namespace Go.Proofs.Ytpffknlbffnafaa.ch
open Go.RowKit

theorem store_len (m : List Int) (a v : Int) : (storeF m a v).length = m.length := mF_len _ _
theorem swap_len (m : List Int) (a x y : Int) : (swapF m a x y).length = m.length := mF_len _ _
section
variable (s c b t x : Int) (v : Value) (m : List Int) (w : World) (h : Cells w v m) (hbig : m.length * 8 ≤ 140737488351232)
include h hbig in
set_option maxRecDepth 100000 in
theorem push_0 : Calls Try.prog 6 #[v, mvv 1 0 s c b t x 0] w (StepEnd w m ⟨1, 1, s, c, loadF m s, t, x, 0⟩) :=
  step_go 1 s c b t x 0 v m w h (.inl rfl) (by decide) (enters_of Try.func32 (by kernel_rfl) rfl) (1) (1) (s) (c) (loadF m s) (t) (x) (0) m (rfl)
    fun w B v h => seeHead_any B (1) (1) s c b t x 0 v m _ rfl w h hbig
include h hbig in
set_option maxRecDepth 100000 in
theorem push_1 : Calls Try.prog 6 #[v, mvv 1 1 s c b t x 0] w (StepEnd w (storeF m (s64 (c + t)) (nodeF b)) ⟨1, 2, s, c, b, t, x, 0⟩) :=
  step_go 1 s c b t x 1 v m w h (.inl rfl) (by decide) (enters_of Try.func33 (by kernel_rfl) rfl) (1) (2) (s) (c) (b) (t) (x) (0) (storeF m (s64 (c + t)) (nodeF b)) (store_len _ _ _)
    fun w B v h => pushLinks_any B (1) (2) s c b t x 0 v m _ _ _ rfl rfl rfl w h hbig
include h hbig in
set_option maxRecDepth 100000 in
theorem push_2y (hq : swapsF m s b (packF (verF b + 1) t) = true) : Calls Try.prog 6 #[v, mvv 1 2 s c b t x 0] w (StepEnd w (swapF m s b (packF (verF b + 1) t)) ⟨1, 3, s, c, b, t, x, 1⟩) :=
  step_go 1 s c b t x 2 v m w h (.inl rfl) (by decide) (enters_of Try.func34 (by kernel_rfl) rfl) (1) (3) (s) (c) (b) (t) (x) (1) (swapF m s b (packF (verF b + 1) t)) (swap_len _ _ _ _)
    fun w B v h => pushSwaps_Y B (1) (3) s c b t x 0 v m _ _ rfl rfl hq w h hbig
include h hbig in
set_option maxRecDepth 100000 in
theorem push_2n (hq : swapsF m s b (packF (verF b + 1) t) = false) : Calls Try.prog 6 #[v, mvv 1 2 s c b t x 0] w (StepEnd w (swapF m s b (packF (verF b + 1) t)) ⟨1, 0, s, c, b, t, x, 0⟩) :=
  step_go 1 s c b t x 2 v m w h (.inl rfl) (by decide) (enters_of Try.func34 (by kernel_rfl) rfl) (1) (0) (s) (c) (b) (t) (x) (0) (swapF m s b (packF (verF b + 1) t)) (swap_len _ _ _ _)
    fun w B v h => pushSwaps_N B (1) (3) s c b t x 0 v m _ _ rfl rfl hq w h hbig
include h hbig in
set_option maxRecDepth 100000 in
theorem pop_0y (hq : nodeF (loadF m s) = 0) : Calls Try.prog 6 #[v, mvv 2 0 s c b t x 0] w (StepEnd w m ⟨2, 1, s, c, loadF m s, t, x, 2⟩) :=
  step_go 2 s c b t x 0 v m w h (.inr rfl) (by decide) (enters_of Try.func35 (by kernel_rfl) rfl) (2) (1) (s) (c) (loadF m s) (t) (x) (2) m (rfl)
    fun w B v h => popSeesHead_Y B (2) (1) s c b t x 0 v m _ _ rfl rfl hq w h hbig
include h hbig in
set_option maxRecDepth 100000 in
theorem pop_0n (hq : nodeF (loadF m s) ≠ 0) : Calls Try.prog 6 #[v, mvv 2 0 s c b t x 0] w (StepEnd w m ⟨2, 1, s, c, loadF m s, t, x, 0⟩) :=
  step_go 2 s c b t x 0 v m w h (.inr rfl) (by decide) (enters_of Try.func35 (by kernel_rfl) rfl) (2) (1) (s) (c) (loadF m s) (t) (x) (0) m (rfl)
    fun w B v h => popSeesHead_N B (2) (1) s c b t x 0 v m _ _ rfl rfl hq w h hbig
include h hbig in
set_option maxRecDepth 100000 in
theorem pop_1 : Calls Try.prog 6 #[v, mvv 2 1 s c b t x 0] w (StepEnd w m ⟨2, 2, s, c, b, t, s64 (loadF m (s64 (c + nodeF b))), 0⟩) :=
  step_go 2 s c b t x 1 v m w h (.inr rfl) (by decide) (enters_of Try.func36 (by kernel_rfl) rfl) (2) (2) (s) (c) (b) (t) (s64 (loadF m (s64 (c + nodeF b)))) (0) m (rfl)
    fun w B v h => popSeesNext_any B (2) (2) s c b t x 0 v m _ _ _ _ rfl rfl rfl rfl w h hbig
include h hbig in
set_option maxRecDepth 100000 in
theorem pop_2y (hq : swapsF m s b (packF (verF b + 1) x) = true) : Calls Try.prog 6 #[v, mvv 2 2 s c b t x 0] w (StepEnd w (swapF m s b (packF (verF b + 1) x)) ⟨2, 3, s, c, b, nodeF b, x, 1⟩) :=
  step_go 2 s c b t x 2 v m w h (.inr rfl) (by decide) (enters_of Try.func37 (by kernel_rfl) rfl) (2) (3) (s) (c) (b) (nodeF b) (x) (1) (swapF m s b (packF (verF b + 1) x)) (swap_len _ _ _ _)
    fun w B v h => popSwaps_Y B (2) (3) s c b t x 0 v m _ _ _ rfl rfl rfl hq w h hbig
include h hbig in
set_option maxRecDepth 100000 in
theorem pop_2n (hq : swapsF m s b (packF (verF b + 1) x) = false) : Calls Try.prog 6 #[v, mvv 2 2 s c b t x 0] w (StepEnd w (swapF m s b (packF (verF b + 1) x)) ⟨2, 0, s, c, b, t, x, 0⟩) :=
  step_go 2 s c b t x 2 v m w h (.inr rfl) (by decide) (enters_of Try.func37 (by kernel_rfl) rfl) (2) (0) (s) (c) (b) (t) (x) (0) (swapF m s b (packF (verF b + 1) x)) (swap_len _ _ _ _)
    fun w B v h => popSwaps_N B (2) (3) s c b t x 0 v m _ _ rfl rfl hq w h hbig
end
set_option maxRecDepth 100000 in
theorem Step_any (k p s c b t x u : Int) (v : Value) (m : List Int) (w : World) (h : Cells w v m) (hbig : m.length * 8 ≤ 140737488351232) :
    Calls Try.prog 6 #[v, mvv k p s c b t x u] w (StepEnd w (cstepF m ⟨k, p, s, c, b, t, x, u⟩).1 (cstepF m ⟨k, p, s, c, b, t, x, u⟩).2) := by
  by_cases hu : u = 0
  · subst hu
    by_cases hk1 : k = 1
    · subst hk1
      by_cases hp0 : p = 0
      · subst hp0
        have e : cstepF m ⟨1, 0, s, c, b, t, x, 0⟩ = (m, ⟨1, 1, s, c, loadF m s, t, x, 0⟩) := by simp [cstepF, cpushF]
        rw [e]
        exact push_0 s c b t x v m w h hbig
      by_cases hp1 : p = 1
      · subst hp1
        have e : cstepF m ⟨1, 1, s, c, b, t, x, 0⟩ = (storeF m (s64 (c + t)) (nodeF b), ⟨1, 2, s, c, b, t, x, 0⟩) := by simp [cstepF, cpushF]
        rw [e]
        exact push_1 s c b t x v m w h hbig
      by_cases hp2 : p = 2
      · subst hp2
        cases hq : swapsF m s b (packF (verF b + 1) t)
        · have e : cstepF m ⟨1, 2, s, c, b, t, x, 0⟩ = (swapF m s b (packF (verF b + 1) t), ⟨1, 0, s, c, b, t, x, 0⟩) := by simp [cstepF, cpushF, toC, hq]
          rw [e]
          exact push_2n s c b t x v m w h hbig hq
        · have e : cstepF m ⟨1, 2, s, c, b, t, x, 0⟩ = (swapF m s b (packF (verF b + 1) t), ⟨1, 3, s, c, b, t, x, 1⟩) := by simp [cstepF, cpushF, toC, hq]
          rw [e]
          exact push_2y s c b t x v m w h hbig hq
      have e : cstepF m ⟨1, p, s, c, b, t, x, 0⟩ = (m, ⟨1, p, s, c, b, t, x, 0⟩) := by simp [cstepF, cpushF, hp0, hp1, hp2]
      rw [e]
      exact step_stop 1 p s c b t x 0 v m w h hbig (by simp [haltF]; omega)
    by_cases hk2 : k = 2
    · subst hk2
      by_cases hp0 : p = 0
      · subst hp0
        by_cases hq : nodeF (loadF m s) = 0
        · have e : cstepF m ⟨2, 0, s, c, b, t, x, 0⟩ = (m, ⟨2, 1, s, c, loadF m s, t, x, 2⟩) := by simp [cstepF, cpopF, hq]
          rw [e]
          exact pop_0y s c b t x v m w h hbig hq
        · have e : cstepF m ⟨2, 0, s, c, b, t, x, 0⟩ = (m, ⟨2, 1, s, c, loadF m s, t, x, 0⟩) := by simp [cstepF, cpopF, hq]
          rw [e]
          exact pop_0n s c b t x v m w h hbig hq
      by_cases hp1 : p = 1
      · subst hp1
        have e : cstepF m ⟨2, 1, s, c, b, t, x, 0⟩ = (m, ⟨2, 2, s, c, b, t, s64 (loadF m (s64 (c + nodeF b))), 0⟩) := by simp [cstepF, cpopF]
        rw [e]
        exact pop_1 s c b t x v m w h hbig
      by_cases hp2 : p = 2
      · subst hp2
        cases hq : swapsF m s b (packF (verF b + 1) x)
        · have e : cstepF m ⟨2, 2, s, c, b, t, x, 0⟩ = (swapF m s b (packF (verF b + 1) x), ⟨2, 0, s, c, b, t, x, 0⟩) := by simp [cstepF, cpopF, toC, hq]
          rw [e]
          exact pop_2n s c b t x v m w h hbig hq
        · have e : cstepF m ⟨2, 2, s, c, b, t, x, 0⟩ = (swapF m s b (packF (verF b + 1) x), ⟨2, 3, s, c, b, nodeF b, x, 1⟩) := by simp [cstepF, cpopF, toC, hq]
          rw [e]
          exact pop_2y s c b t x v m w h hbig hq
      have e : cstepF m ⟨2, p, s, c, b, t, x, 0⟩ = (m, ⟨2, p, s, c, b, t, x, 0⟩) := by simp [cstepF, cpopF, hp0, hp1, hp2]
      rw [e]
      exact step_stop 2 p s c b t x 0 v m w h hbig (by simp [haltF]; omega)
    have e : cstepF m ⟨k, p, s, c, b, t, x, 0⟩ = (m, ⟨k, p, s, c, b, t, x, 0⟩) := by simp [cstepF, hk1, hk2]
    rw [e]
    exact step_stop k p s c b t x 0 v m w h hbig (by simp [haltF]; omega)
  · have e : cstepF m ⟨k, p, s, c, b, t, x, u⟩ = (m, ⟨k, p, s, c, b, t, x, u⟩) := by simp [cstepF, hu]
    rw [e]
    exact step_stop k p s c b t x u v m w h hbig (by simp [haltF, hu])
end Go.Proofs.Ytpffknlbffnafaa.ch
