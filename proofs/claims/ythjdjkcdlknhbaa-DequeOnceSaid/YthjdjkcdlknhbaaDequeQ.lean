/- Layer deque: plain facts for the laws. No program in this text. -/
import Derived.Test.YthjdjkcdlknhbaaDequeU
import Derived.Test.YthjdjkcdlknhbaaDequeStepU
namespace Go.Proofs.Ythjdjkcdlknhbaa

theorem getD_at {l : List Int} {k : Nat} (h : k < l.length) : l.getD k 0 = l[k] := by rw [List.getD_eq_getElem?_getD, List.getElem?_eq_getElem h]; rfl
theorem pure_in {m m1 : List Int} {d : Mc} (h : OneIn m m1 d) {X : Nat} (h1 : X < m1.length) (h2 : X < m.length) (hne : m1[X] ≠ m[X]) : d.base ≤ X ∧ s64 ((X : Int) - d.base - 2) < capF d := by
  rcases h with rfl | ⟨j, v, hj, rfl, hb, hc⟩
  · exact absurd rfl hne
  · have : j = X := by
      rcases Nat.lt_trichotomy j X with hlt | he | hgt
      · exact absurd (by rw [List.getElem_set_ne (by omega)]) hne
      · exact he
      · exact absurd (by rw [List.getElem_set_ne (by omega)]) hne
    subst this
    exact ⟨hb, hc⟩
theorem turned_eq {m m1 : List Int} {X : Nat} (h1 : X < m1.length) (h2 : X < m.length) (he : m1[X] = m[X]) : turnedF m m1 (X + 1) = turnedF m m1 X := by
  rw [turned_succ, getD_at h1, getD_at h2, if_pos he]; rfl
theorem turned_ne {m m1 : List Int} {X : Nat} (h1 : X < m1.length) (h2 : X < m.length) (he : m1[X] ≠ m[X]) : turnedF m m1 (X + 1) = turnedF m m1 X + 1 := by
  rw [turned_succ, getD_at h1, getD_at h2, if_neg he]
theorem turned_mono (m m1 : List Int) (j : Nat) : ∀ k, j ≤ k → turnedF m m1 j ≤ turnedF m m1 k
  | 0, h => by have : j = 0 := by omega
               subst this; exact Nat.le_refl _
  | k + 1, h => by
    by_cases e : j = k + 1
    · subst e; exact Nat.le_refl _
    · have := turned_mono m m1 j k (by omega)
      rw [turned_succ]; omega
theorem step_one {m : List Int} {d : Mc} (hd : McU d) : OneIn m (stepF m d).1 d ∧ (stepF m d).2.kind = d.kind ∧ (stepF m d).2.base = d.base ∧ (stepF m d).2.cap = d.cap ∧ (d.out ≠ 0 → stepF m d = (m, d)) := step_in hd.base hd.cap.2
end Go.Proofs.Ythjdjkcdlknhbaa
