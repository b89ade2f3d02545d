/- Layer mem: plain facts on deeds. -/
import Derived.Test.YtpffknlbffnafaaMemP
namespace Go.Proofs.Ytpffknlbffnafaa

section
variable {m : List Int} {k : Nat} {y a b : Int}
theorem on_place (hk : k < m.length) (kk : Int) (h : 1 ≤ kk ∧ kk ≤ 4) (hy : m[k] = y) (a b : Int) :
    vF m ⟨kk, k, a, b⟩ = y ∧ okF m ⟨kk, k, a, b⟩ = (kk != 3 || y == a) ∧ mF m ⟨kk, k, a, b⟩ = m.set k (newF y ⟨kk, k, a, b⟩) := by
  obtain ⟨h1, h2, h3⟩ := at_on (m := m) (o := ⟨kk, k, a, b⟩) ⟨h, by simp, by simp; omega⟩
  have hw : wasF m ⟨kk, k, a, b⟩ = y := by rw [was_get (o := ⟨kk, k, a, b⟩) (by simpa using hk)]; simpa using hy
  rw [hw] at h1 h2 h3
  exact ⟨h1, h2, by simpa using h3⟩
theorem set_same (hk : k < m.length) (hy : m[k] = y) : m.set k y = m := by subst hy; exact List.set_getElem_self hk
theorem dswap_no (hk : k < m.length) (hy : m[k] = y) (h : y ≠ a) : mF m ⟨3, k, a, b⟩ = m ∧ vF m ⟨3, k, a, b⟩ = y ∧ okF m ⟨3, k, a, b⟩ = false := by
  obtain ⟨h1, h2, h3⟩ := on_place hk 3 (by decide) hy a b
  refine ⟨?_, h1, by rw [h2]; simp [h]⟩
  rw [h3]
  have : newF y ⟨3, k, a, b⟩ = y := by simp [newF, h]
  rw [this]; exact set_same hk hy
theorem dswap_yes (hk : k < m.length) (hy : m[k] = y) : mF m ⟨3, k, y, b⟩ = m.set k b ∧ vF m ⟨3, k, y, b⟩ = y ∧ okF m ⟨3, k, y, b⟩ = true := by
  obtain ⟨h1, h2, h3⟩ := on_place hk 3 (by decide) hy y b
  exact ⟨by rw [h3]; simp [newF], h1, by rw [h2]; simp⟩
theorem load_f (hk : k < m.length) (hy : m[k] = y) (a b : Int) : mF m ⟨1, k, a, b⟩ = m ∧ vF m ⟨1, k, a, b⟩ = y ∧ okF m ⟨1, k, a, b⟩ = true := by
  obtain ⟨h1, h2, h3⟩ := on_place hk 1 (by decide) hy a b
  refine ⟨?_, h1, by rw [h2]; rfl⟩
  rw [h3]
  have : newF y ⟨1, k, a, b⟩ = y := by simp [newF]
  rw [this]; exact set_same hk hy
theorem add_f (hk : k < m.length) (hy : m[k] = y) (a b : Int) : mF m ⟨4, k, a, b⟩ = m.set k (addU y a) ∧ vF m ⟨4, k, a, b⟩ = y ∧ okF m ⟨4, k, a, b⟩ = true := by
  obtain ⟨h1, h2, h3⟩ := on_place hk 4 (by decide) hy a b
  exact ⟨by rw [h3]; simp [newF], h1, by rw [h2]; rfl⟩
theorem store_f (hk : k < m.length) (hy : m[k] = y) (a b : Int) : mF m ⟨2, k, a, b⟩ = m.set k a ∧ vF m ⟨2, k, a, b⟩ = y ∧ okF m ⟨2, k, a, b⟩ = true := by
  obtain ⟨h1, h2, h3⟩ := on_place hk 2 (by decide) hy a b
  exact ⟨by rw [h3]; simp [newF], h1, by rw [h2]; rfl⟩
theorem add_set (hk : k < m.length) (y a b : Int) : mF (m.set k y) ⟨4, k, a, b⟩ = m.set k (addU y a) ∧ vF (m.set k y) ⟨4, k, a, b⟩ = y ∧ okF (m.set k y) ⟨4, k, a, b⟩ = true := by
  obtain ⟨h1, h2, h3⟩ := add_f (m := m.set k y) (k := k) (y := y) (by simpa using hk) (by simp) a b
  exact ⟨by rw [h1, List.set_set], h2, h3⟩
theorem load_set (hk : k < m.length) (y a b : Int) : mF (m.set k y) ⟨1, k, a, b⟩ = m.set k y ∧ vF (m.set k y) ⟨1, k, a, b⟩ = y ∧ okF (m.set k y) ⟨1, k, a, b⟩ = true :=
  load_f (m := m.set k y) (k := k) (y := y) (by simpa using hk) (by simp) a b
theorem adds_all (hk : k < m.length) (hy : m[k] = y) (a b t : Int) (ht : addU (addU (addU y a) b) t = y) :
    allM m [⟨4, k, a, 0⟩, ⟨4, k, b, 0⟩, ⟨1, k, 0, 0⟩, ⟨4, k, t, 0⟩] = m ∧ allV m [⟨4, k, a, 0⟩, ⟨4, k, b, 0⟩, ⟨1, k, 0, 0⟩, ⟨4, k, t, 0⟩] = [y, addU y a, addU (addU y a) b, addU (addU y a) b] ∧
      ((allN m [⟨4, k, a, 0⟩, ⟨4, k, b, 0⟩, ⟨1, k, 0, 0⟩, ⟨4, k, t, 0⟩] : Nat) : Int) = 4 := by
  have hs := set_same hk hy
  obtain ⟨a1, a2, a3⟩ := add_set hk y a 0
  obtain ⟨b1, b2, b3⟩ := add_set hk (addU y a) b 0
  obtain ⟨c1, c2, c3⟩ := load_set hk (addU (addU y a) b) 0 0
  obtain ⟨d1, d2, d3⟩ := add_set hk (addU (addU y a) b) t 0
  rw [hs] at a1 a2 a3
  simp only [allM, allV, allN, a1, a2, a3, b1, b2, b3, c1, c2, c3, d1, d2, d3, ht, hs]
  exact ⟨trivial, trivial, by decide⟩
theorem taken_back (hy : U y) (a b : Int) : addU (addU (addU y a) b) ((-((a + b) % 18446744073709551616)) % 18446744073709551616) = y := by
  unfold addU; unfold U at hy; omega
/-- two deeds on unlike cells -/
theorem mF_get (m : List Int) (o : Dd) (i : Nat) (h : (i : Int) ≠ o.t) : (mF m o)[i]? = m[i]? := by
  unfold mF
  split
  · rename_i ha
    have := (atF_iff.1 ha).2
    rw [List.getElem?_set_ne (by omega)]
  · rfl
theorem was_apart (m : List Int) (o p : Dd) (h : o.t ≠ p.t) (hp : placeF m p = true) : wasF (mF m o) p = wasF m p := by
  unfold wasF
  unfold placeF at hp
  rw [decide_eq_true_eq] at hp
  rw [List.getD_eq_getElem?_getD, List.getD_eq_getElem?_getD, mF_get _ _ _ (by omega)]
theorem at_apart (m : List Int) (o p : Dd) : atF (mF m o) p = atF m p := by
  unfold atF placeF; rw [mF_len]
theorem apart_f (m : List Int) (o p : Dd) (h : o.t ≠ p.t) : vF (mF m o) p = vF m p ∧ okF (mF m o) p = okF m p := by
  have ha := at_apart m o p
  unfold vF okF
  rw [ha]
  cases e : atF m p with
  | false => simp
  | true =>
    have hp : placeF m p = true := by unfold atF at e; exact (Bool.and_eq_true _ _ ▸ e).2
    rw [was_apart m o p h hp]; simp
theorem apart_m (m : List Int) (o p : Dd) (h : o.t ≠ p.t) : mF (mF m o) p = mF (mF m p) o := by
  have key : ∀ (o p : Dd), o.t ≠ p.t → mF (mF m o) p = if atF m p then (mF m o).set p.t.toNat (newF (wasF m p) p) else mF m o := by
    intro o p h
    conv => lhs; unfold mF
    rw [show (if atF m o = true then m.set o.t.toNat (newF (wasF m o) o) else m) = mF m o from rfl, at_apart]
    split
    · rename_i e
      have hp : placeF m p = true := by unfold atF at e; exact (Bool.and_eq_true _ _ ▸ e).2
      rw [was_apart m o p h hp]
    · rfl
  rw [key o p h, key p o h.symm]
  unfold mF
  split <;> split <;> try rfl
  rename_i e1 e2
  have h1 := (atF_iff.1 e1).2
  have h2 := (atF_iff.1 e2).2
  rw [List.set_comm _ _ (by omega)]
theorem apart_all (m : List Int) (o p : Dd) (h : o.t ≠ p.t) : allM m [o, p] = allM m [p, o] ∧ allV m [p, o] = [vF m p, vF m o] ∧ allV m [o, p] = [vF m o, vF m p] ∧ allN m [o, p] = allN m [p, o] := by
  obtain ⟨h1, h2⟩ := apart_f m o p h
  obtain ⟨h3, h4⟩ := apart_f m p o h.symm
  refine ⟨by simp only [allM]; exact apart_m m o p h, by simp only [allV, h3], by simp only [allV, h1], ?_⟩
  simp only [allN, h2, h4]; omega
end
end Go.Proofs.Ytpffknlbffnafaa
