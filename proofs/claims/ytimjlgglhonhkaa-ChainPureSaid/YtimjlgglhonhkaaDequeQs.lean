import Derived.Test.YtimjlgglhonhkaaDequeMach
import Derived.Test.YtimjlgglhonhkaaDequePl
/- Layer deque: numbers stay numbers of 64 bits. No program in this text. -/
namespace Go.Proofs.Ytimjlgglhonhkaa

theorem s64_I (x : Int) : I6 (s64 x) := by unfold I6 s64; omega
theorem w64_U' (x : Int) : U (w64 x) := by unfold U w64; omega
theorem load_U {m : List Int} (h : AllU m) (a : Int) : U (loadF m a) := vF_U h _
theorem store_U {m : List Int} (h : AllU m) {a v : Int} (ha : I6 a) (hv : U v) : AllU (storeF m a v) := mF_U h ⟨hv, by simp [U], by simp, ha⟩
theorem swap_U {m : List Int} (h : AllU m) {a x y : Int} (ha : I6 a) (hx : U x) (hy : U y) : AllU (swapF m a x y) := mF_U h ⟨hx, hy, by simp, ha⟩
theorem I6_small {x : Int} (h0 : -100 ≤ x) (h1 : x ≤ 100) : I6 x := by unfold I6; omega
structure StepU (m : List Int) (r : List Int × Mc) : Prop where
  mem : AllU r.1
  mac : McU r.2
  len : r.1.length = m.length
theorem step_U {m : List Int} {d : Mc} (hm : AllU m) (hd : McU d) : StepU m (stepF m d) := by
  have hk := hd.kind
  have hs := hd.base
  have hc := hd.cap
  have hb := hd.b
  have ht := hd.t
  have hx := hd.x
  have hu := hd.out
  have hbc : I6 (bottomC d) := s64_I _
  have hl := load_U hm
  have hsl : ∀ a v, (storeF m a v).length = m.length := fun a v => mF_len _ _
  have hwl : ∀ a x y, (swapF m a x y).length = m.length := fun a x y => mF_len _ _
  have no : StepU m (m, d) := ⟨hm, hd, rfl⟩
  have sm : ∀ {y : Int}, (-100 ≤ y ∧ y ≤ 100) → I6 y := fun h => I6_small h.1 h.2
  unfold stepF
  split
  · exact no
  · split
    · unfold pushF
      repeat' split
      all_goals first
        | exact no
        | exact ⟨hm, ⟨hk, sm (by simp), hs, hc, hl _, ht, hx, hu⟩, rfl⟩
        | exact ⟨hm, ⟨hk, sm (by simp), hs, hc, hb, hl _, hx, hu⟩, rfl⟩
        | exact ⟨hm, ⟨hk, sm (by simp), hs, hc, hb, hl _, hx, sm (by simp)⟩, rfl⟩
        | exact ⟨store_U hm (s64_I _) (w64_U' _), ⟨hk, sm (by simp), hs, hc, hb, ht, hx, hu⟩, hsl _ _⟩
        | exact ⟨store_U hm (s64_I _) (w64_U' _), ⟨hk, sm (by simp), hs, hc, hb, ht, hx, sm (by simp)⟩, hsl _ _⟩
    · split
      · unfold popF
        repeat' split
        all_goals first
          | exact no
          | exact ⟨hm, ⟨hk, sm (by simp), hs, hc, hl _, ht, hx, hu⟩, rfl⟩
          | exact ⟨hm, ⟨hk, sm (by simp), hs, hc, hb, hl _, hx, hu⟩, rfl⟩
          | exact ⟨hm, ⟨hk, sm (by simp), hs, hc, hb, ht, s64_I _, hu⟩, rfl⟩
          | exact ⟨hm, ⟨hk, sm (by simp), hs, hc, hb, ht, s64_I _, sm (by simp)⟩, rfl⟩
          | exact ⟨store_U hm (s64_I _) (w64_U' _), ⟨hk, sm (by simp), hs, hc, hb, ht, hx, hu⟩, hsl _ _⟩
          | exact ⟨store_U hm (s64_I _) hb, ⟨hk, sm (by simp), hs, hc, hb, ht, hx, sm (by simp)⟩, hsl _ _⟩
          | exact ⟨store_U hm (s64_I _) hb, ⟨hk, sm (by simp), hs, hc, hb, ht, sm (by simp), sm (by simp)⟩, hsl _ _⟩
          | exact ⟨swap_U hm hs ht (w64_U' _), ⟨hk, sm (by simp), hs, hc, hb, ht, hx, hu⟩, hwl _ _ _⟩
      · split
        · unfold stealF
          repeat' split
          all_goals first
            | exact no
            | exact ⟨hm, ⟨hk, sm (by simp), hs, hc, hb, hl _, hx, hu⟩, rfl⟩
            | exact ⟨hm, ⟨hk, sm (by simp), hs, hc, hl _, ht, hx, hu⟩, rfl⟩
            | exact ⟨hm, ⟨hk, sm (by simp), hs, hc, hl _, ht, hx, sm (by simp)⟩, rfl⟩
            | exact ⟨hm, ⟨hk, sm (by simp), hs, hc, hb, ht, s64_I _, hu⟩, rfl⟩
            | exact ⟨swap_U hm hs ht (w64_U' _), ⟨hk, sm (by simp), hs, hc, hb, ht, hx, sm (by simp)⟩, hwl _ _ _⟩
            | exact ⟨swap_U hm hs ht (w64_U' _), ⟨hk, sm (by simp), hs, hc, hb, ht, sm (by simp), sm (by simp)⟩, hwl _ _ _⟩
        · exact no
theorem start_U {k s c x : Int} (hk : I6 k) (hs : I6 s) (hc : I6 c) (hx : I6 x) : McU (startF k s c x) := ⟨hk, by simp [startF, I6], hs, hc, by simp [startF, U], by simp [startF, U], hx, by simp [startF, I6]⟩
end Go.Proofs.Ytimjlgglhonhkaa
/- Layer deque: what is in the deque, place by place. No program in this text. -/
namespace Go.Proofs.Ytimjlgglhonhkaa

/-- the place of the k-th one -/
def plF (fr base size : Int) (k : Nat) : Int := s64 (base + 2 + w64 (fr + (k : Nat)) % max size 1)
def plL (fr base size : Int) (n : Nat) : List Int := (List.range n).map (plF fr base size)
theorem plL_succ (fr base size : Int) (n : Nat) : plL fr base size (n + 1) = plL fr base size n ++ [plF fr base size n] := by unfold plL; rw [List.range_succ, List.map_append]; rfl
theorem plL_len (fr base size : Int) (n : Nat) : (plL fr base size n).length = n := by unfold plL; simp
theorem items_big {m : List Int} {base size : Int} {o : Mc} {fr T d : Int} (hf : loadF m base = fr) (hT : endF m base o = T) (hd : w64 (T - fr) = d) (h : min (max size 1) 64 < d) : itemsF m base size o = [] := by
  unfold itemsF
  simp only [hf, hT, hd]
  rw [if_pos (.inr h)]
theorem items_fit {m : List Int} {base size : Int} {o : Mc} {fr T d : Int} (hf : loadF m base = fr) (hT : endF m base o = T) (hd : w64 (T - fr) = d) (h : d ≤ min (max size 1) 64) (D : Nat) (hD : d = D) : itemsF m base size o = ((plL fr base size D).map (loadF m)).map s64 := by
  have h64 : d ≤ 64 := by omega
  have h0 : 0 ≤ d := by rw [← hd]; unfold w64; omega
  have hs : s64 (T - fr) = d := by unfold w64 at hd; unfold s64; omega
  unfold itemsF
  simp only [hf, hT, hd, hs]
  by_cases hz : d ≤ 0
  · have : D = 0 := by omega
    subst this
    rw [if_pos (.inl hz)]
    rfl
  · rw [if_neg (by omega)]
    unfold plL
    rw [List.map_map, List.map_map]
    rw [show d.toNat = D by omega]
    rfl
/-- going on from fr, so often, leads to T -/
theorem go_end {fr T d : Int} (hT : U T) (hd : w64 (T - fr) = d) (D : Nat) (hD : d = D) : w64 (fr + (D : Nat)) = T := by
  unfold w64 at *; unfold U at hT; omega
theorem go_ne {fr T d : Int} (_hT : U T) (hd : w64 (T - fr) = d) {D j : Nat} (hD : d = D) (h64 : D ≤ 64) (hj : j < D) : w64 (fr + (j : Nat)) ≠ T := by
  unfold w64 at *; omega
theorem go_next (fr : Int) (j : Nat) : w64 (w64 (fr + (j : Nat)) + 1) = w64 (fr + ((j + 1 : Nat) : Int)) := by unfold w64; omega
theorem go_left {fr T d : Int} (hT : U T) (hd : w64 (T - fr) = d) {D j : Nat} (hD : d = D) (hj : j ≤ D) (h64 : D ≤ 64) : (w64 (T - w64 (fr + (j : Nat)))).toNat = D - j := by
  unfold w64 at *; unfold U at hT; omega
theorem end_yes {m : List Int} {base : Int} {o : Mc} {q to : Int} (hq : s64 (base + 1) = q) (ht : loadF m q = to) (ho : extF o = true) : endF m base o = w64 (to + 1) := by unfold endF; rw [hq, ht, ho]; rfl
theorem end_no {m : List Int} {base : Int} {o : Mc} {q to : Int} (hq : s64 (base + 1) = q) (ht : loadF m q = to) (hu : U to) (ho : extF o = false) : endF m base o = to := by
  unfold endF; rw [hq, ht, ho]; unfold U at hu; unfold w64; simp; omega
end Go.Proofs.Ytimjlgglhonhkaa
/- Layer deque: plain facts for the laws. No program in this text. -/
namespace Go.Proofs.Ytimjlgglhonhkaa

theorem getD_at {l : List Int} {k : Nat} (h : k < l.length) : l.getD k 0 = l[k] := by rw [List.getD_eq_getElem?_getD, List.getElem?_eq_getElem h]; rfl
theorem pure_in {m m1 : List Int} {d : Mc} (h : OneIn m m1 d) {X : Nat} (h1 : X < m1.length) (h2 : X < m.length) (hne : m1[X] ≠ m[X]) : d.base ≤ X ∧ s64 ((X : Int) - d.base - 2) < capF d := by
  rcases h with rfl | ⟨j, v, hj, rfl, hb, hc⟩
  · exact absurd rfl hne
  · have : j = X := by
      rcases Nat.lt_trichotomy j X with hlt | he | hgt
      · exact absurd (by rw [List.getElem_set_ne (by omega)]) hne
      · exact he
      · exact absurd (by rw [List.getElem_set_ne (by omega)]) hne
    subst this
    exact ⟨hb, hc⟩
theorem turned_eq {m m1 : List Int} {X : Nat} (h1 : X < m1.length) (h2 : X < m.length) (he : m1[X] = m[X]) : turnedF m m1 (X + 1) = turnedF m m1 X := by
  rw [turned_succ, getD_at h1, getD_at h2, if_pos he]; rfl
theorem turned_ne {m m1 : List Int} {X : Nat} (h1 : X < m1.length) (h2 : X < m.length) (he : m1[X] ≠ m[X]) : turnedF m m1 (X + 1) = turnedF m m1 X + 1 := by
  rw [turned_succ, getD_at h1, getD_at h2, if_neg he]
theorem turned_mono (m m1 : List Int) (j : Nat) : ∀ k, j ≤ k → turnedF m m1 j ≤ turnedF m m1 k
  | 0, h => by have : j = 0 := by omega
               subst this; exact Nat.le_refl _
  | k + 1, h => by
    by_cases e : j = k + 1
    · subst e; exact Nat.le_refl _
    · have := turned_mono m m1 j k (by omega)
      rw [turned_succ]; omega
theorem step_one {m : List Int} {d : Mc} (hd : McU d) : OneIn m (stepF m d).1 d ∧ (stepF m d).2.kind = d.kind ∧ (stepF m d).2.base = d.base ∧ (stepF m d).2.cap = d.cap ∧ (d.out ≠ 0 → stepF m d = (m, d)) := step_in hd.base hd.cap.2
end Go.Proofs.Ytimjlgglhonhkaa
