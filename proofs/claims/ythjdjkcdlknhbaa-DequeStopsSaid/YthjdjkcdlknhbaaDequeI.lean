/- Layer deque: whatever the schedule: what is in the deque, held, got. No program in this text. -/
import Derived.Test.YthjdjkcdlknhbaaDequeP
namespace Go.Proofs.Ythjdjkcdlknhbaa

/-- what index i's place has -/
def valP (ps : List Int) (i : Nat) : Int := ps.getD (i % ps.length) 0
/-- the indices from t on, below e -/
def its (ps : List Int) (t e : Nat) : List Int := (List.range (e - t)).map fun k => valP ps (t + k)
section
variable {ps : List Int} {t e : Nat}
theorem its_nil (h : e ≤ t) : its ps t e = [] := by unfold its; rw [Nat.sub_eq_zero_of_le h]; rfl
theorem its_len : (its ps t e).length = e - t := by unfold its; simp
theorem its_head (h : t < e) : its ps t e = valP ps t :: its ps (t + 1) e := by
  unfold its
  rw [show e - t = (e - (t + 1)) + 1 by omega, List.range_succ_eq_map, List.map_cons, List.map_map]
  congr 1
  apply List.map_congr_left
  intro k _
  simp only [Function.comp_apply, Nat.succ_eq_add_one]
  rw [show t + (k + 1) = t + 1 + k by omega]
theorem its_snoc (h : t ≤ e) : its ps t (e + 1) = its ps t e ++ [valP ps e] := by
  unfold its
  rw [show e + 1 - t = (e - t) + 1 by omega, List.range_succ, List.map_append, List.map_singleton, show t + (e - t) = e by omega]
theorem val_get (i : Nat) (h : 0 < ps.length) : valP ps i = ps[i % ps.length]'(Nat.mod_lt _ h) := by
  unfold valP; rw [List.getD_eq_getElem?_getD, List.getElem?_eq_getElem (Nat.mod_lt _ h)]; rfl
theorem mod_ne {i j c : Nat} (h1 : i < j) (h2 : j < i + c) : i % c ≠ j % c := by
  intro h
  have h3 := Nat.sub_mod_eq_zero_of_mod_eq h.symm
  rw [Nat.mod_eq_of_lt (by omega)] at h3
  omega
theorem val_set_ne {i j : Nat} (x : Int) (h1 : i < j) (h2 : j < i + ps.length) : valP (ps.set (j % ps.length) x) i = valP ps i := by
  unfold valP
  rw [List.length_set, List.getD_eq_getElem?_getD, List.getD_eq_getElem?_getD, List.getElem?_set_ne (fun h => mod_ne h1 h2 h.symm)]
theorem val_set_eq (j : Nat) (x : Int) (h : 0 < ps.length) : valP (ps.set (j % ps.length) x) j = x := by
  unfold valP
  rw [List.length_set, List.getD_eq_getElem?_getD, List.getElem?_set_self (Nat.mod_lt _ h)]; rfl
theorem its_set (x : Int) (h : e < t + ps.length) : its (ps.set (e % ps.length) x) t e = its ps t e := by
  unfold its
  apply List.map_congr_left
  intro k hk
  rw [List.mem_range] at hk
  exact val_set_ne x (by omega) (by omega)
theorem val_mem (i : Nat) (h : 0 < ps.length) : valP ps i ∈ ps := by rw [val_get i h]; exact List.getElem_mem _
theorem its_mem {v : Int} (h : 0 < ps.length) (hv : v ∈ its ps t e) : v ∈ ps := by
  unfold its at hv
  obtain ⟨k, _, rfl⟩ := List.mem_map.1 hv
  exact val_mem _ h
end

/-- how the owner stands: E, and what it holds -/
inductive Ph (cap t bt : Nat) (ps : List Int) (nx : Int) : Mc → Nat → List Int → Prop
  | idle (o : Mc) (h : o.out ≠ 0) (h1 : t ≤ bt) (h2 : bt ≤ t + cap) : Ph cap t bt ps nx o bt []
  | push0 (b0 t0 x : Int) (hx : x = nx - 1) (h1 : t ≤ bt) (h2 : bt ≤ t + cap) : Ph cap t bt ps nx ⟨1, 0, 0, cap, b0, t0, x, 0⟩ bt []
  | push1 (t0 x : Int) (hx : x = nx - 1) (h1 : t ≤ bt) (h2 : bt ≤ t + cap) : Ph cap t bt ps nx ⟨1, 1, 0, cap, bt, t0, x, 0⟩ bt []
  | push2 (t0 x : Int) (hx : x = nx - 1) (h1 : t ≤ bt) (h2 : bt < t + cap) : Ph cap t bt ps nx ⟨1, 2, 0, cap, bt, t0, x, 0⟩ bt []
  | push3 (t0 x : Int) (hx : x = nx - 1) (h1 : t ≤ bt) (h2 : bt < t + cap) (hv : valP ps bt = x) : Ph cap t bt ps nx ⟨1, 3, 0, cap, bt, t0, x, 0⟩ bt []
  | pop0 (b0 t0 x : Int) (h1 : t ≤ bt) (h2 : bt ≤ t + cap) : Ph cap t bt ps nx ⟨2, 0, 0, cap, b0, t0, x, 0⟩ bt []
  | pop1 (t0 x : Int) (h1 : t ≤ bt) (h2 : bt ≤ t + cap) : Ph cap t bt ps nx ⟨2, 1, 0, cap, bt, t0, x, 0⟩ bt []
  | pop2 (t0 x : Int) (h1 : t ≤ bt + 1) (h2 : bt + 1 ≤ t + cap) : Ph cap t bt ps nx ⟨2, 2, 0, cap, (bt : Int) + 1, t0, x, 0⟩ (bt + 1) []
  | pop3a (t0 x : Int) (ht : t0 ≠ bt) (h1 : t ≤ bt) (h2 : bt + 1 ≤ t + cap) : Ph cap t bt ps nx ⟨2, 3, 0, cap, (bt : Int) + 1, t0, x, 0⟩ bt [valP ps bt]
  | pop3b (x : Int) (h1 : t = bt ∨ t = bt + 1) : Ph cap t bt ps nx ⟨2, 3, 0, cap, (bt : Int) + 1, bt, x, 0⟩ (bt + 1) []
  | pop4 (x : Int) (h1 : t = bt ∧ x = valP ps bt ∨ t = bt + 1) : Ph cap t bt ps nx ⟨2, 4, 0, cap, (bt : Int) + 1, bt, x, 0⟩ (bt + 1) []
  | pop5 (t0 x : Int) (h1 : t = bt + 1) : Ph cap t bt ps nx ⟨2, 5, 0, cap, (bt : Int) + 1, t0, x, 0⟩ (bt + 1) []
  | pop6 (t0 x : Int) (h1 : t = bt + 1) : Ph cap t bt ps nx ⟨2, 6, 0, cap, (bt : Int) + 1, t0, x, 0⟩ bt [x]
/-- how one stands that steals -/
inductive Th (cap t e : Nat) (ps : List Int) : Mc → Prop
  | p0 (b0 t0 x : Int) : Th cap t e ps ⟨3, 0, 0, cap, b0, t0, x, 0⟩
  | p1 (b0 x : Int) (s : Nat) (h : s ≤ t) : Th cap t e ps ⟨3, 1, 0, cap, b0, s, x, 0⟩
  | p2 (b0 x : Int) (s : Nat) (h : s ≤ t) (h1 : s = t → t < e) : Th cap t e ps ⟨3, 2, 0, cap, b0, s, x, 0⟩
  | p3 (b0 x : Int) (s : Nat) (h : s ≤ t) (h1 : s = t → t < e ∧ x = valP ps t) : Th cap t e ps ⟨3, 3, 0, cap, b0, s, x, 0⟩
/-- what is pushed is above all that is in -/
def limF (o : Mc) (nx : Int) : Int := if o.kind = 1 ∧ o.out = 0 then nx - 1 else nx

structure Inv (cap hi : Nat) (nx last : Int) (m : List Int) (o : Mc) (ths : List Mc) (t bt e : Nat) (ps H : List Int) : Prop where
  mem : m = (t : Int) :: (bt : Int) :: ps
  len : ps.length = cap
  c1 : 1 ≤ cap
  c2 : cap ≤ 64
  t1 : 1 ≤ t
  ht : t ≤ hi
  hb : bt ≤ hi
  hn : nx ≤ hi
  own : Ph cap t bt ps nx o e H
  th : ∀ d ∈ ths, Th cap t e ps d
  srt : (its ps t e).Pairwise (· < ·)
  rng : ∀ v ∈ its ps t e, last < v ∧ v < limF o nx
  vals : ∀ v ∈ ps, 0 ≤ v ∧ v < nx
  l0 : 0 ≤ last
  ll : last < limF o nx

theorem Ph.end_le {cap t bt e : Nat} {ps H : List Int} {nx : Int} {o : Mc} (h : Ph cap t bt ps nx o e H) : bt ≤ e ∧ e ≤ bt + 1 ∧ e ≤ t + cap + 1 ∧ t ≤ bt + 1 := by cases h <;> omega
theorem Ph.room {cap t bt e : Nat} {ps H : List Int} {nx : Int} {o : Mc} (hc : 1 ≤ cap) (h : Ph cap t bt ps nx o e H) : e - t ≤ cap := by cases h <;> omega

/-! ### steps at place 0 -/
theorem bottom0 (k p c b t x u : Int) : bottomC ⟨k, p, 0, c, b, t, x, u⟩ = 1 := by simp [bottomC, s64]
theorem place0 (k p b t x u : Int) (cap i : Nat) (hc : 1 ≤ cap) (hc2 : cap ≤ 64) : placeC ⟨k, p, 0, cap, b, t, x, u⟩ (i : Int) = 2 + ((i % cap : Nat) : Int) := by
  have h := Nat.mod_lt i (show 0 < cap by omega)
  unfold placeC capF
  simp only
  rw [show max (cap : Int) 1 = (cap : Int) by omega, show ((i : Int) % (cap : Int)) = ((i % cap : Nat) : Int) by simp]
  rw [s64_small (by omega) (by omega)]
  omega
theorem cap0 (k p b t x u : Int) (cap : Nat) (hc : 1 ≤ cap) : capF ⟨k, p, 0, cap, b, t, x, u⟩ = cap := by unfold capF; simp only; omega
section
variable {cap t bt : Nat} {ps : List Int}
theorem load_val (k p b t0 x u : Int) (i : Nat) (hl : ps.length = cap) (hc : 1 ≤ cap) (hc2 : cap ≤ 64) (T B : Int) : loadF (T :: B :: ps) (placeC ⟨k, p, 0, cap, b, t0, x, u⟩ (i : Int)) = valP ps i := by
  have h := Nat.mod_lt i (show 0 < cap by omega)
  rw [place0 _ _ _ _ _ _ _ _ hc hc2, load_at _ _ _ _ (by omega), val_get i (by omega)]
  simp [hl]
theorem store_val (k p b t0 x u : Int) (i : Nat) (hl : ps.length = cap) (hc : 1 ≤ cap) (hc2 : cap ≤ 64) (T B v : Int) : storeF (T :: B :: ps) (placeC ⟨k, p, 0, cap, b, t0, x, u⟩ (i : Int)) v = T :: B :: ps.set (i % ps.length) v := by
  have h := Nat.mod_lt i (show 0 < cap by omega)
  rw [place0 _ _ _ _ _ _ _ _ hc hc2, store_at _ _ _ _ _ (by omega), hl]
end
end Go.Proofs.Ythjdjkcdlknhbaa
