import Derived.Test.YtimjlgglhonhkaaMemP
/- Layer deque: a step, what is in the deque, as plain functions on lists of numbers. No program in this text. -/
namespace Go.Proofs.Ytimjlgglhonhkaa

/-- a machine -/
structure Mc where
  kind : Int
  pc : Int
  base : Int
  cap : Int
  b : Int
  t : Int
  x : Int
  out : Int
def w64 (x : Int) : Int := x % 18446744073709551616
def s64 (x : Int) : Int := (x + 9223372036854775808) % 18446744073709551616 - 9223372036854775808
def loadF (m : List Int) (a : Int) : Int := vF m ⟨1, a, 0, 0⟩
def storeF (m : List Int) (a v : Int) : List Int := mF m ⟨2, a, v, 0⟩
def swapF (m : List Int) (a x y : Int) : List Int := mF m ⟨3, a, x, y⟩
def swapsF (m : List Int) (a x y : Int) : Bool := okF m ⟨3, a, x, y⟩
def capF (d : Mc) : Int := max d.cap 1
def placeC (d : Mc) (i : Int) : Int := s64 (d.base + 2 + i % capF d)
def bottomC (d : Mc) : Int := s64 (d.base + 1)
def startF (kind base cap x : Int) : Mc := ⟨kind, 0, base, cap, 0, 0, x, 0⟩

def pushF (m : List Int) (d : Mc) : List Int × Mc :=
  if d.pc = 0 then (m, { d with b := loadF m (bottomC d), pc := 1 })
  else if d.pc = 1 then (m, { d with t := loadF m d.base, out := if capF d ≤ w64 (d.b - loadF m d.base) then 3 else d.out, pc := 2 })
  else if d.pc = 2 then (storeF m (placeC d d.b) (w64 d.x), { d with pc := 3 })
  else if d.pc = 3 then (storeF m (bottomC d) (w64 (d.b + 1)), { d with out := 1, pc := 4 })
  else (m, d)
def popF (m : List Int) (d : Mc) : List Int × Mc :=
  if d.pc = 0 then (m, { d with b := loadF m (bottomC d), pc := 1 })
  else if d.pc = 1 then (storeF m (bottomC d) (w64 (d.b - 1)), { d with pc := 2 })
  else if d.pc = 2 then (m, { d with t := loadF m d.base, pc := if 0 < s64 (loadF m d.base - w64 (d.b - 1)) then 5 else 3 })
  else if d.pc = 3 then (m, { d with x := s64 (loadF m (placeC d (w64 (d.b - 1)))), out := if d.t = w64 (d.b - 1) then d.out else 1, pc := 4 })
  else if d.pc = 4 then (swapF m d.base d.t (w64 (d.t + 1)), { d with pc := if swapsF m d.base d.t (w64 (d.t + 1)) then 6 else 5 })
  else if d.pc = 5 then (storeF m (bottomC d) d.b, { d with out := 2, x := 0, pc := 6 })
  else if d.pc = 6 then (storeF m (bottomC d) d.b, { d with out := 1, pc := 7 })
  else (m, d)
def stealF (m : List Int) (d : Mc) : List Int × Mc :=
  if d.pc = 0 then (m, { d with t := loadF m d.base, pc := 1 })
  else if d.pc = 1 then (m, { d with b := loadF m (bottomC d), out := if s64 (loadF m (bottomC d) - d.t) ≤ 0 then 2 else d.out, pc := 2 })
  else if d.pc = 2 then (m, { d with x := s64 (loadF m (placeC d d.t)), pc := 3 })
  else if d.pc = 3 then (swapF m d.base d.t (w64 (d.t + 1)), { d with out := if swapsF m d.base d.t (w64 (d.t + 1)) then 1 else 4, x := if swapsF m d.base d.t (w64 (d.t + 1)) then d.x else 0, pc := 4 })
  else (m, d)
def stepF (m : List Int) (d : Mc) : List Int × Mc :=
  if d.out ≠ 0 then (m, d) else if d.kind = 1 then pushF m d else if d.kind = 2 then popF m d else if d.kind = 3 then stealF m d else (m, d)

/-- the owner has taken BOTTOM back, and the last one is still in -/
def extF (o : Mc) : Bool := decide (o.kind = 2 ∧ o.out = 0 ∧ (o.pc = 2 ∨ o.pc = 4 ∨ o.pc = 5 ∨ o.pc = 3 ∧ o.t = w64 (o.b - 1)))
def endF (m : List Int) (base : Int) (o : Mc) : Int := w64 (loadF m (s64 (base + 1)) + if extF o then 1 else 0)
/-- what is in the deque -/
def itemsF (m : List Int) (base size : Int) (o : Mc) : List Int :=
  let top := loadF m base
  let n := w64 (endF m base o - top)
  if s64 (endF m base o - top) ≤ 0 ∨ min (max size 1) 64 < n then []
  else (List.range n.toNat).map fun k => s64 (loadF m (s64 (base + 2 + w64 (top + (k : Nat)) % max size 1)))
def cellsF (n : Int) : List Int := 1 :: 1 :: List.replicate (min (max n 1) 64).toNat 0

theorem w64_small {x : Int} (h0 : 0 ≤ x) (h1 : x ≤ 18446744073709551615) : w64 x = x := by unfold w64; omega
theorem s64_small {x : Int} (h0 : -9223372036854775808 ≤ x) (h1 : x ≤ 9223372036854775807) : s64 x = x := by unfold s64; omega

/-! ### a deque that begins at place 0: TOP, BOTTOM, the places -/
section
variable (t b : Int) (ps : List Int)
theorem load_top : loadF (t :: b :: ps) 0 = t := by unfold loadF; rw [(at_on (by simp; omega)).1]; rfl
theorem load_bot : loadF (t :: b :: ps) 1 = b := by unfold loadF; rw [(at_on (by simp; omega)).1]; rfl
theorem load_at (j : Nat) (h : j < ps.length) : loadF (t :: b :: ps) (2 + (j : Int)) = ps[j] := by
  unfold loadF
  rw [(at_on (by simp; omega)).1]
  rw [was_get (by simp; omega)]
  have e : (2 + (j : Int)).toNat = j + 2 := by omega
  simp [e]
theorem store_bot (v : Int) : storeF (t :: b :: ps) 1 v = t :: v :: ps := by unfold storeF; rw [(at_on (by simp; omega)).2.2]; rfl
theorem store_at (j : Nat) (v : Int) (h : j < ps.length) : storeF (t :: b :: ps) (2 + (j : Int)) v = t :: b :: ps.set j v := by
  unfold storeF
  rw [(at_on (by simp; omega)).2.2]
  have e : (2 + (j : Int)).toNat = j + 2 := by omega
  simp only [newF, e, if_true]
  rfl
theorem swap_yes (y : Int) : swapF (t :: b :: ps) 0 t y = y :: b :: ps ∧ swapsF (t :: b :: ps) 0 t y = true := by
  unfold swapF swapsF
  have h := at_on (m := t :: b :: ps) (o := ⟨3, 0, t, y⟩) (by simp; omega)
  rw [h.2.2, h.2.1]
  simp [newF, wasF]
theorem swap_no {x : Int} (y : Int) (hx : t ≠ x) : swapF (t :: b :: ps) 0 x y = t :: b :: ps ∧ swapsF (t :: b :: ps) 0 x y = false := by
  unfold swapF swapsF
  have h := at_on (m := t :: b :: ps) (o := ⟨3, 0, x, y⟩) (by simp; omega)
  rw [h.2.2, h.2.1]
  simp [newF, wasF, hx]
end
end Go.Proofs.Ytimjlgglhonhkaa
/- Layer deque: whatever the schedule: what is in the deque, held, got. No program in this text. -/
namespace Go.Proofs.Ytimjlgglhonhkaa

/-- what index i's place has -/
def valP (ps : List Int) (i : Nat) : Int := ps.getD (i % ps.length) 0
/-- the indices from t on, below e -/
def its (ps : List Int) (t e : Nat) : List Int := (List.range (e - t)).map fun k => valP ps (t + k)
section
variable {ps : List Int} {t e : Nat}
theorem its_nil (h : e ≤ t) : its ps t e = [] := by unfold its; rw [Nat.sub_eq_zero_of_le h]; rfl
theorem its_len : (its ps t e).length = e - t := by unfold its; simp
theorem its_head (h : t < e) : its ps t e = valP ps t :: its ps (t + 1) e := by
  unfold its
  rw [show e - t = (e - (t + 1)) + 1 by omega, List.range_succ_eq_map, List.map_cons, List.map_map]
  congr 1
  apply List.map_congr_left
  intro k _
  simp only [Function.comp_apply, Nat.succ_eq_add_one]
  rw [show t + (k + 1) = t + 1 + k by omega]
theorem its_snoc (h : t ≤ e) : its ps t (e + 1) = its ps t e ++ [valP ps e] := by
  unfold its
  rw [show e + 1 - t = (e - t) + 1 by omega, List.range_succ, List.map_append, List.map_singleton, show t + (e - t) = e by omega]
theorem val_get (i : Nat) (h : 0 < ps.length) : valP ps i = ps[i % ps.length]'(Nat.mod_lt _ h) := by
  unfold valP; rw [List.getD_eq_getElem?_getD, List.getElem?_eq_getElem (Nat.mod_lt _ h)]; rfl
theorem mod_ne {i j c : Nat} (h1 : i < j) (h2 : j < i + c) : i % c ≠ j % c := by
  intro h
  have h3 := Nat.sub_mod_eq_zero_of_mod_eq h.symm
  rw [Nat.mod_eq_of_lt (by omega)] at h3
  omega
theorem val_set_ne {i j : Nat} (x : Int) (h1 : i < j) (h2 : j < i + ps.length) : valP (ps.set (j % ps.length) x) i = valP ps i := by
  unfold valP
  rw [List.length_set, List.getD_eq_getElem?_getD, List.getD_eq_getElem?_getD, List.getElem?_set_ne (fun h => mod_ne h1 h2 h.symm)]
theorem val_set_eq (j : Nat) (x : Int) (h : 0 < ps.length) : valP (ps.set (j % ps.length) x) j = x := by
  unfold valP
  rw [List.length_set, List.getD_eq_getElem?_getD, List.getElem?_set_self (Nat.mod_lt _ h)]; rfl
theorem its_set (x : Int) (h : e < t + ps.length) : its (ps.set (e % ps.length) x) t e = its ps t e := by
  unfold its
  apply List.map_congr_left
  intro k hk
  rw [List.mem_range] at hk
  exact val_set_ne x (by omega) (by omega)
theorem val_mem (i : Nat) (h : 0 < ps.length) : valP ps i ∈ ps := by rw [val_get i h]; exact List.getElem_mem _
theorem its_mem {v : Int} (h : 0 < ps.length) (hv : v ∈ its ps t e) : v ∈ ps := by
  unfold its at hv
  obtain ⟨k, _, rfl⟩ := List.mem_map.1 hv
  exact val_mem _ h
end

/-- how the owner stands: E, and what it holds -/
inductive Ph (cap t bt : Nat) (ps : List Int) (nx : Int) : Mc → Nat → List Int → Prop
  | idle (o : Mc) (h : o.out ≠ 0) (h1 : t ≤ bt) (h2 : bt ≤ t + cap) : Ph cap t bt ps nx o bt []
  | push0 (b0 t0 x : Int) (hx : x = nx - 1) (h1 : t ≤ bt) (h2 : bt ≤ t + cap) : Ph cap t bt ps nx ⟨1, 0, 0, cap, b0, t0, x, 0⟩ bt []
  | push1 (t0 x : Int) (hx : x = nx - 1) (h1 : t ≤ bt) (h2 : bt ≤ t + cap) : Ph cap t bt ps nx ⟨1, 1, 0, cap, bt, t0, x, 0⟩ bt []
  | push2 (t0 x : Int) (hx : x = nx - 1) (h1 : t ≤ bt) (h2 : bt < t + cap) : Ph cap t bt ps nx ⟨1, 2, 0, cap, bt, t0, x, 0⟩ bt []
  | push3 (t0 x : Int) (hx : x = nx - 1) (h1 : t ≤ bt) (h2 : bt < t + cap) (hv : valP ps bt = x) : Ph cap t bt ps nx ⟨1, 3, 0, cap, bt, t0, x, 0⟩ bt []
  | pop0 (b0 t0 x : Int) (h1 : t ≤ bt) (h2 : bt ≤ t + cap) : Ph cap t bt ps nx ⟨2, 0, 0, cap, b0, t0, x, 0⟩ bt []
  | pop1 (t0 x : Int) (h1 : t ≤ bt) (h2 : bt ≤ t + cap) : Ph cap t bt ps nx ⟨2, 1, 0, cap, bt, t0, x, 0⟩ bt []
  | pop2 (t0 x : Int) (h1 : t ≤ bt + 1) (h2 : bt + 1 ≤ t + cap) : Ph cap t bt ps nx ⟨2, 2, 0, cap, (bt : Int) + 1, t0, x, 0⟩ (bt + 1) []
  | pop3a (t0 x : Int) (ht : t0 ≠ bt) (h1 : t ≤ bt) (h2 : bt + 1 ≤ t + cap) : Ph cap t bt ps nx ⟨2, 3, 0, cap, (bt : Int) + 1, t0, x, 0⟩ bt [valP ps bt]
  | pop3b (x : Int) (h1 : t = bt ∨ t = bt + 1) : Ph cap t bt ps nx ⟨2, 3, 0, cap, (bt : Int) + 1, bt, x, 0⟩ (bt + 1) []
  | pop4 (x : Int) (h1 : t = bt ∧ x = valP ps bt ∨ t = bt + 1) : Ph cap t bt ps nx ⟨2, 4, 0, cap, (bt : Int) + 1, bt, x, 0⟩ (bt + 1) []
  | pop5 (t0 x : Int) (h1 : t = bt + 1) : Ph cap t bt ps nx ⟨2, 5, 0, cap, (bt : Int) + 1, t0, x, 0⟩ (bt + 1) []
  | pop6 (t0 x : Int) (h1 : t = bt + 1) : Ph cap t bt ps nx ⟨2, 6, 0, cap, (bt : Int) + 1, t0, x, 0⟩ bt [x]
/-- how one stands that steals -/
inductive Th (cap t e : Nat) (ps : List Int) : Mc → Prop
  | p0 (b0 t0 x : Int) : Th cap t e ps ⟨3, 0, 0, cap, b0, t0, x, 0⟩
  | p1 (b0 x : Int) (s : Nat) (h : s ≤ t) : Th cap t e ps ⟨3, 1, 0, cap, b0, s, x, 0⟩
  | p2 (b0 x : Int) (s : Nat) (h : s ≤ t) (h1 : s = t → t < e) : Th cap t e ps ⟨3, 2, 0, cap, b0, s, x, 0⟩
  | p3 (b0 x : Int) (s : Nat) (h : s ≤ t) (h1 : s = t → t < e ∧ x = valP ps t) : Th cap t e ps ⟨3, 3, 0, cap, b0, s, x, 0⟩
/-- what is pushed is above all that is in -/
def limF (o : Mc) (nx : Int) : Int := if o.kind = 1 ∧ o.out = 0 then nx - 1 else nx

structure Inv (cap hi : Nat) (nx last : Int) (m : List Int) (o : Mc) (ths : List Mc) (t bt e : Nat) (ps H : List Int) : Prop where
  mem : m = (t : Int) :: (bt : Int) :: ps
  len : ps.length = cap
  c1 : 1 ≤ cap
  c2 : cap ≤ 64
  t1 : 1 ≤ t
  ht : t ≤ hi
  hb : bt ≤ hi
  hn : nx ≤ hi
  own : Ph cap t bt ps nx o e H
  th : ∀ d ∈ ths, Th cap t e ps d
  srt : (its ps t e).Pairwise (· < ·)
  rng : ∀ v ∈ its ps t e, last < v ∧ v < limF o nx
  vals : ∀ v ∈ ps, 0 ≤ v ∧ v < nx
  l0 : 0 ≤ last
  ll : last < limF o nx

theorem Ph.end_le {cap t bt e : Nat} {ps H : List Int} {nx : Int} {o : Mc} (h : Ph cap t bt ps nx o e H) : bt ≤ e ∧ e ≤ bt + 1 ∧ e ≤ t + cap + 1 ∧ t ≤ bt + 1 := by cases h <;> omega
theorem Ph.room {cap t bt e : Nat} {ps H : List Int} {nx : Int} {o : Mc} (hc : 1 ≤ cap) (h : Ph cap t bt ps nx o e H) : e - t ≤ cap := by cases h <;> omega

/-! ### steps at place 0 -/
theorem bottom0 (k p c b t x u : Int) : bottomC ⟨k, p, 0, c, b, t, x, u⟩ = 1 := by simp [bottomC, s64]
theorem place0 (k p b t x u : Int) (cap i : Nat) (hc : 1 ≤ cap) (hc2 : cap ≤ 64) : placeC ⟨k, p, 0, cap, b, t, x, u⟩ (i : Int) = 2 + ((i % cap : Nat) : Int) := by
  have h := Nat.mod_lt i (show 0 < cap by omega)
  unfold placeC capF
  simp only
  rw [show max (cap : Int) 1 = (cap : Int) by omega, show ((i : Int) % (cap : Int)) = ((i % cap : Nat) : Int) by simp]
  rw [s64_small (by omega) (by omega)]
  omega
theorem cap0 (k p b t x u : Int) (cap : Nat) (hc : 1 ≤ cap) : capF ⟨k, p, 0, cap, b, t, x, u⟩ = cap := by unfold capF; simp only; omega
section
variable {cap t bt : Nat} {ps : List Int}
theorem load_val (k p b t0 x u : Int) (i : Nat) (hl : ps.length = cap) (hc : 1 ≤ cap) (hc2 : cap ≤ 64) (T B : Int) : loadF (T :: B :: ps) (placeC ⟨k, p, 0, cap, b, t0, x, u⟩ (i : Int)) = valP ps i := by
  have h := Nat.mod_lt i (show 0 < cap by omega)
  rw [place0 _ _ _ _ _ _ _ _ hc hc2, load_at _ _ _ _ (by omega), val_get i (by omega)]
  simp [hl]
theorem store_val (k p b t0 x u : Int) (i : Nat) (hl : ps.length = cap) (hc : 1 ≤ cap) (hc2 : cap ≤ 64) (T B v : Int) : storeF (T :: B :: ps) (placeC ⟨k, p, 0, cap, b, t0, x, u⟩ (i : Int)) v = T :: B :: ps.set (i % ps.length) v := by
  have h := Nat.mod_lt i (show 0 < cap by omega)
  rw [place0 _ _ _ _ _ _ _ _ hc hc2, store_at _ _ _ _ _ (by omega), hl]
end
end Go.Proofs.Ytimjlgglhonhkaa
/- Layer deque: a step of the owner keeps what must be so. No program in this text. -/
namespace Go.Proofs.Ytimjlgglhonhkaa

section
variable {cap hi t bt e : Nat} {nx last : Int} {m ps H : List Int} {o : Mc} {ths : List Mc}
/-- nothing that is in is turned -/
theorem Inv.turn (h : Inv cap hi nx last m o ths t bt e ps H) {o' : Mc} {bt' : Nat} {H' : List Int} (own' : Ph cap t bt' ps nx o' e H') (hb' : bt' ≤ hi + 1) (hl : limF o nx ≤ limF o' nx) :
    Inv cap (hi + 1) nx last ((t : Int) :: (bt' : Int) :: ps) o' ths t bt' e ps H' where
  mem := rfl
  len := h.len
  c1 := h.c1
  c2 := h.c2
  t1 := h.t1
  ht := Nat.le_succ_of_le h.ht
  hb := hb'
  hn := by have := h.hn; omega
  own := own'
  th := h.th
  srt := h.srt
  rng := fun v hv => ⟨(h.rng v hv).1, Int.lt_of_lt_of_le (h.rng v hv).2 hl⟩
  vals := h.vals
  l0 := h.l0
  ll := Int.lt_of_lt_of_le h.ll hl
theorem Th.mono {e' : Nat} {d : Mc} (h : Th cap t e ps d) (he : t < e → t < e') : Th cap t e' ps d := by
  cases h with
  | p0 => exact .p0 ..
  | p1 _ _ s h => exact .p1 _ _ s h
  | p2 _ _ s h h1 => exact .p2 _ _ s h fun e => he (h1 e)
  | p3 _ _ s h h1 => exact .p3 _ _ s h fun e => ⟨he (h1 e).1, (h1 e).2⟩
/-- TOP goes on -/
theorem Th.next {e' : Nat} {d : Mc} (h : Th cap t e ps d) : Th cap (t + 1) e' ps d := by
  cases h with
  | p0 => exact .p0 ..
  | p1 _ _ s h => exact .p1 _ _ s (by omega)
  | p2 _ _ s h h1 => exact .p2 _ _ s (by omega) fun e => by omega
  | p3 _ _ s h h1 => exact .p3 _ _ s (by omega) fun e => by omega
theorem Th.put {d : Mc} (x : Int) (h : Th cap t e ps d) (hr : e < t + ps.length) : Th cap t e (ps.set (e % ps.length) x) d := by
  cases h with
  | p0 => exact .p0 ..
  | p1 _ _ s h => exact .p1 _ _ s h
  | p2 _ _ s h h1 => exact .p2 _ _ s h h1
  | p3 _ _ s h h1 => exact .p3 _ _ s h fun e => ⟨(h1 e).1, by rw [(h1 e).2, val_set_ne x (h1 e).1 hr]⟩
theorem lim_push (p c b t x : Int) : limF ⟨1, p, 0, c, b, t, x, 0⟩ nx = nx - 1 := by simp [limF]
theorem lim_out (o : Mc) (h : o.out ≠ 0) : limF o nx = nx := by simp [limF, h]
theorem lim_pop (p c b t x : Int) : limF ⟨2, p, 0, c, b, t, x, 0⟩ nx = nx := by simp [limF]
theorem lim_le (o : Mc) : limF o nx ≤ nx := by unfold limF; split <;> omega
/-- what came of a step of the owner's -/
def Came (I H I' H' : List Int) (o' : Mc) : Prop :=
  ∀ z, I'.count z + H'.count z + (if o'.out = 1 ∧ o'.kind = 2 then [o'.x] else []).count z = I.count z + H.count z + (if o'.out = 1 ∧ o'.kind = 1 then [o'.x] else []).count z
theorem came_none {I H : List Int} {o' : Mc} (h : o'.out ≠ 1) : Came I H I H o' := fun z => by simp [h]

theorem owner_step (h : Inv cap hi nx last m o ths t bt e ps H) (hhh : hi ≤ 1000000) (ho : o.out = 0) :
    ∃ (t' bt' e' : Nat) (ps' H' : List Int), Inv cap (hi + 1) nx last (stepF m o).1 (stepF m o).2 ths t' bt' e' ps' H' ∧ Came (its ps t e) H (its ps' t' e') H' (stepF m o).2 := by
  obtain ⟨h0, hl, hc1, hc2, ht1, hht, hhb, hn, hown, hth, hsrt, hrng, hvals, hl0, hll⟩ := h
  have h : Inv cap hi nx last m o ths t bt e ps H := ⟨h0, hl, hc1, hc2, ht1, hht, hhb, hn, hown, hth, hsrt, hrng, hvals, hl0, hll⟩
  subst h0
  cases hown with
  | idle _ hne => exact absurd ho hne
  | push0 b0 t0 x hx h1 h2 =>
    have hs : stepF ((t : Int) :: (bt : Int) :: ps) ⟨1, 0, 0, cap, b0, t0, x, 0⟩ = ((t : Int) :: (bt : Int) :: ps, ⟨1, 1, 0, cap, bt, t0, x, 0⟩) := by
      simp [stepF, pushF, bottom0, load_bot]
    rw [hs]
    exact ⟨t, bt, _, ps, [], h.turn (.push1 t0 x hx h1 h2) (by omega) (by simp [lim_push]), came_none (by simp)⟩
  | push1 t0 x hx h1 h2 =>
    have hw : w64 ((bt : Int) - t) = (bt : Int) - t := w64_small (by omega) (by omega)
    have hs : stepF ((t : Int) :: (bt : Int) :: ps) ⟨1, 1, 0, cap, bt, t0, x, 0⟩ = ((t : Int) :: (bt : Int) :: ps, ⟨1, 2, 0, cap, bt, t, x, if (cap : Int) ≤ (bt : Int) - t then 3 else 0⟩) := by
      simp [stepF, pushF, load_top, cap0 _ _ _ _ _ _ _ hc1, hw]
    rw [hs]
    by_cases hf : (cap : Int) ≤ (bt : Int) - t
    · rw [if_pos hf]
      exact ⟨t, bt, _, ps, [], h.turn (.idle _ (by simp) h1 h2) (by omega) (by rw [lim_push, lim_out _ (by simp)]; omega), came_none (by simp)⟩
    · rw [if_neg hf]
      exact ⟨t, bt, _, ps, [], h.turn (.push2 t x hx h1 (by omega)) (by omega) (by simp [lim_push]), came_none (by simp)⟩
  | push2 t0 x hx h1 h2 =>
    rw [lim_push] at hrng hll
    have hw : w64 x = x := w64_small (by omega) (by omega)
    have hs : stepF ((t : Int) :: (bt : Int) :: ps) ⟨1, 2, 0, cap, bt, t0, x, 0⟩ = ((t : Int) :: (bt : Int) :: ps.set (bt % ps.length) x, ⟨1, 3, 0, cap, bt, t0, x, 0⟩) := by
      simp [stepF, pushF, store_val _ _ _ _ _ _ _ hl hc1 hc2, hw]
    rw [hs]
    have hi' : its (ps.set (bt % ps.length) x) t bt = its ps t bt := its_set x (by omega)
    refine ⟨t, bt, bt, _, [], ⟨rfl, by rw [List.length_set]; exact hl, hc1, hc2, ht1, by omega, by omega, by omega, .push3 t0 x hx h1 h2 (val_set_eq bt x (by omega)), fun d hd => (hth d hd).put x (by omega), by rw [hi']; exact hsrt, by rw [hi', lim_push]; exact hrng, fun v hv => ?_, hl0, by rw [lim_push]; exact hll⟩, ?_⟩
    · rcases List.mem_or_eq_of_mem_set hv with hv | rfl
      · exact hvals v hv
      · omega
    · rw [hi']; exact came_none (by simp)
  | push3 t0 x hx h1 h2 hv =>
    rw [lim_push] at hrng hll
    have hw : w64 ((bt : Int) + 1) = ((bt + 1 : Nat) : Int) := by rw [w64_small (by omega) (by omega)]; rfl
    have hs : stepF ((t : Int) :: (bt : Int) :: ps) ⟨1, 3, 0, cap, bt, t0, x, 0⟩ = ((t : Int) :: ((bt + 1 : Nat) : Int) :: ps, ⟨1, 4, 0, cap, bt, t0, x, 1⟩) := by
      simp only [stepF, pushF, bottom0, store_bot, hw]; simp
    rw [hs]
    have hi' : its ps t (bt + 1) = its ps t bt ++ [x] := by rw [its_snoc h1, hv]
    refine ⟨t, bt + 1, bt + 1, ps, [], ⟨rfl, hl, hc1, hc2, ht1, by omega, by omega, by omega, .idle _ (by simp) (by omega) (by omega), fun d hd => (hth d hd).mono (by omega), ?_, fun v hv => ?_, hvals, hl0, by rw [lim_out _ (by simp)]; omega⟩, fun z => ?_⟩
    · rw [hi', List.pairwise_append]
      exact ⟨hsrt, by simp, fun a ha b hb => by rw [List.mem_singleton.1 hb]; have := hrng a ha; omega⟩
    · rw [lim_out _ (by simp)]
      rw [hi', List.mem_append] at hv
      rcases hv with hv | hv
      · have := hrng v hv; omega
      · rw [List.mem_singleton.1 hv]; omega
    · rw [hi', List.count_append]; simp
  | pop0 b0 t0 x h1 h2 =>
    have hs : stepF ((t : Int) :: (bt : Int) :: ps) ⟨2, 0, 0, cap, b0, t0, x, 0⟩ = ((t : Int) :: (bt : Int) :: ps, ⟨2, 1, 0, cap, bt, t0, x, 0⟩) := by
      simp [stepF, popF, bottom0, load_bot]
    rw [hs]
    exact ⟨t, bt, _, ps, [], h.turn (.pop1 t0 x h1 h2) (by omega) (by simp [lim_pop]), came_none (by simp)⟩
  | pop1 t0 x h1 h2 =>
    obtain ⟨c, rfl⟩ : ∃ c, bt = c + 1 := ⟨bt - 1, by omega⟩
    have hw : w64 (((c + 1 : Nat) : Int) - 1) = (c : Int) := by rw [w64_small (by omega) (by omega)]; omega
    have hs : stepF ((t : Int) :: ((c + 1 : Nat) : Int) :: ps) ⟨2, 1, 0, cap, ((c + 1 : Nat) : Int), t0, x, 0⟩ = ((t : Int) :: (c : Int) :: ps, ⟨2, 2, 0, cap, (c : Int) + 1, t0, x, 0⟩) := by
      simp only [stepF, popF, bottom0, store_bot, hw]; simp
    rw [hs]
    exact ⟨t, c, _, ps, [], h.turn (.pop2 t0 x h1 h2) (by omega) (by simp [lim_pop]), came_none (by simp)⟩
  | pop2 t0 x h1 h2 =>
    have hw : w64 ((bt : Int) + 1 - 1) = (bt : Int) := by rw [w64_small (by omega) (by omega)]; omega
    have hs1 : s64 ((t : Int) - bt) = (t : Int) - bt := s64_small (by omega) (by omega)
    have hs : stepF ((t : Int) :: (bt : Int) :: ps) ⟨2, 2, 0, cap, (bt : Int) + 1, t0, x, 0⟩ = ((t : Int) :: (bt : Int) :: ps, ⟨2, if 0 < (t : Int) - bt then 5 else 3, 0, cap, (bt : Int) + 1, t, x, 0⟩) := by
      simp only [stepF, popF, load_top, hw, hs1]; simp
    rw [hs]
    by_cases hp : 0 < (t : Int) - bt
    · rw [if_pos hp]
      exact ⟨t, bt, _, ps, [], h.turn (.pop5 t x (by omega)) (by omega) (by simp [lim_pop]), came_none (by simp)⟩
    · rw [if_neg hp]
      by_cases he : t = bt
      · subst he
        exact ⟨t, t, _, ps, [], h.turn (.pop3b x (.inl rfl)) (by omega) (by simp [lim_pop]), came_none (by simp)⟩
      · have hi' : its ps t (bt + 1) = its ps t bt ++ [valP ps bt] := its_snoc (by omega)
        rw [lim_pop] at hrng hll
        rw [hi'] at hrng hsrt
        refine ⟨t, bt, bt, ps, [valP ps bt], ⟨rfl, hl, hc1, hc2, ht1, by omega, by omega, by omega, .pop3a t x (by omega) (by omega) (by omega), fun d hd => (hth d hd).mono (by omega), (List.pairwise_append.1 hsrt).1, fun v hv => ?_, hvals, hl0, by rw [lim_pop]; exact hll⟩, fun z => ?_⟩
        · rw [lim_pop]; exact hrng v (by simp [hv])
        · rw [hi', List.count_append]; simp
  | pop3a t0 x hne h1 h2 =>
    have hw : w64 ((bt : Int) + 1 - 1) = (bt : Int) := by rw [w64_small (by omega) (by omega)]; omega
    have hv := hvals _ (val_mem bt (show 0 < ps.length by omega))
    have hx : s64 (valP ps bt) = valP ps bt := s64_small (by omega) (by omega)
    have hs : stepF ((t : Int) :: (bt : Int) :: ps) ⟨2, 3, 0, cap, (bt : Int) + 1, t0, x, 0⟩ = ((t : Int) :: (bt : Int) :: ps, ⟨2, 4, 0, cap, (bt : Int) + 1, t0, valP ps bt, 1⟩) := by
      simp only [stepF, popF, hw, load_val _ _ _ _ _ _ _ hl hc1 hc2, hx, if_neg hne]; simp
    rw [hs]
    refine ⟨t, bt, _, ps, [], h.turn (.idle _ (by simp) h1 (by omega)) (by omega) (by rw [lim_pop, lim_out _ (by simp)]; omega), fun z => ?_⟩
    simp
  | pop3b x h1 =>
    have hw : w64 ((bt : Int) + 1 - 1) = (bt : Int) := by rw [w64_small (by omega) (by omega)]; omega
    have hv := hvals _ (val_mem bt (show 0 < ps.length by omega))
    have hx : s64 (valP ps bt) = valP ps bt := s64_small (by omega) (by omega)
    have hs : stepF ((t : Int) :: (bt : Int) :: ps) ⟨2, 3, 0, cap, (bt : Int) + 1, bt, x, 0⟩ = ((t : Int) :: (bt : Int) :: ps, ⟨2, 4, 0, cap, (bt : Int) + 1, bt, valP ps bt, 0⟩) := by
      simp only [stepF, popF, hw, load_val _ _ _ _ _ _ _ hl hc1 hc2, hx]; simp
    rw [hs]
    exact ⟨t, bt, _, ps, [], h.turn (.pop4 _ (by omega)) (by omega) (by simp [lim_pop]), came_none (by simp)⟩
  | pop4 x h1 =>
    have hw : w64 ((bt : Int) + 1) = ((bt + 1 : Nat) : Int) := by rw [w64_small (by omega) (by omega)]; rfl
    rcases h1 with ⟨rfl, hx⟩ | h1
    · have hs : stepF ((t : Int) :: (t : Int) :: ps) ⟨2, 4, 0, cap, (t : Int) + 1, t, x, 0⟩ = (((t + 1 : Nat) : Int) :: (t : Int) :: ps, ⟨2, 6, 0, cap, (t : Int) + 1, t, x, 0⟩) := by
        simp only [stepF, popF, hw, (swap_yes _ _ _ _).1, (swap_yes _ _ _ _).2]; simp
      rw [hs]
      have hi' : its ps t (t + 1) = [x] := by rw [its_snoc (Nat.le_refl _), its_nil (Nat.le_refl _), hx]; rfl
      have hi2 : its ps (t + 1) t = [] := its_nil (by omega)
      rw [lim_pop] at hrng hll
      refine ⟨t + 1, t, t, ps, [x], ⟨rfl, hl, hc1, hc2, by omega, by omega, by omega, by omega, .pop6 t x rfl, fun d hd => (hth d hd).next, by rw [hi2]; exact List.Pairwise.nil, by rw [hi2]; simp, hvals, hl0, by rw [lim_pop]; exact hll⟩, fun z => ?_⟩
      rw [hi', hi2]; simp
    · have hs : stepF ((t : Int) :: (bt : Int) :: ps) ⟨2, 4, 0, cap, (bt : Int) + 1, bt, x, 0⟩ = ((t : Int) :: (bt : Int) :: ps, ⟨2, 5, 0, cap, (bt : Int) + 1, bt, x, 0⟩) := by
        simp only [stepF, popF, (swap_no _ _ _ _ (show (t : Int) ≠ (bt : Int) by omega)).1, (swap_no _ _ _ _ (show (t : Int) ≠ (bt : Int) by omega)).2]; simp
      rw [hs]
      exact ⟨t, bt, _, ps, [], h.turn (.pop5 _ x h1) (by omega) (by simp [lim_pop]), came_none (by simp)⟩
  | pop5 t0 x h1 =>
    have hs : stepF ((t : Int) :: (bt : Int) :: ps) ⟨2, 5, 0, cap, (bt : Int) + 1, t0, x, 0⟩ = ((t : Int) :: ((bt + 1 : Nat) : Int) :: ps, ⟨2, 6, 0, cap, (bt : Int) + 1, t0, 0, 2⟩) := by
      simp only [stepF, popF, bottom0, store_bot]; simp
    rw [hs]
    exact ⟨t, bt + 1, _, ps, [], h.turn (.idle _ (by simp) (by omega) (by omega)) (by omega) (by rw [lim_pop, lim_out _ (by simp)]; omega), came_none (by simp)⟩
  | pop6 t0 x h1 =>
    have hs : stepF ((t : Int) :: (bt : Int) :: ps) ⟨2, 6, 0, cap, (bt : Int) + 1, t0, x, 0⟩ = ((t : Int) :: ((bt + 1 : Nat) : Int) :: ps, ⟨2, 7, 0, cap, (bt : Int) + 1, t0, x, 1⟩) := by
      simp only [stepF, popF, bottom0, store_bot]; simp
    rw [hs]
    rw [lim_pop] at hll
    have hi' : its ps t (bt + 1) = [] := its_nil (by omega)
    have hi2 : its ps t bt = [] := its_nil (by omega)
    refine ⟨t, bt + 1, bt + 1, ps, [], ⟨rfl, hl, hc1, hc2, ht1, by omega, by omega, by omega, .idle _ (by simp) (by omega) (by omega), fun d hd => (hth d hd).mono (by omega), by rw [hi']; exact List.Pairwise.nil, by rw [hi']; simp, hvals, hl0, by rw [lim_out _ (by simp)]; exact hll⟩, fun z => ?_⟩
    rw [hi', hi2]; simp
end
end Go.Proofs.Ytimjlgglhonhkaa
/- Layer deque: a thief's step, a new begin of the owner's; what is in, and held, is told so. No program in this text. -/
namespace Go.Proofs.Ytimjlgglhonhkaa

section
variable {cap hi t bt e : Nat} {nx last : Int} {m ps H : List Int} {o : Mc} {ths : List Mc}
theorem Ph.next (h : Ph cap t bt ps nx o e H) (ht : t < e) : Ph cap (t + 1) bt ps nx o e H := by
  cases h with
  | idle _ h h1 h2 => exact .idle _ h (by omega) (by omega)
  | push0 b0 t0 x hx h1 h2 => exact .push0 _ _ _ hx (by omega) (by omega)
  | push1 t0 x hx h1 h2 => exact .push1 _ _ hx (by omega) (by omega)
  | push2 t0 x hx h1 h2 => exact .push2 _ _ hx (by omega) (by omega)
  | push3 t0 x hx h1 h2 hv => exact .push3 _ _ hx (by omega) (by omega) hv
  | pop0 b0 t0 x h1 h2 => exact .pop0 _ _ _ (by omega) (by omega)
  | pop1 t0 x h1 h2 => exact .pop1 _ _ (by omega) (by omega)
  | pop2 t0 x h1 h2 => exact .pop2 _ _ (by omega) (by omega)
  | pop3a t0 x hne h1 h2 => exact .pop3a _ _ hne (by omega) (by omega)
  | pop3b x h1 => exact .pop3b _ (by omega)
  | pop4 x h1 => exact .pop4 _ (.inr (by omega))
  | pop5 t0 x h1 => omega
  | pop6 t0 x h1 => omega
theorem Inv.lower (h : Inv cap hi nx last m o ths t bt e ps H) {l : Int} (h0 : 0 ≤ l) (hl : l ≤ last) : Inv cap hi nx l m o ths t bt e ps H :=
  { h with rng := fun v hv => ⟨Int.lt_of_le_of_lt hl (h.rng v hv).1, (h.rng v hv).2⟩, l0 := h0, ll := Int.lt_of_le_of_lt hl h.ll }
theorem Inv.up (h : Inv cap hi nx last m o ths t bt e ps H) : Inv cap (hi + 1) nx last m o ths t bt e ps H :=
  { h with ht := Nat.le_succ_of_le h.ht, hb := Nat.le_succ_of_le h.hb, hn := by have := h.hn; omega }
theorem Inv.thieves (h : Inv cap hi nx last m o ths t bt e ps H) {ths' : List Mc} (h' : ∀ d ∈ ths', Th cap t e ps d) : Inv cap hi nx last m o ths' t bt e ps H := { h with th := h' }
theorem start_th (d : Mc) (h : d = startF 3 0 cap 0) : Th cap t e ps d := by subst h; exact .p0 ..

theorem thief_step (h : Inv cap hi nx last m o ths t bt e ps H) (hhh : hi ≤ 1000000) {d : Mc} (hd : Th cap t e ps d) :
    (∃ d', stepF m d = (m, d') ∧ d'.out = 0 ∧ Th cap t e ps d') ∨ (∃ d', stepF m d = (m, d') ∧ d'.out ≠ 0 ∧ d'.out ≠ 1) ∨
      (∃ d' m', stepF m d = (m', d') ∧ d'.out = 1 ∧ t < e ∧ its ps t e = d'.x :: its ps (t + 1) e ∧ Inv cap (hi + 1) nx d'.x m' o ths (t + 1) bt e ps H) := by
  have hm := h.mem
  have hl := h.len
  have hc1 := h.c1
  have hc2 := h.c2
  have ht := h.ht
  have hb := h.hb
  have hn := h.hn
  have he := h.own.end_le
  cases hd with
  | p0 b0 t0 x =>
    refine .inl ⟨⟨3, 1, 0, cap, b0, t, x, 0⟩, ?_, rfl, .p1 _ _ t (Nat.le_refl _)⟩
    rw [hm]; simp [stepF, stealF, load_top]
  | p1 b0 x s hs =>
    have hw : s64 ((bt : Int) - s) = (bt : Int) - s := s64_small (by omega) (by omega)
    have hst : stepF m ⟨3, 1, 0, cap, b0, s, x, 0⟩ = (m, ⟨3, 2, 0, cap, bt, s, x, if (bt : Int) - s ≤ 0 then 2 else 0⟩) := by
      rw [hm]; simp only [stepF, stealF, bottom0, load_bot, hw]; simp
    by_cases hp : (bt : Int) - s ≤ 0
    · rw [if_pos hp] at hst
      exact .inr (.inl ⟨_, hst, by simp, by simp⟩)
    · rw [if_neg hp] at hst
      exact .inl ⟨_, hst, rfl, .p2 _ _ s hs fun e => by omega⟩
  | p2 b0 x s hs h1 =>
    have hv := h.vals _ (val_mem s (show 0 < ps.length by omega))
    have hx : s64 (valP ps s) = valP ps s := s64_small (by omega) (by omega)
    refine .inl ⟨⟨3, 3, 0, cap, b0, s, valP ps s, 0⟩, ?_, rfl, .p3 _ _ s hs fun e => ⟨h1 e, by rw [e]⟩⟩
    rw [hm]; simp only [stepF, stealF, load_val _ _ _ _ _ _ _ hl hc1 hc2, hx]; simp
  | p3 b0 x s hs h1 =>
    have hw : w64 ((s : Int) + 1) = ((s + 1 : Nat) : Int) := by rw [w64_small (by omega) (by omega)]; rfl
    by_cases hst : s = t
    · obtain ⟨hlt, hx⟩ := h1 hst
      subst hst
      have hi' := its_head (ps := ps) hlt
      rw [← hx] at hi'
      have hsr := h.srt
      have hrg := h.rng
      rw [hi'] at hsr hrg
      obtain ⟨hs1, hs2⟩ := List.pairwise_cons.1 hsr
      have hx0 := hrg x (by simp)
      refine .inr (.inr ⟨⟨3, 4, 0, cap, b0, s, x, 1⟩, ((s + 1 : Nat) : Int) :: (bt : Int) :: ps, ?_, rfl, hlt, hi', ?_⟩)
      · rw [hm]; simp only [stepF, stealF, hw, (swap_yes _ _ _ _).1, (swap_yes _ _ _ _).2]; simp
      · exact ⟨rfl, hl, hc1, hc2, by have := h.t1; omega, by omega, by omega, by omega, h.own.next hlt, fun d hd => (h.th d hd).next, hs2, fun v hv => ⟨hs1 v hv, (hrg v (by simp [hv])).2⟩, h.vals, by have := h.l0; simp only; omega, hx0.2⟩
    · refine .inr (.inl ⟨⟨3, 4, 0, cap, b0, s, 0, 4⟩, ?_, by simp, by simp⟩)
      rw [hm]; simp only [stepF, stealF, (swap_no _ _ _ _ (show (t : Int) ≠ (s : Int) by omega)).1, (swap_no _ _ _ _ (show (t : Int) ≠ (s : Int) by omega)).2]; simp

theorem Ph.of_out (h : Ph cap t bt ps nx o e H) (ho : o.out ≠ 0) : e = bt ∧ H = [] ∧ t ≤ bt ∧ bt ≤ t + cap := by
  cases h with
  | idle _ _ h1 h2 => exact ⟨rfl, rfl, h1, h2⟩
  | _ => exact absurd rfl ho
theorem begin_push (h : Inv cap hi nx last m o ths t bt e ps H) (ho : o.out ≠ 0) : Inv cap (hi + 1) (nx + 1) last m (startF 1 0 cap nx) ths t bt e ps H := by
  obtain ⟨rfl, rfl, h1, h2⟩ := h.own.of_out ho
  have hl := lim_out (nx := nx) o ho
  have hr := h.rng
  have hll := h.ll
  rw [hl] at hr hll
  have e1 : limF (startF 1 0 cap nx) (nx + 1) = nx := by unfold startF; rw [lim_push]; omega
  exact { h with ht := Nat.le_succ_of_le h.ht, hb := Nat.le_succ_of_le h.hb, hn := by have := h.hn; omega, own := .push0 _ _ _ (by omega) h1 h2, rng := by rw [e1]; exact hr, vals := fun v hv => by have := h.vals v hv; omega, ll := by rw [e1]; exact hll }
theorem begin_pop (h : Inv cap hi nx last m o ths t bt e ps H) (ho : o.out ≠ 0) : Inv cap hi nx last m (startF 2 0 cap 0) ths t bt e ps H := by
  obtain ⟨rfl, rfl, h1, h2⟩ := h.own.of_out ho
  have hl := lim_out (nx := nx) o ho
  have hr := h.rng
  have hll := h.ll
  rw [hl] at hr hll
  have e1 : limF (startF 2 0 cap 0) nx = nx := by unfold startF; rw [lim_pop]
  exact { h with own := .pop0 _ _ _ h1 h2, rng := by rw [e1]; exact hr, ll := by rw [e1]; exact hll }

/-- what the owner has that pops -/
def heldF (m : List Int) (cap : Int) (o : Mc) : List Int :=
  if o.kind ≠ 2 ∨ o.out ≠ 0 then [] else if o.pc = 6 then [o.x] else if o.pc = 3 ∧ o.t ≠ w64 (o.b - 1) then [s64 (loadF m (2 + w64 (o.b - 1) % cap))] else []
theorem held_ok (h : Inv cap hi nx last m o ths t bt e ps H) (hhh : hi ≤ 1000000) : heldF m cap o = H := by
  have hm := h.mem
  have hl := h.len
  have hc1 := h.c1
  have hb := h.hb
  have hn := h.hn
  have hvs := h.vals
  have hw : w64 ((bt : Int) + 1 - 1) = (bt : Int) := by rw [w64_small (by omega) (by omega)]; omega
  cases h.own with
  | idle _ hne h1 h2 => unfold heldF; rw [if_pos (.inr hne)]
  | push0 b0 t0 x hx h1 h2 => simp [heldF]
  | push1 t0 x hx h1 h2 => simp [heldF]
  | push2 t0 x hx h1 h2 => simp [heldF]
  | push3 t0 x hx h1 h2 hv => simp [heldF]
  | pop0 b0 t0 x h1 h2 => simp [heldF]
  | pop1 t0 x h1 h2 => simp [heldF]
  | pop2 t0 x h1 h2 => simp [heldF]
  | pop3a t0 x hne h1 h2 =>
    have hv := hvs _ (val_mem bt (show 0 < ps.length by omega))
    have hx : s64 (valP ps bt) = valP ps bt := s64_small (by omega) (by omega)
    have hmod := Nat.mod_lt bt (show 0 < cap by omega)
    have e1 : loadF m (2 + (bt : Int) % (cap : Int)) = valP ps bt := by
      rw [hm, show ((bt : Int) % (cap : Int)) = ((bt % cap : Nat) : Int) by simp, load_at _ _ _ _ (by omega), val_get bt (by omega)]
      simp [hl]
    simp only [heldF, hw, e1, hx]
    simp [hne]
  | pop3b x h1 => simp only [heldF, hw]; simp
  | pop4 x h1 => simp [heldF]
  | pop5 t0 x h1 => simp [heldF]
  | pop6 t0 x h1 => simp [heldF]
theorem end_ok (h : Inv cap hi nx last m o ths t bt e ps H) (hhh : hi ≤ 1000000) : endF m 0 o = e := by
  have hm := h.mem
  have hb := h.hb
  have hw : w64 ((bt : Int) + 1 - 1) = (bt : Int) := by rw [w64_small (by omega) (by omega)]; omega
  have h0 : w64 ((bt : Int) + 0) = (bt : Int) := by rw [w64_small (by omega) (by omega)]; omega
  have h1' : w64 ((bt : Int) + 1) = ((bt + 1 : Nat) : Int) := by rw [w64_small (by omega) (by omega)]; rfl
  have hbot : loadF m (s64 (0 + 1)) = (bt : Int) := by rw [hm, show s64 (0 + 1) = 1 by simp [s64]]; exact load_bot _ _ _
  have no : ∀ o : Mc, extF o = false → endF m 0 o = (bt : Int) := fun o ho => by unfold endF; rw [hbot, ho]; exact h0
  have yes : ∀ o : Mc, extF o = true → endF m 0 o = ((bt + 1 : Nat) : Int) := fun o ho => by unfold endF; rw [hbot, ho]; exact h1'
  cases h.own with
  | idle _ hne h1 h2 => exact no _ (by unfold extF; exact decide_eq_false fun hx => hne hx.2.1)
  | push0 b0 t0 x hx h1 h2 => exact no _ (by simp [extF])
  | push1 t0 x hx h1 h2 => exact no _ (by simp [extF])
  | push2 t0 x hx h1 h2 => exact no _ (by simp [extF])
  | push3 t0 x hx h1 h2 hv => exact no _ (by simp [extF])
  | pop0 b0 t0 x h1 h2 => exact no _ (by simp [extF])
  | pop1 t0 x h1 h2 => exact no _ (by simp [extF])
  | pop2 t0 x h1 h2 => exact yes _ (by simp [extF])
  | pop3a t0 x hne h1 h2 => exact no _ (by simp only [extF, hw]; simp [hne])
  | pop3b x h1 => exact yes _ (by simp only [extF, hw]; simp)
  | pop4 x h1 => exact yes _ (by simp [extF])
  | pop5 t0 x h1 => exact yes _ (by simp [extF])
  | pop6 t0 x h1 => exact no _ (by simp [extF])
theorem load_mod (i : Nat) (hl : ps.length = cap) (hc : 1 ≤ cap) (hc2 : cap ≤ 64) (T B : Int) : loadF (T :: B :: ps) (2 + ((i % cap : Nat) : Int)) = valP ps i := by
  have := load_val (ps := ps) 0 0 0 0 0 0 i hl hc hc2 T B
  rwa [place0 _ _ _ _ _ _ _ _ hc hc2] at this
theorem place_small {j : Nat} (h : j ≤ 64) : s64 (0 + 2 + (j : Int)) = 2 + (j : Int) := by
  have e : (0 : Int) + 2 + (j : Int) = 2 + (j : Int) := by omega
  rw [e]
  exact s64_small (by omega) (by omega)
theorem items_ok (h : Inv cap hi nx last m o ths t bt e ps H) (hhh : hi ≤ 1000000) : itemsF m 0 cap o = its ps t e := by
  have hm := h.mem
  have hl := h.len
  have hc1 := h.c1
  have hc2 := h.c2
  have ht := h.ht
  have hb := h.hb
  have hn := h.hn
  have he := h.own.end_le
  have hr := h.own.room hc1
  have htop : loadF m 0 = (t : Int) := by rw [hm]; exact load_top _ _ _
  have hs : s64 ((e : Int) - t) = (e : Int) - t := s64_small (by omega) (by omega)
  have hmx : max (cap : Int) 1 = (cap : Int) := by omega
  unfold itemsF
  simp only [htop, end_ok h hhh, hs, hmx]
  by_cases hle : e ≤ t
  · rw [if_pos (.inl (by omega)), its_nil hle]
  · have hw : w64 ((e : Int) - t) = (e : Int) - t := w64_small (by omega) (by omega)
    rw [hw, if_neg (by omega)]
    unfold its
    rw [show ((e : Int) - t).toNat = e - t by omega]
    apply List.map_congr_left
    intro k hk
    rw [List.mem_range] at hk
    have hwk : w64 ((t : Int) + (k : Nat)) = ((t + k : Nat) : Int) := by rw [w64_small (by omega) (by omega)]; rfl
    have hmod := Nat.mod_lt (t + k) (show 0 < cap by omega)
    have hv := h.vals _ (val_mem (t + k) (show 0 < ps.length by omega))
    have e3 : s64 (0 + 2 + (((t + k) % cap : Nat) : Int)) = 2 + (((t + k) % cap : Nat) : Int) := place_small (by omega)
    have e4 : loadF m (2 + (((t + k) % cap : Nat) : Int)) = valP ps (t + k) := by rw [hm]; exact load_mod _ hl hc1 hc2 _ _
    rw [hwk, show (((t + k : Nat) : Int) % (cap : Int)) = (((t + k) % cap : Nat) : Int) by simp, e3, e4]
    exact s64_small (by omega) (by omega)
theorem start_inv (cap : Nat) (hc1 : 1 ≤ cap) (hc2 : cap ≤ 64) : Inv cap 1 1 0 (1 :: 1 :: List.replicate cap 0) ⟨0, 0, 0, 0, 0, 0, 0, 1⟩ [startF 3 0 cap 0, startF 3 0 cap 0, startF 3 0 cap 0] 1 1 1 (List.replicate cap 0) [] where
  mem := rfl
  len := by simp
  c1 := hc1
  c2 := hc2
  t1 := Nat.le_refl _
  ht := Nat.le_refl _
  hb := Nat.le_refl _
  hn := Int.le_refl _
  own := .idle _ (by decide) (Nat.le_refl _) (by omega)
  th := fun d hd => start_th d (by simpa using hd)
  srt := by rw [its_nil (Nat.le_refl _)]; exact List.Pairwise.nil
  rng := by rw [its_nil (Nat.le_refl _)]; simp
  vals := fun v hv => by rw [(List.mem_replicate.1 hv).2]; decide
  l0 := Int.le_refl _
  ll := by decide
end
end Go.Proofs.Ytimjlgglhonhkaa
/- Layer deque: a machine that steps alone. No program in this text. -/
namespace Go.Proofs.Ytimjlgglhonhkaa

/-- a machine that steps alone, so often -/
def runF : Nat → List Int → Mc → List Int × Mc × Nat
  | 0, m, d => (m, d, 0)
  | k + 1, m, d => if d.out = 0 then ((runF k (stepF m d).1 (stepF m d).2).1, (runF k (stepF m d).1 (stepF m d).2).2.1, (runF k (stepF m d).1 (stepF m d).2).2.2 + 1) else (m, d, 0)
theorem run_stop (k : Nat) (m : List Int) (d : Mc) (h : d.out ≠ 0) : runF k m d = (m, d, 0) := by
  cases k with
  | zero => rfl
  | succ k => rw [runF, if_neg h]
theorem run_le : ∀ (k : Nat) (m : List Int) (d : Mc), (runF k m d).2.2 ≤ k
  | 0, _, _ => Nat.le_refl _
  | k + 1, m, d => by
    rw [runF]
    split
    · have := run_le k (stepF m d).1 (stepF m d).2
      simp only; omega
    · simp
/-- so many steps that were taken, one at a time: the next one -/
theorem run_snoc : ∀ (k : Nat) (m : List Int) (d : Mc), (runF k m d).2.1.out = 0 → (runF k m d).2.2 = k ∧ runF (k + 1) m d = ((stepF (runF k m d).1 (runF k m d).2.1).1, (stepF (runF k m d).1 (runF k m d).2.1).2, k + 1)
  | 0, m, d, h => by
    have h0 : d.out = 0 := h
    exact ⟨rfl, by simp [runF, h0]⟩
  | k + 1, m, d, h => by
    by_cases h0 : d.out = 0
    · rw [runF, if_pos h0] at h
      obtain ⟨h1, h2⟩ := run_snoc k _ _ h
      refine ⟨?_, ?_⟩
      · rw [runF, if_pos h0]; simp only; omega
      · rw [runF, if_pos h0, h2]
        have e : runF (k + 1) m d = ((runF k (stepF m d).1 (stepF m d).2).1, (runF k (stepF m d).1 (stepF m d).2).2.1, (runF k (stepF m d).1 (stepF m d).2).2.2 + 1) := by rw [runF, if_pos h0]
        rw [e]
    · rw [run_stop _ _ _ h0] at h
      exact absurd h h0
theorem run_over (k : Nat) (m : List Int) (d : Mc) (h : (runF k m d).2.1.out ≠ 0) : runF (k + 1) m d = runF k m d := by
  induction k generalizing m d with
  | zero => exact run_stop 1 m d h
  | succ k ih =>
    by_cases h0 : d.out = 0
    · rw [runF, if_pos h0] at h
      have := ih _ _ h
      rw [runF, if_pos h0, this]
      rw [show runF (k + 1) m d = ((runF k (stepF m d).1 (stepF m d).2).1, (runF k (stepF m d).1 (stepF m d).2).2.1, (runF k (stepF m d).1 (stepF m d).2).2.2 + 1) by rw [runF, if_pos h0]]
    · rw [run_stop _ _ _ h0, run_stop _ _ _ h0]

/-- comes to its end within k steps, further on -/
def Ends (k : Nat) (m : List Int) (d : Mc) : Prop := (runF k m d).2.1.out ≠ 0 ∧ d.pc < (runF k m d).2.1.pc
theorem ends_step {k : Nat} {m : List Int} {d : Mc} (h0 : d.out = 0) (h : (stepF m d).2.out ≠ 0 ∧ d.pc < (stepF m d).2.pc ∨ (d.pc < (stepF m d).2.pc ∧ Ends k (stepF m d).1 (stepF m d).2)) : Ends (k + 1) m d := by
  unfold Ends
  rw [runF, if_pos h0]
  rcases h with ⟨h1, h2⟩ | ⟨h1, h2, h3⟩
  · rw [run_stop _ _ _ h1]; exact ⟨h1, h2⟩
  · exact ⟨h2, by simp only; omega⟩
section
variable {m : List Int} {d : Mc}
theorem push3_ends (k : Nat) (hk : d.kind = 1) (ho : d.out = 0) (hp : d.pc = 3) : Ends (k + 1) m d :=
  ends_step ho (.inl (by simp [stepF, pushF, hk, ho, hp]))
theorem push2_ends (k : Nat) (hk : d.kind = 1) (ho : d.out = 0) (hp : d.pc = 2) : Ends (k + 2) m d := by
  have hs : (stepF m d).2 = { d with pc := 3 } := by simp [stepF, pushF, hk, ho, hp]
  exact ends_step ho (.inr ⟨by rw [hs]; simp only; omega, push3_ends k (by rw [hs]; exact hk) (by rw [hs]; exact ho) (by rw [hs])⟩)
theorem push1_ends (k : Nat) (hk : d.kind = 1) (ho : d.out = 0) (hp : d.pc = 1) : Ends (k + 3) m d := by
  have hs : (stepF m d).2 = { d with t := loadF m d.base, out := if capF d ≤ w64 (d.b - loadF m d.base) then 3 else d.out, pc := 2 } := by simp [stepF, pushF, hk, ho, hp]
  by_cases hc : capF d ≤ w64 (d.b - loadF m d.base)
  · exact ends_step ho (.inl (by rw [hs, if_pos hc]; simp only; omega))
  · rw [if_neg hc] at hs
    exact ends_step ho (.inr ⟨by rw [hs]; simp only; omega, push2_ends k (by rw [hs]; exact hk) (by rw [hs]; exact ho) (by rw [hs])⟩)
theorem push0_ends (k : Nat) (hk : d.kind = 1) (ho : d.out = 0) (hp : d.pc = 0) : Ends (k + 4) m d := by
  have hs : (stepF m d).2 = { d with b := loadF m (bottomC d), pc := 1 } := by simp [stepF, pushF, hk, ho, hp]
  exact ends_step ho (.inr ⟨by rw [hs]; simp only; omega, push1_ends k (by rw [hs]; exact hk) (by rw [hs]; exact ho) (by rw [hs])⟩)
theorem steal3_ends (k : Nat) (hk : d.kind = 3) (ho : d.out = 0) (hp : d.pc = 3) : Ends (k + 1) m d :=
  ends_step ho (.inl (by simp only [stepF, stealF, hk, ho, hp]; simp; split <;> decide))
theorem steal2_ends (k : Nat) (hk : d.kind = 3) (ho : d.out = 0) (hp : d.pc = 2) : Ends (k + 2) m d := by
  have hs : (stepF m d).2 = { d with x := s64 (loadF m (placeC d d.t)), pc := 3 } := by simp [stepF, stealF, hk, ho, hp]
  exact ends_step ho (.inr ⟨by rw [hs]; simp only; omega, steal3_ends k (by rw [hs]; exact hk) (by rw [hs]; exact ho) (by rw [hs])⟩)
theorem steal1_ends (k : Nat) (hk : d.kind = 3) (ho : d.out = 0) (hp : d.pc = 1) : Ends (k + 3) m d := by
  have hs : (stepF m d).2 = { d with b := loadF m (bottomC d), out := if s64 (loadF m (bottomC d) - d.t) ≤ 0 then 2 else d.out, pc := 2 } := by simp [stepF, stealF, hk, ho, hp]
  by_cases hc : s64 (loadF m (bottomC d) - d.t) ≤ 0
  · exact ends_step ho (.inl (by rw [hs, if_pos hc]; simp only; omega))
  · rw [if_neg hc] at hs
    exact ends_step ho (.inr ⟨by rw [hs]; simp only; omega, steal2_ends k (by rw [hs]; exact hk) (by rw [hs]; exact ho) (by rw [hs])⟩)
theorem steal0_ends (k : Nat) (hk : d.kind = 3) (ho : d.out = 0) (hp : d.pc = 0) : Ends (k + 4) m d := by
  have hs : (stepF m d).2 = { d with t := loadF m d.base, pc := 1 } := by simp [stepF, stealF, hk, ho, hp]
  exact ends_step ho (.inr ⟨by rw [hs]; simp only; omega, steal1_ends k (by rw [hs]; exact hk) (by rw [hs]; exact ho) (by rw [hs])⟩)
theorem pop6_ends (k : Nat) (hk : d.kind = 2) (ho : d.out = 0) (hp : d.pc = 6) : Ends (k + 1) m d :=
  ends_step ho (.inl (by simp [stepF, popF, hk, ho, hp]))
theorem pop5_ends (k : Nat) (hk : d.kind = 2) (ho : d.out = 0) (hp : d.pc = 5) : Ends (k + 1) m d :=
  ends_step ho (.inl (by simp [stepF, popF, hk, ho, hp]))
theorem pop4_ends (k : Nat) (hk : d.kind = 2) (ho : d.out = 0) (hp : d.pc = 4) : Ends (k + 2) m d := by
  have hs : (stepF m d).2 = { d with pc := if swapsF m d.base d.t (w64 (d.t + 1)) then 6 else 5 } := by simp [stepF, popF, hk, ho, hp]
  cases hc : swapsF m d.base d.t (w64 (d.t + 1))
  · rw [hc] at hs
    exact ends_step ho (.inr ⟨by rw [hs]; simp; omega, pop5_ends k (by rw [hs]; exact hk) (by rw [hs]; exact ho) (by rw [hs]; rfl)⟩)
  · rw [hc] at hs
    exact ends_step ho (.inr ⟨by rw [hs]; simp; omega, pop6_ends k (by rw [hs]; exact hk) (by rw [hs]; exact ho) (by rw [hs]; rfl)⟩)
theorem pop3_ends (k : Nat) (hk : d.kind = 2) (ho : d.out = 0) (hp : d.pc = 3) : Ends (k + 3) m d := by
  have hs : (stepF m d).2 = { d with x := s64 (loadF m (placeC d (w64 (d.b - 1)))), out := if d.t = w64 (d.b - 1) then d.out else 1, pc := 4 } := by simp [stepF, popF, hk, ho, hp]
  by_cases hc : d.t = w64 (d.b - 1)
  · rw [if_pos hc] at hs
    exact ends_step ho (.inr ⟨by rw [hs]; simp only; omega, pop4_ends k (by rw [hs]; exact hk) (by rw [hs]; exact ho) (by rw [hs])⟩)
  · exact ends_step ho (.inl (by rw [hs, if_neg hc]; simp only; omega))
theorem pop2_ends (k : Nat) (hk : d.kind = 2) (ho : d.out = 0) (hp : d.pc = 2) : Ends (k + 4) m d := by
  have hs : (stepF m d).2 = { d with t := loadF m d.base, pc := if 0 < s64 (loadF m d.base - w64 (d.b - 1)) then 5 else 3 } := by simp [stepF, popF, hk, ho, hp]
  by_cases hc : 0 < s64 (loadF m d.base - w64 (d.b - 1))
  · rw [if_pos hc] at hs
    exact ends_step ho (.inr ⟨by rw [hs]; simp only; omega, pop5_ends (k + 2) (by rw [hs]; exact hk) (by rw [hs]; exact ho) (by rw [hs])⟩)
  · rw [if_neg hc] at hs
    exact ends_step ho (.inr ⟨by rw [hs]; simp only; omega, pop3_ends k (by rw [hs]; exact hk) (by rw [hs]; exact ho) (by rw [hs])⟩)
theorem pop1_ends (k : Nat) (hk : d.kind = 2) (ho : d.out = 0) (hp : d.pc = 1) : Ends (k + 5) m d := by
  have hs : (stepF m d).2 = { d with pc := 2 } := by simp [stepF, popF, hk, ho, hp]
  exact ends_step ho (.inr ⟨by rw [hs]; simp only; omega, pop2_ends k (by rw [hs]; exact hk) (by rw [hs]; exact ho) (by rw [hs])⟩)
theorem pop0_ends (k : Nat) (hk : d.kind = 2) (ho : d.out = 0) (hp : d.pc = 0) : Ends (k + 6) m d := by
  have hs : (stepF m d).2 = { d with b := loadF m (bottomC d), pc := 1 } := by simp [stepF, popF, hk, ho, hp]
  exact ends_step ho (.inr ⟨by rw [hs]; simp only; omega, pop1_ends k (by rw [hs]; exact hk) (by rw [hs]; exact ho) (by rw [hs])⟩)
end
/-- an owner who goes on alone comes to its end in seven steps -/
theorem owner_ends {cap t bt e : Nat} {ps H : List Int} {nx : Int} {o : Mc} (h : Ph cap t bt ps nx o e H) (m : List Int) (ho : o.out = 0) : Ends 7 m o := by
  cases h with
  | idle _ hne => exact absurd ho hne
  | push0 => exact push0_ends 3 rfl rfl rfl
  | push1 => exact push1_ends 4 rfl rfl rfl
  | push2 => exact push2_ends 5 rfl rfl rfl
  | push3 => exact push3_ends 6 rfl rfl rfl
  | pop0 => exact pop0_ends 1 rfl rfl rfl
  | pop1 => exact pop1_ends 2 rfl rfl rfl
  | pop2 => exact pop2_ends 3 rfl rfl rfl
  | pop3a => exact pop3_ends 4 rfl rfl rfl
  | pop3b => exact pop3_ends 4 rfl rfl rfl
  | pop4 => exact pop4_ends 5 rfl rfl rfl
  | pop5 => exact pop5_ends 6 rfl rfl rfl
  | pop6 => exact pop6_ends 6 rfl rfl rfl
/-- one that steals, alone, in four -/
theorem thief_ends {cap t e : Nat} {ps : List Int} {d : Mc} (h : Th cap t e ps d) (m : List Int) : d.out = 0 ∧ Ends 4 m d := by
  cases h with
  | p0 => exact ⟨rfl, steal0_ends 0 rfl rfl rfl⟩
  | p1 => exact ⟨rfl, steal1_ends 1 rfl rfl rfl⟩
  | p2 => exact ⟨rfl, steal2_ends 2 rfl rfl rfl⟩
  | p3 => exact ⟨rfl, steal3_ends 3 rfl rfl rfl⟩
end Go.Proofs.Ytimjlgglhonhkaa
/- Layer deque: a step turns one cell at most, none outside the deque. No program in this text. -/
namespace Go.Proofs.Ytimjlgglhonhkaa

theorem s64_rng (x : Int) : -9223372036854775808 ≤ s64 x ∧ s64 x ≤ 9223372036854775807 := by unfold s64; omega
/-- m, but for one cell of the deque -/
def OneIn (m m' : List Int) (d : Mc) : Prop := m' = m ∨ ∃ (j : Nat) (v : Int), j < m.length ∧ m' = m.set j v ∧ d.base ≤ (j : Int) ∧ s64 ((j : Int) - d.base - 2) < capF d
section
variable {m : List Int} {d : Mc}
theorem set_in {a : Int} {k : Int} (hk : k = 2 ∨ k = 3) (x y : Int) (h : 0 ≤ a → a < (m.length : Int) → d.base ≤ a ∧ s64 (a - d.base - 2) < capF d) : OneIn m (mF m ⟨k, a, x, y⟩) d := by
  by_cases ha : 0 ≤ a ∧ a < (m.length : Int)
  · obtain ⟨h1, h2⟩ := h ha.1 ha.2
    have hon := at_on (m := m) (o := ⟨k, a, x, y⟩) ⟨by simp only; omega, ha.1, ha.2⟩
    rw [hon.2.2]
    refine .inr ⟨a.toNat, _, by omega, rfl, by omega, ?_⟩
    rw [show ((a.toNat : Nat) : Int) = a by omega]
    exact h2
  · have hoff := at_off (m := m) (o := ⟨k, a, x, y⟩) (fun h => ha ⟨h.2.1, h.2.2⟩)
    exact .inl hoff.2.2
theorem cap_pos (d : Mc) : 1 ≤ capF d := by unfold capF; omega
theorem top_in : d.base ≤ d.base ∧ s64 (d.base - d.base - 2) < capF d := by
  have := cap_pos d
  refine ⟨Int.le_refl _, ?_⟩
  rw [show d.base - d.base - 2 = -2 by omega, s64_small (by decide) (by decide)]
  omega
theorem bottom_in (hb : -9223372036854775808 ≤ d.base ∧ d.base ≤ 9223372036854775807) (h0 : 0 ≤ bottomC d) : d.base ≤ bottomC d ∧ s64 (bottomC d - d.base - 2) < capF d := by
  have hc := cap_pos d
  have e : bottomC d = d.base + 1 := by
    unfold bottomC s64 at *
    omega
  rw [e]
  refine ⟨by omega, ?_⟩
  rw [show d.base + 1 - d.base - 2 = -1 by omega, s64_small (by decide) (by decide)]
  omega
theorem place_in (hb : -9223372036854775808 ≤ d.base ∧ d.base ≤ 9223372036854775807) (hcap : d.cap ≤ 9223372036854775807) (i : Int) (h0 : 0 ≤ placeC d i) : d.base ≤ placeC d i ∧ s64 (placeC d i - d.base - 2) < capF d := by
  have hc := cap_pos d
  have hc2 : capF d ≤ 9223372036854775807 := by unfold capF; omega
  have h1 := Int.emod_nonneg i (b := capF d) (by omega)
  have h2 := Int.emod_lt_of_pos i (b := capF d) (by omega)
  unfold placeC at h0 ⊢
  generalize i % capF d = k at *
  generalize capF d = c at *
  have e : s64 (d.base + 2 + k) = d.base + 2 + k := by
    unfold s64 at *
    omega
  rw [e]
  refine ⟨by omega, ?_⟩
  rw [show d.base + 2 + k - d.base - 2 = k by omega, s64_small (by omega) (by omega)]
  exact h2
theorem step_in (hb : -9223372036854775808 ≤ d.base ∧ d.base ≤ 9223372036854775807) (hcap : d.cap ≤ 9223372036854775807) :
    OneIn m (stepF m d).1 d ∧ (stepF m d).2.kind = d.kind ∧ (stepF m d).2.base = d.base ∧ (stepF m d).2.cap = d.cap ∧ (d.out ≠ 0 → stepF m d = (m, d)) := by
  have hbot := fun v => set_in (m := m) (d := d) (a := bottomC d) (k := 2) (.inl rfl) v 0 fun h _ => bottom_in hb h
  have hpl := fun i v => set_in (m := m) (d := d) (a := placeC d i) (k := 2) (.inl rfl) v 0 fun h _ => place_in hb hcap i h
  have htop := fun x y => set_in (m := m) (d := d) (a := d.base) (k := 3) (.inr rfl) x y fun _ _ => top_in
  have no : OneIn m m d := .inl rfl
  unfold stepF
  by_cases ho : d.out ≠ 0
  · rw [if_pos ho]; exact ⟨no, rfl, rfl, rfl, fun _ => rfl⟩
  · rw [if_neg ho]
    by_cases h1 : d.kind = 1
    · rw [if_pos h1]
      unfold pushF
      split
      · exact ⟨no, rfl, rfl, rfl, fun h => absurd h ho⟩
      · split
        · exact ⟨no, rfl, rfl, rfl, fun h => absurd h ho⟩
        · split
          · exact ⟨hpl _ _, rfl, rfl, rfl, fun h => absurd h ho⟩
          · split
            · exact ⟨hbot _, rfl, rfl, rfl, fun h => absurd h ho⟩
            · exact ⟨no, rfl, rfl, rfl, fun h => absurd h ho⟩
    · rw [if_neg h1]
      by_cases h2 : d.kind = 2
      · rw [if_pos h2]
        unfold popF
        repeat' split
        all_goals first
          | exact ⟨no, rfl, rfl, rfl, fun h => absurd h ho⟩
          | exact ⟨hbot _, rfl, rfl, rfl, fun h => absurd h ho⟩
          | exact ⟨htop _ _, rfl, rfl, rfl, fun h => absurd h ho⟩
      · rw [if_neg h2]
        by_cases h3 : d.kind = 3
        · rw [if_pos h3]
          unfold stealF
          repeat' split
          all_goals first
            | exact ⟨no, rfl, rfl, rfl, fun h => absurd h ho⟩
            | exact ⟨htop _ _, rfl, rfl, rfl, fun h => absurd h ho⟩
        · rw [if_neg h3]; exact ⟨no, rfl, rfl, rfl, fun h => absurd h ho⟩
theorem OneIn.len {m' : List Int} (h : OneIn m m' d) : m'.length = m.length := by
  rcases h with rfl | ⟨j, v, _, rfl, _⟩
  · rfl
  · simp
/-- what is turned, of the first so many -/
def turnedF (m m' : List Int) (k : Nat) : Nat := ((List.range k).filter fun i => m'.getD i 0 != m.getD i 0).length
theorem turned_same (m : List Int) (k : Nat) : turnedF m m k = 0 := by
  unfold turnedF
  rw [List.filter_eq_nil_iff.2 (fun i _ => by simp)]; rfl
theorem turned_set {j : Nat} {v : Int} (hj : j < m.length) (k : Nat) : turnedF m (m.set j v) k ≤ 1 := by
  unfold turnedF
  have : (List.range k).filter (fun i => (m.set j v).getD i 0 != m.getD i 0) = (List.range k).filter fun i => decide (i = j) && (v != m.getD j 0) := by
    apply List.filter_congr
    intro i _
    by_cases e : i = j
    · subst e
      rw [List.getD_eq_getElem?_getD, List.getElem?_set_self hj]; simp
    · rw [List.getD_eq_getElem?_getD, List.getElem?_set_ne (fun h => e h.symm), ← List.getD_eq_getElem?_getD]; simp [e]
  rw [this]
  have hn : ((List.range k).filter fun i => decide (i = j) && (v != m.getD j 0)).Nodup := List.Pairwise.filter _ List.nodup_range
  generalize hL : ((List.range k).filter fun i => decide (i = j) && (v != m.getD j 0)) = L at *
  match L, hn with
  | [], _ => simp
  | [a], _ => simp
  | a :: b :: r, hn =>
    have ha : a ∈ (List.range k).filter fun i => decide (i = j) && (v != m.getD j 0) := by rw [hL]; simp
    have hb : b ∈ (List.range k).filter fun i => decide (i = j) && (v != m.getD j 0) := by rw [hL]; simp
    rw [List.mem_filter] at ha hb
    have e1 : a = j := by have := ha.2; simp at this; exact this.1
    have e2 : b = j := by have := hb.2; simp at this; exact this.1
    subst e1; subst e2
    simp at hn
theorem turned_le {m' : List Int} (h : OneIn m m' d) (k : Nat) : turnedF m m' k ≤ 1 := by
  rcases h with rfl | ⟨j, v, hj, rfl, _⟩
  · rw [turned_same]; omega
  · exact turned_set hj k
theorem turned_succ (m m' : List Int) (k : Nat) : turnedF m m' (k + 1) = turnedF m m' k + if m'.getD k 0 = m.getD k 0 then 0 else 1 := by
  unfold turnedF
  rw [List.range_succ, List.filter_append, List.length_append]
  congr 1
  by_cases h : m'.getD k 0 = m.getD k 0
  · have e : (m'.getD k 0 != m.getD k 0) = false := by rw [bne_eq_false_iff_eq]; exact h
    rw [List.filter_cons_of_neg (by rw [e]; decide), if_pos h]; rfl
  · have e : (m'.getD k 0 != m.getD k 0) = true := by rw [bne_iff_ne]; exact h
    rw [List.filter_cons_of_pos (by rw [e]), if_neg h]; rfl
end
end Go.Proofs.Ytimjlgglhonhkaa
