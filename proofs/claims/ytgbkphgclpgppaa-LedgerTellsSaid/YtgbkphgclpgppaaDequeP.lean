/- Layer deque: a step, what is in the deque, as plain functions on lists of numbers. No program in this text. -/
import Derived.Test.YtgbkphgclpgppaaMemP
namespace Go.Proofs.Ytgbkphgclpgppaa

/-- a machine -/
structure Mc where
  kind : Int
  pc : Int
  base : Int
  cap : Int
  b : Int
  t : Int
  x : Int
  out : Int
def w64 (x : Int) : Int := x % 18446744073709551616
def s64 (x : Int) : Int := (x + 9223372036854775808) % 18446744073709551616 - 9223372036854775808
def loadF (m : List Int) (a : Int) : Int := vF m ⟨1, a, 0, 0⟩
def storeF (m : List Int) (a v : Int) : List Int := mF m ⟨2, a, v, 0⟩
def swapF (m : List Int) (a x y : Int) : List Int := mF m ⟨3, a, x, y⟩
def swapsF (m : List Int) (a x y : Int) : Bool := okF m ⟨3, a, x, y⟩
def capF (d : Mc) : Int := max d.cap 1
def placeC (d : Mc) (i : Int) : Int := s64 (d.base + 2 + i % capF d)
def bottomC (d : Mc) : Int := s64 (d.base + 1)
def startF (kind base cap x : Int) : Mc := ⟨kind, 0, base, cap, 0, 0, x, 0⟩

def pushF (m : List Int) (d : Mc) : List Int × Mc :=
  if d.pc = 0 then (m, { d with b := loadF m (bottomC d), pc := 1 })
  else if d.pc = 1 then (m, { d with t := loadF m d.base, out := if capF d ≤ w64 (d.b - loadF m d.base) then 3 else d.out, pc := 2 })
  else if d.pc = 2 then (storeF m (placeC d d.b) (w64 d.x), { d with pc := 3 })
  else if d.pc = 3 then (storeF m (bottomC d) (w64 (d.b + 1)), { d with out := 1, pc := 4 })
  else (m, d)
def popF (m : List Int) (d : Mc) : List Int × Mc :=
  if d.pc = 0 then (m, { d with b := loadF m (bottomC d), pc := 1 })
  else if d.pc = 1 then (storeF m (bottomC d) (w64 (d.b - 1)), { d with pc := 2 })
  else if d.pc = 2 then (m, { d with t := loadF m d.base, pc := if 0 < s64 (loadF m d.base - w64 (d.b - 1)) then 5 else 3 })
  else if d.pc = 3 then (m, { d with x := s64 (loadF m (placeC d (w64 (d.b - 1)))), out := if d.t = w64 (d.b - 1) then d.out else 1, pc := 4 })
  else if d.pc = 4 then (swapF m d.base d.t (w64 (d.t + 1)), { d with pc := if swapsF m d.base d.t (w64 (d.t + 1)) then 6 else 5 })
  else if d.pc = 5 then (storeF m (bottomC d) d.b, { d with out := 2, x := 0, pc := 6 })
  else if d.pc = 6 then (storeF m (bottomC d) d.b, { d with out := 1, pc := 7 })
  else (m, d)
def stealF (m : List Int) (d : Mc) : List Int × Mc :=
  if d.pc = 0 then (m, { d with t := loadF m d.base, pc := 1 })
  else if d.pc = 1 then (m, { d with b := loadF m (bottomC d), out := if s64 (loadF m (bottomC d) - d.t) ≤ 0 then 2 else d.out, pc := 2 })
  else if d.pc = 2 then (m, { d with x := s64 (loadF m (placeC d d.t)), pc := 3 })
  else if d.pc = 3 then (swapF m d.base d.t (w64 (d.t + 1)), { d with out := if swapsF m d.base d.t (w64 (d.t + 1)) then 1 else 4, x := if swapsF m d.base d.t (w64 (d.t + 1)) then d.x else 0, pc := 4 })
  else (m, d)
def stepF (m : List Int) (d : Mc) : List Int × Mc :=
  if d.out ≠ 0 then (m, d) else if d.kind = 1 then pushF m d else if d.kind = 2 then popF m d else if d.kind = 3 then stealF m d else (m, d)

/-- the owner has taken BOTTOM back, and the last one is still in -/
def extF (o : Mc) : Bool := decide (o.kind = 2 ∧ o.out = 0 ∧ (o.pc = 2 ∨ o.pc = 4 ∨ o.pc = 5 ∨ o.pc = 3 ∧ o.t = w64 (o.b - 1)))
def endF (m : List Int) (base : Int) (o : Mc) : Int := w64 (loadF m (s64 (base + 1)) + if extF o then 1 else 0)
/-- what is in the deque -/
def itemsF (m : List Int) (base size : Int) (o : Mc) : List Int :=
  let top := loadF m base
  let n := w64 (endF m base o - top)
  if s64 (endF m base o - top) ≤ 0 ∨ min (max size 1) 64 < n then []
  else (List.range n.toNat).map fun k => s64 (loadF m (s64 (base + 2 + w64 (top + (k : Nat)) % max size 1)))
def cellsF (n : Int) : List Int := 1 :: 1 :: List.replicate (min (max n 1) 64).toNat 0

theorem w64_small {x : Int} (h0 : 0 ≤ x) (h1 : x ≤ 18446744073709551615) : w64 x = x := by unfold w64; omega
theorem s64_small {x : Int} (h0 : -9223372036854775808 ≤ x) (h1 : x ≤ 9223372036854775807) : s64 x = x := by unfold s64; omega

/-! ### a deque that begins at place 0: TOP, BOTTOM, the places -/
section
variable (t b : Int) (ps : List Int)
theorem load_top : loadF (t :: b :: ps) 0 = t := by unfold loadF; rw [(at_on (by simp; omega)).1]; rfl
theorem load_bot : loadF (t :: b :: ps) 1 = b := by unfold loadF; rw [(at_on (by simp; omega)).1]; rfl
theorem load_at (j : Nat) (h : j < ps.length) : loadF (t :: b :: ps) (2 + (j : Int)) = ps[j] := by
  unfold loadF
  rw [(at_on (by simp; omega)).1]
  rw [was_get (by simp; omega)]
  have e : (2 + (j : Int)).toNat = j + 2 := by omega
  simp [e]
theorem store_bot (v : Int) : storeF (t :: b :: ps) 1 v = t :: v :: ps := by unfold storeF; rw [(at_on (by simp; omega)).2.2]; rfl
theorem store_at (j : Nat) (v : Int) (h : j < ps.length) : storeF (t :: b :: ps) (2 + (j : Int)) v = t :: b :: ps.set j v := by
  unfold storeF
  rw [(at_on (by simp; omega)).2.2]
  have e : (2 + (j : Int)).toNat = j + 2 := by omega
  simp only [newF, e, if_true]
  rfl
theorem swap_yes (y : Int) : swapF (t :: b :: ps) 0 t y = y :: b :: ps ∧ swapsF (t :: b :: ps) 0 t y = true := by
  unfold swapF swapsF
  have h := at_on (m := t :: b :: ps) (o := ⟨3, 0, t, y⟩) (by simp; omega)
  rw [h.2.2, h.2.1]
  simp [newF, wasF]
theorem swap_no {x : Int} (y : Int) (hx : t ≠ x) : swapF (t :: b :: ps) 0 x y = t :: b :: ps ∧ swapsF (t :: b :: ps) 0 x y = false := by
  unfold swapF swapsF
  have h := at_on (m := t :: b :: ps) (o := ⟨3, 0, x, y⟩) (by simp; omega)
  rw [h.2.2, h.2.1]
  simp [newF, wasF, hx]
end
end Go.Proofs.Ytgbkphgclpgppaa
