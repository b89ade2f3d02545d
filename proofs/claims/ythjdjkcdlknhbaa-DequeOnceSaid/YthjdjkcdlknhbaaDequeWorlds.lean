import Derived.Test.YthjdjkcdlknhbaaDequeT
import Derived.Test.YthjdjkcdlknhbaaDequeBag
import Derived.Test.YthjdjkcdlknhbaaDequeStepU
import Derived.Test.YthjdjkcdlknhbaaDequeR
/- Layer deque: an owner, three who steal, what came of it: one step of the law's world. No program in this text. -/
namespace Go.Proofs.Ythjdjkcdlknhbaa

structure Dw where
  m : List Int
  owner : Mc
  th : List Mc
  pushed : List Int
  got : List Int
  next : Int
def startW (cap : Nat) : Dw := ⟨1 :: 1 :: List.replicate cap 0, ⟨0, 0, 0, 0, 0, 0, 0, 1⟩, [startF 3 0 cap 0, startF 3 0 cap 0, startF 3 0 cap 0], [], [], 1⟩
/-- the owner begins again, if it has come to an end -/
def beginF (cap : Int) (pop : Bool) (w : Dw) : Mc × Int :=
  if w.owner.out ≠ 0 then (if pop then (startF 2 0 cap 0, w.next) else (startF 1 0 cap w.next, w.next + 1)) else (w.owner, w.next)
def ownF (cap : Int) (pop : Bool) (w : Dw) : Dw :=
  let o := (beginF cap pop w).1
  let r := stepF w.m o
  { m := r.1, owner := r.2, th := w.th, pushed := if r.2.out = 1 ∧ r.2.kind = 1 then addB w.pushed r.2.x 1 else w.pushed, got := if r.2.out = 1 ∧ r.2.kind = 2 then addB w.got r.2.x 1 else w.got, next := (beginF cap pop w).2 }
def thF (cap : Int) (k : Nat) (w : Dw) : Dw :=
  let r := stepF w.m (w.th.getD k (startF 3 0 cap 0))
  { w with m := r.1, th := w.th.set k (if r.2.out ≠ 0 then startF 3 0 cap 0 else r.2), got := if r.2.out = 1 then addB w.got r.2.x 1 else w.got }
def stepW (cap : Int) (b : Nat) (w : Dw) : Dw := if b % 5 < 3 then thF cap (b % 5) w else ownF cap (decide (b / 5 % 2 = 1)) w

structure Good (cap hi : Nat) (last : Int) (w : Dw) : Prop where
  ex : ∃ (t bt e : Nat) (ps H : List Int), Inv cap hi w.next last w.m w.owner w.th t bt e ps H ∧ ∀ z, w.pushed.count z = (its ps t e).count z + H.count z + w.got.count z
  th3 : w.th.length = 3
  pl : w.pushed.length ≤ hi
  pr : ∀ v ∈ w.pushed, 0 ≤ v ∧ v < w.next

section
variable {cap hi : Nat} {last : Int} {w : Dw}
theorem add_one_count (b : List Int) (o z : Int) : (addB b o 1).count z = b.count z + [o].count z := by
  rw [add_count]
  by_cases e : z = o
  · subst e; simp
  · have : (o == z) = false := by simp; omega
    rw [if_neg e, List.count_singleton, this]; simp
theorem add_one_mem {b : List Int} {o v : Int} (h : v ∈ addB b o 1) : v = o ∨ v ∈ b := by
  have h1 := List.count_pos_iff.2 h
  rw [add_one_count] at h1
  by_cases e : v = o
  · exact .inl e
  · have : (o == v) = false := by simp; omega
    rw [List.count_singleton, this] at h1
    exact .inr (List.count_pos_iff.1 (by simpa using h1))
theorem add_one_len (b : List Int) (o : Int) : (addB b o 1).length = b.length + 1 := by
  have := add_len b o 1
  simp at this
  omega
theorem good_start (hc1 : 1 ≤ cap) (hc2 : cap ≤ 64) : Good cap 1 0 (startW cap) where
  ex := ⟨1, 1, 1, _, [], start_inv cap hc1 hc2, fun z => by rw [its_nil (Nat.le_refl _)]; simp [startW]⟩
  th3 := rfl
  pl := by simp [startW]
  pr := by simp [startW]
/-- the pushed one's number -/
theorem pushed_x {t bt e : Nat} {nx : Int} {m ps H : List Int} {o : Mc} {ths : List Mc} (h : Inv cap hi nx last m o ths t bt e ps H) (ho : o.out = 0) (hk : (stepF m o).2.out = 1 ∧ (stepF m o).2.kind = 1) : (stepF m o).2.x = nx - 1 := by
  cases h.own with
  | idle _ hne => exact absurd ho hne
  | push0 b0 t0 x hx => simp [stepF, pushF] at hk
  | push1 t0 x hx => simp only [stepF, pushF] at hk; simp at hk; split at hk <;> simp at hk
  | push2 t0 x hx => simp [stepF, pushF] at hk
  | push3 t0 x hx => simp [stepF, pushF, hx]
  | pop0 b0 t0 x => simp [stepF, popF] at hk
  | pop1 t0 x => simp [stepF, popF] at hk
  | pop2 t0 x => simp [stepF, popF] at hk
  | pop3a t0 x => simp [stepF, popF] at hk
  | pop3b x => simp [stepF, popF] at hk
  | pop4 x => simp [stepF, popF] at hk
  | pop5 t0 x => simp [stepF, popF] at hk
  | pop6 t0 x => simp [stepF, popF] at hk
theorem good_go {w : Dw} {nx : Int} {o : Mc} {t bt e : Nat} {ps H : List Int} (hin : Inv cap hi nx last w.m o w.th t bt e ps H) (hb : ∀ z, w.pushed.count z = (its ps t e).count z + H.count z + w.got.count z)
    (h3 : w.th.length = 3) (hpl : w.pushed.length ≤ hi) (hpr : ∀ v ∈ w.pushed, 0 ≤ v ∧ v < nx) (hhh : hi ≤ 1000000) (ho : o.out = 0) :
    Good cap (hi + 1) last { m := (stepF w.m o).1, owner := (stepF w.m o).2, th := w.th, pushed := if (stepF w.m o).2.out = 1 ∧ (stepF w.m o).2.kind = 1 then addB w.pushed (stepF w.m o).2.x 1 else w.pushed, got := if (stepF w.m o).2.out = 1 ∧ (stepF w.m o).2.kind = 2 then addB w.got (stepF w.m o).2.x 1 else w.got, next := nx } := by
  obtain ⟨t', bt', e', ps', H', hi', hc⟩ := owner_step hin hhh ho
  refine ⟨⟨t', bt', e', ps', H', hi', fun z => ?_⟩, h3, ?_, ?_⟩
  · have h1 := hc z
    have h2 := hb z
    simp only
    have e1 : (if (stepF w.m o).2.out = 1 ∧ (stepF w.m o).2.kind = 1 then addB w.pushed (stepF w.m o).2.x 1 else w.pushed).count z = w.pushed.count z + (if (stepF w.m o).2.out = 1 ∧ (stepF w.m o).2.kind = 1 then [(stepF w.m o).2.x] else []).count z := by
      split
      · exact add_one_count _ _ _
      · simp
    have e2 : (if (stepF w.m o).2.out = 1 ∧ (stepF w.m o).2.kind = 2 then addB w.got (stepF w.m o).2.x 1 else w.got).count z = w.got.count z + (if (stepF w.m o).2.out = 1 ∧ (stepF w.m o).2.kind = 2 then [(stepF w.m o).2.x] else []).count z := by
      split
      · exact add_one_count _ _ _
      · simp
    rw [e1, e2]
    omega
  · simp only
    split
    · rw [add_one_len]; omega
    · omega
  · intro v hv
    simp only at hv ⊢
    split at hv
    · rename_i hk
      rcases add_one_mem hv with rfl | hv
      · have hx := pushed_x hin ho hk
        have hl := hin.ll
        have h0 := hin.l0
        have hlim := lim_le (nx := nx) o
        have hn1 : nx - 1 ≥ 0 := by omega
        rw [hx]; omega
      · exact hpr v hv
    · exact hpr v hv
theorem good_own (h : Good cap hi last w) (hhh : hi ≤ 900000) (pop : Bool) : Good cap (hi + 2) last (ownF cap pop w) := by
  obtain ⟨⟨t, bt, e, ps, H, hin, hb⟩, h3, hpl, hpr⟩ := h
  unfold ownF
  by_cases ho : w.owner.out = 0
  · have hbg : beginF cap pop w = (w.owner, w.next) := by unfold beginF; rw [if_neg (by simp [ho])]
    simp only [hbg]
    exact good_go hin.up hb h3 (by omega) hpr (by omega) ho
  · cases pop with
    | true =>
      have hbg : beginF cap true w = (startF 2 0 cap 0, w.next) := by unfold beginF; rw [if_pos ho]; rfl
      simp only [hbg]
      exact good_go (begin_pop hin ho).up hb h3 (by omega) hpr (by omega) rfl
    | false =>
      have hbg : beginF cap false w = (startF 1 0 cap w.next, w.next + 1) := by unfold beginF; rw [if_pos ho]; rfl
      simp only [hbg]
      exact good_go (begin_push hin ho) hb h3 (by omega) (fun v hv => by have := hpr v hv; omega) (by omega) rfl
theorem good_th (h : Good cap hi last w) (hhh : hi ≤ 900000) {k : Nat} (hk : k < 3) :
    (Good cap (hi + 2) last (thF cap k w) ∧ (thF cap k w).got = w.got) ∨ ∃ x, last < x ∧ (thF cap k w).got = addB w.got x 1 ∧ Good cap (hi + 2) x (thF cap k w) := by
  obtain ⟨⟨t, bt, e, ps, H, hin, hb⟩, h3, hpl, hpr⟩ := h
  obtain ⟨d, hd⟩ : ∃ d, w.th.getD k (startF 3 0 cap 0) = d := ⟨_, rfl⟩
  have hmem : d ∈ w.th := by
    rw [← hd, List.getD_eq_getElem?_getD, List.getElem?_eq_getElem (by omega)]
    exact List.getElem_mem _
  unfold thF
  rw [hd]
  have hset : ∀ (t' e' : Nat) (d' : Mc), (∀ d ∈ w.th, Th cap t' e' ps d) → (d'.out = 0 → Th cap t' e' ps d') → ∀ y ∈ w.th.set k (if d'.out ≠ 0 then startF 3 0 cap 0 else d'), Th cap t' e' ps y := by
    intro t' e' d' h1 h2 y hy
    rcases List.mem_or_eq_of_mem_set hy with hy | rfl
    · exact h1 y hy
    · split
      · exact start_th _ rfl
      · rename_i hne
        exact h2 (by simpa using hne)
  rcases thief_step hin (by omega) (hin.th d hmem) with ⟨d', hs, ho, hth⟩ | ⟨d', hs, ho, ho1⟩ | ⟨d', m', hs, ho, hlt, hits, hin2⟩
  · left
    rw [hs]
    simp only
    rw [if_neg (show ¬ d'.out = 1 by rw [ho]; decide)]
    exact ⟨⟨⟨t, bt, e, ps, H, (hin.up.up).thieves (hset t e d' hin.th fun _ => hth), hb⟩, by simp [h3], by simp only; omega, hpr⟩, rfl⟩
  · left
    rw [hs]
    simp only
    rw [if_neg ho1]
    exact ⟨⟨⟨t, bt, e, ps, H, (hin.up.up).thieves (hset t e d' hin.th fun h => absurd h ho), hb⟩, by simp [h3], by simp only; omega, hpr⟩, rfl⟩
  · right
    rw [hs]
    simp only
    rw [if_pos ho]
    refine ⟨d'.x, (hin.rng d'.x (by rw [hits]; simp)).1, rfl, ⟨⟨t + 1, bt, e, ps, H, (hin2.up).thieves (hset (t + 1) e d' (fun d hd => (hin.th d hd).next) fun h => by rw [ho] at h; cases h), fun z => ?_⟩, by simp [h3], by simp only; omega, hpr⟩⟩
    have h1 := hb z
    rw [hits] at h1
    simp only
    rw [add_one_count, h1]
    have : (d'.x :: its ps (t + 1) e).count z = (its ps (t + 1) e).count z + [d'.x].count z := by
      rw [List.count_cons, List.count_singleton]
    omega
theorem Good.lower (h : Good cap hi last w) {l : Int} (h0 : 0 ≤ l) (hl : l ≤ last) : Good cap hi l w := by
  obtain ⟨⟨t, bt, e, ps, H, hin, hb⟩, h3, hpl, hpr⟩ := h
  exact ⟨⟨t, bt, e, ps, H, hin.lower h0 hl, hb⟩, h3, hpl, hpr⟩
theorem good_step (h : Good cap hi last w) (hhh : hi ≤ 900000) (b : Nat) (h0 : 0 ≤ last) : Good cap (hi + 2) last (stepW cap b w) := by
  unfold stepW
  split
  · rename_i hk
    rcases good_th h hhh hk with ⟨h1, _⟩ | ⟨x, hx, _, h1⟩
    · exact h1
    · exact h1.lower h0 (by omega)
  · exact good_own h hhh _
/-- what the laws ask -/
theorem good_once (h : Good cap hi last w) (hhh : hi ≤ 900000) :
    sameB w.pushed (sumB (sumB (itemsF w.m 0 cap w.owner) (heldF w.m cap w.owner)) w.got) = true ∧ (itemsF w.m 0 cap w.owner).length ≤ cap ∧ (itemsF w.m 0 cap w.owner).Pairwise (· < ·) := by
  obtain ⟨⟨t, bt, e, ps, H, hin, hb⟩, h3, hpl, hpr⟩ := h
  rw [items_ok hin (by omega), held_ok hin (by omega)]
  refine ⟨same_iff.2 fun z => ?_, by rw [its_len]; exact hin.own.room hin.c1, hin.srt⟩
  rw [sum_count, sum_count]; exact hb z
/-- of one more, without what was there, the one is left -/
theorem less_add (g : List Int) (x : Int) : lessB (addB g x 1) g = some [x] := by
  obtain ⟨l, h1, h2, h3⟩ := less_some (a := addB g x 1) (b := g) fun z => by rw [add_one_count]; omega
  rw [h1]
  congr 1
  refine rises_one h2 (by simp [Rises]) fun z => ?_
  rw [h3, add_one_count]; omega
end
end Go.Proofs.Ythjdjkcdlknhbaa
/- Layer deque: the law's world: its numbers are numbers of 64 bits. No program in this text. -/
namespace Go.Proofs.Ythjdjkcdlknhbaa

structure WU (hi : Nat) (L : Nat) (d : Dw) : Prop where
  m : AllU d.m
  o : McU d.owner
  th : ∀ t ∈ d.th, McU t
  n0 : 0 ≤ d.next
  n1 : d.next ≤ hi
  kp : AllK d.pushed
  kg : AllK d.got
  lp : d.pushed.length ≤ hi
  lg : d.got.length ≤ hi
  len : d.m.length = L
  th3 : d.th.length = 3
section
variable {hi L : Nat} {d : Dw}
theorem add_K {b : List Int} {o : Int} (hk : AllK b) (ho : Kw o) : AllK (addB b o 1) := fun x hx => by
  rcases add_one_mem hx with rfl | hx
  · exact ho
  · exact hk x hx
theorem WU.up (h : WU hi L d) : WU (hi + 2) L d := { h with n1 := by have := h.n1; omega, lp := by have := h.lp; omega, lg := by have := h.lg; omega }
theorem wu_th (cap : Nat) (hc : cap ≤ 64) (h : WU hi L d) {k : Nat} (hk : k < 3) : WU (hi + 2) L (thF cap k d) := by
  have hI : I6 (cap : Int) := by unfold I6; omega
  obtain ⟨t, ht⟩ : ∃ t, d.th.getD k (startF 3 0 cap 0) = t := ⟨_, rfl⟩
  have hmem : t ∈ d.th := by
    rw [← ht, List.getD_eq_getElem?_getD, List.getElem?_eq_getElem (by rw [h.th3]; exact hk)]
    exact List.getElem_mem _
  have hU := step_U h.m (h.th t hmem)
  unfold thF
  rw [ht]
  have hx : Kw (stepF d.m t).2.x := hU.mac.x
  refine ⟨hU.mem, h.o, ?_, h.n0, by have := h.n1; simp only; omega, h.kp, ?_, by have := h.lp; simp only; omega, ?_, hU.len.trans h.len, by simp [h.th3]⟩
  · intro y hy
    rcases List.mem_or_eq_of_mem_set hy with hy | rfl
    · exact h.th y hy
    · split
      · exact start_U (by unfold I6; omega) (by unfold I6; omega) hI (by unfold I6; omega)
      · exact hU.mac
  · simp only
    split
    · exact add_K h.kg hx
    · exact h.kg
  · simp only
    have := h.lg
    split
    · rw [add_one_len]; omega
    · omega
theorem wu_own (cap : Nat) (hc : cap ≤ 64) (h : WU hi L d) (hh : hi ≤ 900000) (pop : Bool) : WU (hi + 2) L (ownF cap pop d) := by
  have hI : I6 (cap : Int) := by unfold I6; omega
  have h0 := h.n0
  have h1 := h.n1
  have ho : McU (beginF cap pop d).1 ∧ 0 ≤ (beginF cap pop d).2 ∧ (beginF cap pop d).2 ≤ hi + 1 := by
    unfold beginF
    split
    · split
      · exact ⟨start_U (by unfold I6; omega) (by unfold I6; omega) hI (by unfold I6; omega), by simp only; omega, by simp only; omega⟩
      · exact ⟨start_U (by unfold I6; omega) (by unfold I6; omega) hI (by unfold I6; omega), by simp only; omega, by simp only; omega⟩
    · exact ⟨h.o, by simp only; omega, by simp only; omega⟩
  have hU := step_U h.m ho.1
  have hx : Kw (stepF d.m (beginF cap pop d).1).2.x := hU.mac.x
  unfold ownF
  refine ⟨hU.mem, hU.mac, h.th, ho.2.1, by have := ho.2.2; simp only; omega, ?_, ?_, ?_, ?_, hU.len.trans h.len, h.th3⟩
  · simp only
    split
    · exact add_K h.kp hx
    · exact h.kp
  · simp only
    split
    · exact add_K h.kg hx
    · exact h.kg
  · simp only
    have := h.lp
    split
    · rw [add_one_len]; omega
    · omega
  · simp only
    have := h.lg
    split
    · rw [add_one_len]; omega
    · omega
theorem wu_step (cap : Nat) (hc : cap ≤ 64) (h : WU hi L d) (hh : hi ≤ 900000) (b : Nat) : WU (hi + 2) L (stepW cap b d) := by
  unfold stepW
  split
  · rename_i hk; exact wu_th cap hc h hk
  · exact wu_own cap hc h hh _
theorem wu_start (cap : Nat) (hc : cap ≤ 64) : WU 1 (cap + 2) (startW cap) := by
  have hI : I6 (cap : Int) := by unfold I6; omega
  have hs : McU (startF 3 0 cap 0) := start_U (by unfold I6; omega) (by unfold I6; omega) hI (by unfold I6; omega)
  refine ⟨?_, ⟨by simp [startW, I6], by simp [startW, I6], by simp [startW, I6], by simp [startW, I6], by simp [startW, U], by simp [startW, U], by simp [startW, I6], by simp [startW, I6]⟩, ?_, by simp [startW], by simp [startW], by simp [startW, AllK], by simp [startW, AllK], by simp [startW], by simp [startW], by simp [startW], rfl⟩
  · intro y hy
    simp only [startW, List.mem_cons, List.mem_replicate] at hy
    rcases hy with rfl | rfl | ⟨-, rfl⟩ <;> simp [U]
  · intro y hy
    simp only [startW, List.mem_cons, List.not_mem_nil, or_false] at hy
    rcases hy with rfl | rfl | rfl <;> exact hs
/-- the schedule's steps -/
def runW (cap : Nat) : List Nat → Dw → Dw
  | [], d => d
  | b :: l, d => runW cap l (stepW cap b d)
theorem runW_snoc (cap : Nat) : ∀ (l : List Nat) (d : Dw) (b : Nat), runW cap (l ++ [b]) d = stepW cap b (runW cap l d)
  | [], _, _ => rfl
  | _ :: l, _, b => runW_snoc cap l _ b
end
end Go.Proofs.Ythjdjkcdlknhbaa
