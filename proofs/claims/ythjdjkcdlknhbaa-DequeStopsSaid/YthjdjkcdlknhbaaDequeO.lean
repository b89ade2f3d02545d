/- Layer deque: a step of the owner keeps what must be so. No program in this text. -/
import Derived.Test.YthjdjkcdlknhbaaDequeI
namespace Go.Proofs.Ythjdjkcdlknhbaa

section
variable {cap hi t bt e : Nat} {nx last : Int} {m ps H : List Int} {o : Mc} {ths : List Mc}
/-- nothing that is in is turned -/
theorem Inv.turn (h : Inv cap hi nx last m o ths t bt e ps H) {o' : Mc} {bt' : Nat} {H' : List Int} (own' : Ph cap t bt' ps nx o' e H') (hb' : bt' ≤ hi + 1) (hl : limF o nx ≤ limF o' nx) :
    Inv cap (hi + 1) nx last ((t : Int) :: (bt' : Int) :: ps) o' ths t bt' e ps H' where
  mem := rfl
  len := h.len
  c1 := h.c1
  c2 := h.c2
  t1 := h.t1
  ht := Nat.le_succ_of_le h.ht
  hb := hb'
  hn := by have := h.hn; omega
  own := own'
  th := h.th
  srt := h.srt
  rng := fun v hv => ⟨(h.rng v hv).1, Int.lt_of_lt_of_le (h.rng v hv).2 hl⟩
  vals := h.vals
  l0 := h.l0
  ll := Int.lt_of_lt_of_le h.ll hl
theorem Th.mono {e' : Nat} {d : Mc} (h : Th cap t e ps d) (he : t < e → t < e') : Th cap t e' ps d := by
  cases h with
  | p0 => exact .p0 ..
  | p1 _ _ s h => exact .p1 _ _ s h
  | p2 _ _ s h h1 => exact .p2 _ _ s h fun e => he (h1 e)
  | p3 _ _ s h h1 => exact .p3 _ _ s h fun e => ⟨he (h1 e).1, (h1 e).2⟩
/-- TOP goes on -/
theorem Th.next {e' : Nat} {d : Mc} (h : Th cap t e ps d) : Th cap (t + 1) e' ps d := by
  cases h with
  | p0 => exact .p0 ..
  | p1 _ _ s h => exact .p1 _ _ s (by omega)
  | p2 _ _ s h h1 => exact .p2 _ _ s (by omega) fun e => by omega
  | p3 _ _ s h h1 => exact .p3 _ _ s (by omega) fun e => by omega
theorem Th.put {d : Mc} (x : Int) (h : Th cap t e ps d) (hr : e < t + ps.length) : Th cap t e (ps.set (e % ps.length) x) d := by
  cases h with
  | p0 => exact .p0 ..
  | p1 _ _ s h => exact .p1 _ _ s h
  | p2 _ _ s h h1 => exact .p2 _ _ s h h1
  | p3 _ _ s h h1 => exact .p3 _ _ s h fun e => ⟨(h1 e).1, by rw [(h1 e).2, val_set_ne x (h1 e).1 hr]⟩
theorem lim_push (p c b t x : Int) : limF ⟨1, p, 0, c, b, t, x, 0⟩ nx = nx - 1 := by simp [limF]
theorem lim_out (o : Mc) (h : o.out ≠ 0) : limF o nx = nx := by simp [limF, h]
theorem lim_pop (p c b t x : Int) : limF ⟨2, p, 0, c, b, t, x, 0⟩ nx = nx := by simp [limF]
theorem lim_le (o : Mc) : limF o nx ≤ nx := by unfold limF; split <;> omega
/-- what came of a step of the owner's -/
def Came (I H I' H' : List Int) (o' : Mc) : Prop :=
  ∀ z, I'.count z + H'.count z + (if o'.out = 1 ∧ o'.kind = 2 then [o'.x] else []).count z = I.count z + H.count z + (if o'.out = 1 ∧ o'.kind = 1 then [o'.x] else []).count z
theorem came_none {I H : List Int} {o' : Mc} (h : o'.out ≠ 1) : Came I H I H o' := fun z => by simp [h]

theorem owner_step (h : Inv cap hi nx last m o ths t bt e ps H) (hhh : hi ≤ 1000000) (ho : o.out = 0) :
    ∃ (t' bt' e' : Nat) (ps' H' : List Int), Inv cap (hi + 1) nx last (stepF m o).1 (stepF m o).2 ths t' bt' e' ps' H' ∧ Came (its ps t e) H (its ps' t' e') H' (stepF m o).2 := by
  obtain ⟨h0, hl, hc1, hc2, ht1, hht, hhb, hn, hown, hth, hsrt, hrng, hvals, hl0, hll⟩ := h
  have h : Inv cap hi nx last m o ths t bt e ps H := ⟨h0, hl, hc1, hc2, ht1, hht, hhb, hn, hown, hth, hsrt, hrng, hvals, hl0, hll⟩
  subst h0
  cases hown with
  | idle _ hne => exact absurd ho hne
  | push0 b0 t0 x hx h1 h2 =>
    have hs : stepF ((t : Int) :: (bt : Int) :: ps) ⟨1, 0, 0, cap, b0, t0, x, 0⟩ = ((t : Int) :: (bt : Int) :: ps, ⟨1, 1, 0, cap, bt, t0, x, 0⟩) := by
      simp [stepF, pushF, bottom0, load_bot]
    rw [hs]
    exact ⟨t, bt, _, ps, [], h.turn (.push1 t0 x hx h1 h2) (by omega) (by simp [lim_push]), came_none (by simp)⟩
  | push1 t0 x hx h1 h2 =>
    have hw : w64 ((bt : Int) - t) = (bt : Int) - t := w64_small (by omega) (by omega)
    have hs : stepF ((t : Int) :: (bt : Int) :: ps) ⟨1, 1, 0, cap, bt, t0, x, 0⟩ = ((t : Int) :: (bt : Int) :: ps, ⟨1, 2, 0, cap, bt, t, x, if (cap : Int) ≤ (bt : Int) - t then 3 else 0⟩) := by
      simp [stepF, pushF, load_top, cap0 _ _ _ _ _ _ _ hc1, hw]
    rw [hs]
    by_cases hf : (cap : Int) ≤ (bt : Int) - t
    · rw [if_pos hf]
      exact ⟨t, bt, _, ps, [], h.turn (.idle _ (by simp) h1 h2) (by omega) (by rw [lim_push, lim_out _ (by simp)]; omega), came_none (by simp)⟩
    · rw [if_neg hf]
      exact ⟨t, bt, _, ps, [], h.turn (.push2 t x hx h1 (by omega)) (by omega) (by simp [lim_push]), came_none (by simp)⟩
  | push2 t0 x hx h1 h2 =>
    rw [lim_push] at hrng hll
    have hw : w64 x = x := w64_small (by omega) (by omega)
    have hs : stepF ((t : Int) :: (bt : Int) :: ps) ⟨1, 2, 0, cap, bt, t0, x, 0⟩ = ((t : Int) :: (bt : Int) :: ps.set (bt % ps.length) x, ⟨1, 3, 0, cap, bt, t0, x, 0⟩) := by
      simp [stepF, pushF, store_val _ _ _ _ _ _ _ hl hc1 hc2, hw]
    rw [hs]
    have hi' : its (ps.set (bt % ps.length) x) t bt = its ps t bt := its_set x (by omega)
    refine ⟨t, bt, bt, _, [], ⟨rfl, by rw [List.length_set]; exact hl, hc1, hc2, ht1, by omega, by omega, by omega, .push3 t0 x hx h1 h2 (val_set_eq bt x (by omega)), fun d hd => (hth d hd).put x (by omega), by rw [hi']; exact hsrt, by rw [hi', lim_push]; exact hrng, fun v hv => ?_, hl0, by rw [lim_push]; exact hll⟩, ?_⟩
    · rcases List.mem_or_eq_of_mem_set hv with hv | rfl
      · exact hvals v hv
      · omega
    · rw [hi']; exact came_none (by simp)
  | push3 t0 x hx h1 h2 hv =>
    rw [lim_push] at hrng hll
    have hw : w64 ((bt : Int) + 1) = ((bt + 1 : Nat) : Int) := by rw [w64_small (by omega) (by omega)]; rfl
    have hs : stepF ((t : Int) :: (bt : Int) :: ps) ⟨1, 3, 0, cap, bt, t0, x, 0⟩ = ((t : Int) :: ((bt + 1 : Nat) : Int) :: ps, ⟨1, 4, 0, cap, bt, t0, x, 1⟩) := by
      simp only [stepF, pushF, bottom0, store_bot, hw]; simp
    rw [hs]
    have hi' : its ps t (bt + 1) = its ps t bt ++ [x] := by rw [its_snoc h1, hv]
    refine ⟨t, bt + 1, bt + 1, ps, [], ⟨rfl, hl, hc1, hc2, ht1, by omega, by omega, by omega, .idle _ (by simp) (by omega) (by omega), fun d hd => (hth d hd).mono (by omega), ?_, fun v hv => ?_, hvals, hl0, by rw [lim_out _ (by simp)]; omega⟩, fun z => ?_⟩
    · rw [hi', List.pairwise_append]
      exact ⟨hsrt, by simp, fun a ha b hb => by rw [List.mem_singleton.1 hb]; have := hrng a ha; omega⟩
    · rw [lim_out _ (by simp)]
      rw [hi', List.mem_append] at hv
      rcases hv with hv | hv
      · have := hrng v hv; omega
      · rw [List.mem_singleton.1 hv]; omega
    · rw [hi', List.count_append]; simp
  | pop0 b0 t0 x h1 h2 =>
    have hs : stepF ((t : Int) :: (bt : Int) :: ps) ⟨2, 0, 0, cap, b0, t0, x, 0⟩ = ((t : Int) :: (bt : Int) :: ps, ⟨2, 1, 0, cap, bt, t0, x, 0⟩) := by
      simp [stepF, popF, bottom0, load_bot]
    rw [hs]
    exact ⟨t, bt, _, ps, [], h.turn (.pop1 t0 x h1 h2) (by omega) (by simp [lim_pop]), came_none (by simp)⟩
  | pop1 t0 x h1 h2 =>
    obtain ⟨c, rfl⟩ : ∃ c, bt = c + 1 := ⟨bt - 1, by omega⟩
    have hw : w64 (((c + 1 : Nat) : Int) - 1) = (c : Int) := by rw [w64_small (by omega) (by omega)]; omega
    have hs : stepF ((t : Int) :: ((c + 1 : Nat) : Int) :: ps) ⟨2, 1, 0, cap, ((c + 1 : Nat) : Int), t0, x, 0⟩ = ((t : Int) :: (c : Int) :: ps, ⟨2, 2, 0, cap, (c : Int) + 1, t0, x, 0⟩) := by
      simp only [stepF, popF, bottom0, store_bot, hw]; simp
    rw [hs]
    exact ⟨t, c, _, ps, [], h.turn (.pop2 t0 x h1 h2) (by omega) (by simp [lim_pop]), came_none (by simp)⟩
  | pop2 t0 x h1 h2 =>
    have hw : w64 ((bt : Int) + 1 - 1) = (bt : Int) := by rw [w64_small (by omega) (by omega)]; omega
    have hs1 : s64 ((t : Int) - bt) = (t : Int) - bt := s64_small (by omega) (by omega)
    have hs : stepF ((t : Int) :: (bt : Int) :: ps) ⟨2, 2, 0, cap, (bt : Int) + 1, t0, x, 0⟩ = ((t : Int) :: (bt : Int) :: ps, ⟨2, if 0 < (t : Int) - bt then 5 else 3, 0, cap, (bt : Int) + 1, t, x, 0⟩) := by
      simp only [stepF, popF, load_top, hw, hs1]; simp
    rw [hs]
    by_cases hp : 0 < (t : Int) - bt
    · rw [if_pos hp]
      exact ⟨t, bt, _, ps, [], h.turn (.pop5 t x (by omega)) (by omega) (by simp [lim_pop]), came_none (by simp)⟩
    · rw [if_neg hp]
      by_cases he : t = bt
      · subst he
        exact ⟨t, t, _, ps, [], h.turn (.pop3b x (.inl rfl)) (by omega) (by simp [lim_pop]), came_none (by simp)⟩
      · have hi' : its ps t (bt + 1) = its ps t bt ++ [valP ps bt] := its_snoc (by omega)
        rw [lim_pop] at hrng hll
        rw [hi'] at hrng hsrt
        refine ⟨t, bt, bt, ps, [valP ps bt], ⟨rfl, hl, hc1, hc2, ht1, by omega, by omega, by omega, .pop3a t x (by omega) (by omega) (by omega), fun d hd => (hth d hd).mono (by omega), (List.pairwise_append.1 hsrt).1, fun v hv => ?_, hvals, hl0, by rw [lim_pop]; exact hll⟩, fun z => ?_⟩
        · rw [lim_pop]; exact hrng v (by simp [hv])
        · rw [hi', List.count_append]; simp
  | pop3a t0 x hne h1 h2 =>
    have hw : w64 ((bt : Int) + 1 - 1) = (bt : Int) := by rw [w64_small (by omega) (by omega)]; omega
    have hv := hvals _ (val_mem bt (show 0 < ps.length by omega))
    have hx : s64 (valP ps bt) = valP ps bt := s64_small (by omega) (by omega)
    have hs : stepF ((t : Int) :: (bt : Int) :: ps) ⟨2, 3, 0, cap, (bt : Int) + 1, t0, x, 0⟩ = ((t : Int) :: (bt : Int) :: ps, ⟨2, 4, 0, cap, (bt : Int) + 1, t0, valP ps bt, 1⟩) := by
      simp only [stepF, popF, hw, load_val _ _ _ _ _ _ _ hl hc1 hc2, hx, if_neg hne]; simp
    rw [hs]
    refine ⟨t, bt, _, ps, [], h.turn (.idle _ (by simp) h1 (by omega)) (by omega) (by rw [lim_pop, lim_out _ (by simp)]; omega), fun z => ?_⟩
    simp
  | pop3b x h1 =>
    have hw : w64 ((bt : Int) + 1 - 1) = (bt : Int) := by rw [w64_small (by omega) (by omega)]; omega
    have hv := hvals _ (val_mem bt (show 0 < ps.length by omega))
    have hx : s64 (valP ps bt) = valP ps bt := s64_small (by omega) (by omega)
    have hs : stepF ((t : Int) :: (bt : Int) :: ps) ⟨2, 3, 0, cap, (bt : Int) + 1, bt, x, 0⟩ = ((t : Int) :: (bt : Int) :: ps, ⟨2, 4, 0, cap, (bt : Int) + 1, bt, valP ps bt, 0⟩) := by
      simp only [stepF, popF, hw, load_val _ _ _ _ _ _ _ hl hc1 hc2, hx]; simp
    rw [hs]
    exact ⟨t, bt, _, ps, [], h.turn (.pop4 _ (by omega)) (by omega) (by simp [lim_pop]), came_none (by simp)⟩
  | pop4 x h1 =>
    have hw : w64 ((bt : Int) + 1) = ((bt + 1 : Nat) : Int) := by rw [w64_small (by omega) (by omega)]; rfl
    rcases h1 with ⟨rfl, hx⟩ | h1
    · have hs : stepF ((t : Int) :: (t : Int) :: ps) ⟨2, 4, 0, cap, (t : Int) + 1, t, x, 0⟩ = (((t + 1 : Nat) : Int) :: (t : Int) :: ps, ⟨2, 6, 0, cap, (t : Int) + 1, t, x, 0⟩) := by
        simp only [stepF, popF, hw, (swap_yes _ _ _ _).1, (swap_yes _ _ _ _).2]; simp
      rw [hs]
      have hi' : its ps t (t + 1) = [x] := by rw [its_snoc (Nat.le_refl _), its_nil (Nat.le_refl _), hx]; rfl
      have hi2 : its ps (t + 1) t = [] := its_nil (by omega)
      rw [lim_pop] at hrng hll
      refine ⟨t + 1, t, t, ps, [x], ⟨rfl, hl, hc1, hc2, by omega, by omega, by omega, by omega, .pop6 t x rfl, fun d hd => (hth d hd).next, by rw [hi2]; exact List.Pairwise.nil, by rw [hi2]; simp, hvals, hl0, by rw [lim_pop]; exact hll⟩, fun z => ?_⟩
      rw [hi', hi2]; simp
    · have hs : stepF ((t : Int) :: (bt : Int) :: ps) ⟨2, 4, 0, cap, (bt : Int) + 1, bt, x, 0⟩ = ((t : Int) :: (bt : Int) :: ps, ⟨2, 5, 0, cap, (bt : Int) + 1, bt, x, 0⟩) := by
        simp only [stepF, popF, (swap_no _ _ _ _ (show (t : Int) ≠ (bt : Int) by omega)).1, (swap_no _ _ _ _ (show (t : Int) ≠ (bt : Int) by omega)).2]; simp
      rw [hs]
      exact ⟨t, bt, _, ps, [], h.turn (.pop5 _ x h1) (by omega) (by simp [lim_pop]), came_none (by simp)⟩
  | pop5 t0 x h1 =>
    have hs : stepF ((t : Int) :: (bt : Int) :: ps) ⟨2, 5, 0, cap, (bt : Int) + 1, t0, x, 0⟩ = ((t : Int) :: ((bt + 1 : Nat) : Int) :: ps, ⟨2, 6, 0, cap, (bt : Int) + 1, t0, 0, 2⟩) := by
      simp only [stepF, popF, bottom0, store_bot]; simp
    rw [hs]
    exact ⟨t, bt + 1, _, ps, [], h.turn (.idle _ (by simp) (by omega) (by omega)) (by omega) (by rw [lim_pop, lim_out _ (by simp)]; omega), came_none (by simp)⟩
  | pop6 t0 x h1 =>
    have hs : stepF ((t : Int) :: (bt : Int) :: ps) ⟨2, 6, 0, cap, (bt : Int) + 1, t0, x, 0⟩ = ((t : Int) :: ((bt + 1 : Nat) : Int) :: ps, ⟨2, 7, 0, cap, (bt : Int) + 1, t0, x, 1⟩) := by
      simp only [stepF, popF, bottom0, store_bot]; simp
    rw [hs]
    rw [lim_pop] at hll
    have hi' : its ps t (bt + 1) = [] := its_nil (by omega)
    have hi2 : its ps t bt = [] := its_nil (by omega)
    refine ⟨t, bt + 1, bt + 1, ps, [], ⟨rfl, hl, hc1, hc2, ht1, by omega, by omega, by omega, .idle _ (by simp) (by omega) (by omega), fun d hd => (hth d hd).mono (by omega), by rw [hi']; exact List.Pairwise.nil, by rw [hi']; simp, hvals, hl0, by rw [lim_out _ (by simp)]; exact hll⟩, fun z => ?_⟩
    rw [hi', hi2]; simp
end
end Go.Proofs.Ythjdjkcdlknhbaa
