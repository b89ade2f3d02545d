/- Layer deque: a thief's step, a new begin of the owner's; what is in, and held, is told so. No program in this text. -/
import Derived.Test.YthjdjkcdlknhbaaDequeO
namespace Go.Proofs.Ythjdjkcdlknhbaa

section
variable {cap hi t bt e : Nat} {nx last : Int} {m ps H : List Int} {o : Mc} {ths : List Mc}
theorem Ph.next (h : Ph cap t bt ps nx o e H) (ht : t < e) : Ph cap (t + 1) bt ps nx o e H := by
  cases h with
  | idle _ h h1 h2 => exact .idle _ h (by omega) (by omega)
  | push0 b0 t0 x hx h1 h2 => exact .push0 _ _ _ hx (by omega) (by omega)
  | push1 t0 x hx h1 h2 => exact .push1 _ _ hx (by omega) (by omega)
  | push2 t0 x hx h1 h2 => exact .push2 _ _ hx (by omega) (by omega)
  | push3 t0 x hx h1 h2 hv => exact .push3 _ _ hx (by omega) (by omega) hv
  | pop0 b0 t0 x h1 h2 => exact .pop0 _ _ _ (by omega) (by omega)
  | pop1 t0 x h1 h2 => exact .pop1 _ _ (by omega) (by omega)
  | pop2 t0 x h1 h2 => exact .pop2 _ _ (by omega) (by omega)
  | pop3a t0 x hne h1 h2 => exact .pop3a _ _ hne (by omega) (by omega)
  | pop3b x h1 => exact .pop3b _ (by omega)
  | pop4 x h1 => exact .pop4 _ (.inr (by omega))
  | pop5 t0 x h1 => omega
  | pop6 t0 x h1 => omega
theorem Inv.lower (h : Inv cap hi nx last m o ths t bt e ps H) {l : Int} (h0 : 0 ≤ l) (hl : l ≤ last) : Inv cap hi nx l m o ths t bt e ps H :=
  { h with rng := fun v hv => ⟨Int.lt_of_le_of_lt hl (h.rng v hv).1, (h.rng v hv).2⟩, l0 := h0, ll := Int.lt_of_le_of_lt hl h.ll }
theorem Inv.up (h : Inv cap hi nx last m o ths t bt e ps H) : Inv cap (hi + 1) nx last m o ths t bt e ps H :=
  { h with ht := Nat.le_succ_of_le h.ht, hb := Nat.le_succ_of_le h.hb, hn := by have := h.hn; omega }
theorem Inv.thieves (h : Inv cap hi nx last m o ths t bt e ps H) {ths' : List Mc} (h' : ∀ d ∈ ths', Th cap t e ps d) : Inv cap hi nx last m o ths' t bt e ps H := { h with th := h' }
theorem start_th (d : Mc) (h : d = startF 3 0 cap 0) : Th cap t e ps d := by subst h; exact .p0 ..

theorem thief_step (h : Inv cap hi nx last m o ths t bt e ps H) (hhh : hi ≤ 1000000) {d : Mc} (hd : Th cap t e ps d) :
    (∃ d', stepF m d = (m, d') ∧ d'.out = 0 ∧ Th cap t e ps d') ∨ (∃ d', stepF m d = (m, d') ∧ d'.out ≠ 0 ∧ d'.out ≠ 1) ∨
      (∃ d' m', stepF m d = (m', d') ∧ d'.out = 1 ∧ t < e ∧ its ps t e = d'.x :: its ps (t + 1) e ∧ Inv cap (hi + 1) nx d'.x m' o ths (t + 1) bt e ps H) := by
  have hm := h.mem
  have hl := h.len
  have hc1 := h.c1
  have hc2 := h.c2
  have ht := h.ht
  have hb := h.hb
  have hn := h.hn
  have he := h.own.end_le
  cases hd with
  | p0 b0 t0 x =>
    refine .inl ⟨⟨3, 1, 0, cap, b0, t, x, 0⟩, ?_, rfl, .p1 _ _ t (Nat.le_refl _)⟩
    rw [hm]; simp [stepF, stealF, load_top]
  | p1 b0 x s hs =>
    have hw : s64 ((bt : Int) - s) = (bt : Int) - s := s64_small (by omega) (by omega)
    have hst : stepF m ⟨3, 1, 0, cap, b0, s, x, 0⟩ = (m, ⟨3, 2, 0, cap, bt, s, x, if (bt : Int) - s ≤ 0 then 2 else 0⟩) := by
      rw [hm]; simp only [stepF, stealF, bottom0, load_bot, hw]; simp
    by_cases hp : (bt : Int) - s ≤ 0
    · rw [if_pos hp] at hst
      exact .inr (.inl ⟨_, hst, by simp, by simp⟩)
    · rw [if_neg hp] at hst
      exact .inl ⟨_, hst, rfl, .p2 _ _ s hs fun e => by omega⟩
  | p2 b0 x s hs h1 =>
    have hv := h.vals _ (val_mem s (show 0 < ps.length by omega))
    have hx : s64 (valP ps s) = valP ps s := s64_small (by omega) (by omega)
    refine .inl ⟨⟨3, 3, 0, cap, b0, s, valP ps s, 0⟩, ?_, rfl, .p3 _ _ s hs fun e => ⟨h1 e, by rw [e]⟩⟩
    rw [hm]; simp only [stepF, stealF, load_val _ _ _ _ _ _ _ hl hc1 hc2, hx]; simp
  | p3 b0 x s hs h1 =>
    have hw : w64 ((s : Int) + 1) = ((s + 1 : Nat) : Int) := by rw [w64_small (by omega) (by omega)]; rfl
    by_cases hst : s = t
    · obtain ⟨hlt, hx⟩ := h1 hst
      subst hst
      have hi' := its_head (ps := ps) hlt
      rw [← hx] at hi'
      have hsr := h.srt
      have hrg := h.rng
      rw [hi'] at hsr hrg
      obtain ⟨hs1, hs2⟩ := List.pairwise_cons.1 hsr
      have hx0 := hrg x (by simp)
      refine .inr (.inr ⟨⟨3, 4, 0, cap, b0, s, x, 1⟩, ((s + 1 : Nat) : Int) :: (bt : Int) :: ps, ?_, rfl, hlt, hi', ?_⟩)
      · rw [hm]; simp only [stepF, stealF, hw, (swap_yes _ _ _ _).1, (swap_yes _ _ _ _).2]; simp
      · exact ⟨rfl, hl, hc1, hc2, by have := h.t1; omega, by omega, by omega, by omega, h.own.next hlt, fun d hd => (h.th d hd).next, hs2, fun v hv => ⟨hs1 v hv, (hrg v (by simp [hv])).2⟩, h.vals, by have := h.l0; simp only; omega, hx0.2⟩
    · refine .inr (.inl ⟨⟨3, 4, 0, cap, b0, s, 0, 4⟩, ?_, by simp, by simp⟩)
      rw [hm]; simp only [stepF, stealF, (swap_no _ _ _ _ (show (t : Int) ≠ (s : Int) by omega)).1, (swap_no _ _ _ _ (show (t : Int) ≠ (s : Int) by omega)).2]; simp

theorem Ph.of_out (h : Ph cap t bt ps nx o e H) (ho : o.out ≠ 0) : e = bt ∧ H = [] ∧ t ≤ bt ∧ bt ≤ t + cap := by
  cases h with
  | idle _ _ h1 h2 => exact ⟨rfl, rfl, h1, h2⟩
  | _ => exact absurd rfl ho
theorem begin_push (h : Inv cap hi nx last m o ths t bt e ps H) (ho : o.out ≠ 0) : Inv cap (hi + 1) (nx + 1) last m (startF 1 0 cap nx) ths t bt e ps H := by
  obtain ⟨rfl, rfl, h1, h2⟩ := h.own.of_out ho
  have hl := lim_out (nx := nx) o ho
  have hr := h.rng
  have hll := h.ll
  rw [hl] at hr hll
  have e1 : limF (startF 1 0 cap nx) (nx + 1) = nx := by unfold startF; rw [lim_push]; omega
  exact { h with ht := Nat.le_succ_of_le h.ht, hb := Nat.le_succ_of_le h.hb, hn := by have := h.hn; omega, own := .push0 _ _ _ (by omega) h1 h2, rng := by rw [e1]; exact hr, vals := fun v hv => by have := h.vals v hv; omega, ll := by rw [e1]; exact hll }
theorem begin_pop (h : Inv cap hi nx last m o ths t bt e ps H) (ho : o.out ≠ 0) : Inv cap hi nx last m (startF 2 0 cap 0) ths t bt e ps H := by
  obtain ⟨rfl, rfl, h1, h2⟩ := h.own.of_out ho
  have hl := lim_out (nx := nx) o ho
  have hr := h.rng
  have hll := h.ll
  rw [hl] at hr hll
  have e1 : limF (startF 2 0 cap 0) nx = nx := by unfold startF; rw [lim_pop]
  exact { h with own := .pop0 _ _ _ h1 h2, rng := by rw [e1]; exact hr, ll := by rw [e1]; exact hll }

/-- what the owner has that pops -/
def heldF (m : List Int) (cap : Int) (o : Mc) : List Int :=
  if o.kind ≠ 2 ∨ o.out ≠ 0 then [] else if o.pc = 6 then [o.x] else if o.pc = 3 ∧ o.t ≠ w64 (o.b - 1) then [s64 (loadF m (2 + w64 (o.b - 1) % cap))] else []
theorem held_ok (h : Inv cap hi nx last m o ths t bt e ps H) (hhh : hi ≤ 1000000) : heldF m cap o = H := by
  have hm := h.mem
  have hl := h.len
  have hc1 := h.c1
  have hb := h.hb
  have hn := h.hn
  have hvs := h.vals
  have hw : w64 ((bt : Int) + 1 - 1) = (bt : Int) := by rw [w64_small (by omega) (by omega)]; omega
  cases h.own with
  | idle _ hne h1 h2 => unfold heldF; rw [if_pos (.inr hne)]
  | push0 b0 t0 x hx h1 h2 => simp [heldF]
  | push1 t0 x hx h1 h2 => simp [heldF]
  | push2 t0 x hx h1 h2 => simp [heldF]
  | push3 t0 x hx h1 h2 hv => simp [heldF]
  | pop0 b0 t0 x h1 h2 => simp [heldF]
  | pop1 t0 x h1 h2 => simp [heldF]
  | pop2 t0 x h1 h2 => simp [heldF]
  | pop3a t0 x hne h1 h2 =>
    have hv := hvs _ (val_mem bt (show 0 < ps.length by omega))
    have hx : s64 (valP ps bt) = valP ps bt := s64_small (by omega) (by omega)
    have hmod := Nat.mod_lt bt (show 0 < cap by omega)
    have e1 : loadF m (2 + (bt : Int) % (cap : Int)) = valP ps bt := by
      rw [hm, show ((bt : Int) % (cap : Int)) = ((bt % cap : Nat) : Int) by simp, load_at _ _ _ _ (by omega), val_get bt (by omega)]
      simp [hl]
    simp only [heldF, hw, e1, hx]
    simp [hne]
  | pop3b x h1 => simp only [heldF, hw]; simp
  | pop4 x h1 => simp [heldF]
  | pop5 t0 x h1 => simp [heldF]
  | pop6 t0 x h1 => simp [heldF]
theorem end_ok (h : Inv cap hi nx last m o ths t bt e ps H) (hhh : hi ≤ 1000000) : endF m 0 o = e := by
  have hm := h.mem
  have hb := h.hb
  have hw : w64 ((bt : Int) + 1 - 1) = (bt : Int) := by rw [w64_small (by omega) (by omega)]; omega
  have h0 : w64 ((bt : Int) + 0) = (bt : Int) := by rw [w64_small (by omega) (by omega)]; omega
  have h1' : w64 ((bt : Int) + 1) = ((bt + 1 : Nat) : Int) := by rw [w64_small (by omega) (by omega)]; rfl
  have hbot : loadF m (s64 (0 + 1)) = (bt : Int) := by rw [hm, show s64 (0 + 1) = 1 by simp [s64]]; exact load_bot _ _ _
  have no : ∀ o : Mc, extF o = false → endF m 0 o = (bt : Int) := fun o ho => by unfold endF; rw [hbot, ho]; exact h0
  have yes : ∀ o : Mc, extF o = true → endF m 0 o = ((bt + 1 : Nat) : Int) := fun o ho => by unfold endF; rw [hbot, ho]; exact h1'
  cases h.own with
  | idle _ hne h1 h2 => exact no _ (by unfold extF; exact decide_eq_false fun hx => hne hx.2.1)
  | push0 b0 t0 x hx h1 h2 => exact no _ (by simp [extF])
  | push1 t0 x hx h1 h2 => exact no _ (by simp [extF])
  | push2 t0 x hx h1 h2 => exact no _ (by simp [extF])
  | push3 t0 x hx h1 h2 hv => exact no _ (by simp [extF])
  | pop0 b0 t0 x h1 h2 => exact no _ (by simp [extF])
  | pop1 t0 x h1 h2 => exact no _ (by simp [extF])
  | pop2 t0 x h1 h2 => exact yes _ (by simp [extF])
  | pop3a t0 x hne h1 h2 => exact no _ (by simp only [extF, hw]; simp [hne])
  | pop3b x h1 => exact yes _ (by simp only [extF, hw]; simp)
  | pop4 x h1 => exact yes _ (by simp [extF])
  | pop5 t0 x h1 => exact yes _ (by simp [extF])
  | pop6 t0 x h1 => exact no _ (by simp [extF])
theorem load_mod (i : Nat) (hl : ps.length = cap) (hc : 1 ≤ cap) (hc2 : cap ≤ 64) (T B : Int) : loadF (T :: B :: ps) (2 + ((i % cap : Nat) : Int)) = valP ps i := by
  have := load_val (ps := ps) 0 0 0 0 0 0 i hl hc hc2 T B
  rwa [place0 _ _ _ _ _ _ _ _ hc hc2] at this
theorem place_small {j : Nat} (h : j ≤ 64) : s64 (0 + 2 + (j : Int)) = 2 + (j : Int) := by
  have e : (0 : Int) + 2 + (j : Int) = 2 + (j : Int) := by omega
  rw [e]
  exact s64_small (by omega) (by omega)
theorem items_ok (h : Inv cap hi nx last m o ths t bt e ps H) (hhh : hi ≤ 1000000) : itemsF m 0 cap o = its ps t e := by
  have hm := h.mem
  have hl := h.len
  have hc1 := h.c1
  have hc2 := h.c2
  have ht := h.ht
  have hb := h.hb
  have hn := h.hn
  have he := h.own.end_le
  have hr := h.own.room hc1
  have htop : loadF m 0 = (t : Int) := by rw [hm]; exact load_top _ _ _
  have hs : s64 ((e : Int) - t) = (e : Int) - t := s64_small (by omega) (by omega)
  have hmx : max (cap : Int) 1 = (cap : Int) := by omega
  unfold itemsF
  simp only [htop, end_ok h hhh, hs, hmx]
  by_cases hle : e ≤ t
  · rw [if_pos (.inl (by omega)), its_nil hle]
  · have hw : w64 ((e : Int) - t) = (e : Int) - t := w64_small (by omega) (by omega)
    rw [hw, if_neg (by omega)]
    unfold its
    rw [show ((e : Int) - t).toNat = e - t by omega]
    apply List.map_congr_left
    intro k hk
    rw [List.mem_range] at hk
    have hwk : w64 ((t : Int) + (k : Nat)) = ((t + k : Nat) : Int) := by rw [w64_small (by omega) (by omega)]; rfl
    have hmod := Nat.mod_lt (t + k) (show 0 < cap by omega)
    have hv := h.vals _ (val_mem (t + k) (show 0 < ps.length by omega))
    have e3 : s64 (0 + 2 + (((t + k) % cap : Nat) : Int)) = 2 + (((t + k) % cap : Nat) : Int) := place_small (by omega)
    have e4 : loadF m (2 + (((t + k) % cap : Nat) : Int)) = valP ps (t + k) := by rw [hm]; exact load_mod _ hl hc1 hc2 _ _
    rw [hwk, show (((t + k : Nat) : Int) % (cap : Int)) = (((t + k) % cap : Nat) : Int) by simp, e3, e4]
    exact s64_small (by omega) (by omega)
theorem start_inv (cap : Nat) (hc1 : 1 ≤ cap) (hc2 : cap ≤ 64) : Inv cap 1 1 0 (1 :: 1 :: List.replicate cap 0) ⟨0, 0, 0, 0, 0, 0, 0, 1⟩ [startF 3 0 cap 0, startF 3 0 cap 0, startF 3 0 cap 0] 1 1 1 (List.replicate cap 0) [] where
  mem := rfl
  len := by simp
  c1 := hc1
  c2 := hc2
  t1 := Nat.le_refl _
  ht := Nat.le_refl _
  hb := Nat.le_refl _
  hn := Int.le_refl _
  own := .idle _ (by decide) (Nat.le_refl _) (by omega)
  th := fun d hd => start_th d (by simpa using hd)
  srt := by rw [its_nil (Nat.le_refl _)]; exact List.Pairwise.nil
  rng := by rw [its_nil (Nat.le_refl _)]; simp
  vals := fun v hv => by rw [(List.mem_replicate.1 hv).2]; decide
  l0 := Int.le_refl _
  ll := by decide
end
end Go.Proofs.Ythjdjkcdlknhbaa
