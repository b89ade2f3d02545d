/- Layer reach: plain facts for the statements: what is reached from what is reached; by way of some; a slot cleared. -/
import Derived.Test.YtohfpcnekfpdkaaDoorReachP
namespace Go.Proofs.YtohfpcnekfpdkaaDoor

theorem from_has {ls : Rws} {r : Nat} (hr : r < 18446744073709551616) {x : Int} : hasF (fromF ls r) x = true ↔ Rch ls allN r x := has_rch hr
theorem via_has {ls : Rws} {r o : Nat} (hr : r < 18446744073709551616) {x : Int} : hasF (viaF ls r o) x = true ↔ Rch ls (r ||| o) r x := has_rch hr
theorem from_lt (ls : Rws) {r : Nat} (hr : r < 18446744073709551616) : fromF ls r < 18446744073709551616 := lev_lt ls allN hr 64
theorem via_lt (ls : Rws) (o : Nat) {r : Nat} (hr : r < 18446744073709551616) : viaF ls r o < 18446744073709551616 := lev_lt ls (r ||| o) hr 64
theorem Rch.mono {ls : Rws} {p q r s : Nat} (hp : ∀ y, hasF p y = true → hasF q y = true) (hr : ∀ y, hasF r y = true → Go.Proofs.YtohfpcnekfpdkaaDoor.inO ls y → Rch ls q s y) {x : Int} (h : Rch ls p r x) : Rch ls q s x := by
  induction h with
  | root h hx => exact hr _ h hx
  | step _ ho hm hx ih => exact .step ih (hp _ ho) hm hx
theorem from_idem (ls : Rws) {a : Nat} (ha : a < 18446744073709551616) : fromF ls (fromF ls a) = fromF ls a := by
  refine has_ext (from_lt ls (from_lt ls ha)) (from_lt ls ha) fun x => ?_
  rw [from_has (from_lt ls ha), from_has ha]
  constructor
  · exact fun h => h.mono (fun _ h => h) fun y hy _ => (from_has ha).1 hy
  · exact fun h => .root ((from_has ha).2 h) h.inO
theorem from_or (ls : Rws) {a b : Nat} (ha : a < 18446744073709551616) (hb : b < 18446744073709551616) : fromF ls (a ||| b) = fromF ls a ||| fromF ls b := by
  refine has_ext (from_lt ls (lor_lt ha hb)) (lor_lt (from_lt ls ha) (from_lt ls hb)) fun x => ?_
  rw [has_or, Bool.or_eq_true, from_has (lor_lt ha hb), from_has ha, from_has hb]
  constructor
  · intro h
    induction h with
    | root h hx =>
      rw [has_or, Bool.or_eq_true] at h
      rcases h with h | h
      · exact .inl (.root h hx)
      · exact .inr (.root h hx)
    | step _ ho hm hx ih =>
      rcases ih with h | h
      · exact .inl (.step h ho hm hx)
      · exact .inr (.step h ho hm hx)
  · rintro (h | h)
    · exact h.mono (fun _ h => h) fun y hy hx => .root (by rw [has_or, hy]; rfl) hx
    · exact h.mono (fun _ h => h) fun y hy hx => .root (by rw [has_or, hy, Bool.or_true]) hx
theorem under_has {a b : Nat} (ha : a < 18446744073709551616) (hb : b < 18446744073709551616) : underF a b = true ↔ ∀ x, hasF a x = true → hasF b x = true := by
  rw [under_iff ha hb]
  constructor
  · intro h x hx
    have hr := has_rng hx
    obtain ⟨i, rfl⟩ : ∃ i : Nat, x = (i : Int) + 1 := ⟨(x - 1).toNat, by omega⟩
    rw [has_bit _ _ (by omega)] at hx ⊢
    exact h i (by omega) hx
  · intro h i hi hx
    rw [← has_bit _ _ hi] at hx ⊢
    exact h _ hx
theorem under_left {a b : Nat} (ha : a < 18446744073709551616) (hb : b < 18446744073709551616) : underF a (a ||| b) = true :=
  (under_has ha (lor_lt ha hb)).2 fun x hx => by rw [has_or, hx]; rfl
theorem or_all {r : Nat} (hr : r < 18446744073709551616) : r ||| allN = allN :=
  has_ext (lor_lt hr (by decide)) (by decide) fun x => by
    rw [has_or, Bool.or_eq_true]
    exact ⟨fun h => by rcases h with h | h; exact has_all x (has_rng h); exact h, .inr⟩
theorem via_all (ls : Rws) {r : Nat} (hr : r < 18446744073709551616) : viaF ls r allN = fromF ls r := by unfold viaF fromF; rw [or_all hr]
theorem via_more (ls : Rws) {r a b : Nat} (hr : r < 18446744073709551616) : underF (viaF ls r a) (viaF ls r (a ||| b)) = true := by
  refine (under_has (via_lt ls _ hr) (via_lt ls _ hr)).2 fun x hx => (via_has hr).2 (((via_has hr).1 hx).mono (fun y hy => ?_) fun y hy hi => .root hy hi)
  rw [has_or, Bool.or_eq_true] at hy ⊢
  rcases hy with h | h
  · exact .inl h
  · exact .inr (by rw [has_or, h]; rfl)
theorem via_from (ls : Rws) {r a : Nat} (hr : r < 18446744073709551616) : underF (viaF ls r a) (fromF ls r) = true :=
  (under_has (via_lt ls _ hr) (from_lt ls hr)).2 fun _ hx => (from_has hr).2 (((via_has hr).1 hx).mono (fun y hy => has_all y (has_rng hy)) fun _ hy hi => .root hy hi)
theorem via_some (ls : Rws) {r a : Nat} (hr : r < 18446744073709551616) : viaF ls r (viaF ls r a &&& a) = viaF ls r a := by
  refine has_ext (via_lt ls _ hr) (via_lt ls _ hr) fun x => ?_
  rw [via_has hr, via_has hr]
  constructor
  · refine fun h => h.mono (fun y hy => ?_) fun y hy hi => .root hy hi
    rw [has_or, Bool.or_eq_true] at hy ⊢
    rcases hy with h | h
    · exact .inl h
    · rw [has_and, Bool.and_eq_true] at h; exact .inr h.2
  · intro h
    induction h with
    | root h hx => exact .root h hx
    | @step x y hy ho hm hx ih =>
      refine .step ih ?_ hm hx
      rw [has_or, Bool.or_eq_true] at ho ⊢
      rcases ho with h | h
      · exact .inl h
      · exact .inr (by rw [has_and, h, (via_has hr).2 hy]; rfl)
theorem via_or (ls : Rws) (s c : Nat) : viaF ls s (c ||| s) = viaF ls s c := by
  unfold viaF
  rw [Nat.or_comm c s, ← Nat.or_assoc, Nat.or_self]

/-! ## a slot cleared -/
theorem cut_row {ls : Rws} {o s : Int} (h : hasS ls o s = true) (p : Int) (hp : 1 ≤ p) : rowF (setF ls o s 0) p = if p = o then (rowF ls o).set s.toNat 0 else rowF ls p := by
  rw [set_row h p]
  have := hasS_iff.1 h
  by_cases e : p = o
  · rw [if_pos (.inl e), if_pos e]
  · rw [if_neg (by omega), if_neg e]
theorem cut_mem {ls : Rws} {o s p x : Int} (h : hasS ls o s = true) (hp : 1 ≤ p) (hx : 1 ≤ x) (hm : x ∈ rowF (setF ls o s 0) p) : x ∈ rowF ls p := by
  rw [cut_row h p hp] at hm
  split at hm
  · rename_i e; subst e
    rcases List.mem_or_eq_of_mem_set hm with h1 | h1
    · exact h1
    · omega
  · exact hm
theorem cut_in {ls : Rws} {o s x : Int} : inO (setF ls o s 0) x ↔ inO ls x := by
  unfold inO; rw [setF_len]
theorem cut_less {ls : Rws} {o s : Int} (h : hasS ls o s = true) {r : Nat} {x : Int} (hx : Rch (setF ls o s 0) allN r x) : Rch ls allN r x := by
  induction hx with
  | root h1 h2 => exact .root h1 (cut_in.1 h2)
  | @step x y hy ho hm hx ih => exact .step ih ho (cut_mem h hy.inO.1 hx.1 hm) (cut_in.1 hx)
/-- whom the cleared slot does not lead from: as before -/
theorem cut_off {ls : Rws} {o s : Int} (h : hasS ls o s = true) {r : Nat} (hno : ¬ Rch ls allN r o) {x : Int} (hx : Rch ls allN r x) : Rch (setF ls o s 0) allN r x := by
  induction hx with
  | root h1 h2 => exact .root h1 (cut_in.2 h2)
  | @step x y hy ho hm hx ih =>
    refine .step ih ho ?_ (cut_in.2 hx)
    rw [cut_row h y hy.inO.1, if_neg (fun e : y = o => hno (e ▸ hy))]; exact hm
/-- what the slot had is reached otherwise: as before -/
theorem cut_else {ls : Rws} {o s : Int} (h : hasS ls o s = true) {r : Nat} (hv : Rch (setF ls o s 0) allN r (getF ls o s)) {x : Int} (hx : Rch ls allN r x) : Rch (setF ls o s 0) allN r x := by
  induction hx with
  | root h1 h2 => exact .root h1 (cut_in.2 h2)
  | @step x y hy ho hm hx ih =>
    by_cases e : x = getF ls o s
    · rw [e]; exact hv
    · refine .step ih ho ?_ (cut_in.2 hx)
      rw [cut_row h y hy.inO.1]
      split
      · rename_i e2; subst e2
        obtain ⟨i, hi⟩ := List.getElem?_of_mem hm
        have hne : i ≠ s.toNat := fun e3 => e (by
          unfold getF
          rw [if_pos h, List.getD_eq_getElem?_getD, ← e3, hi]; rfl)
        exact List.mem_of_getElem? (by rw [List.getElem?_set_ne (fun e => hne e.symm)]; exact hi)
      · exact hm
theorem get_slot {ls : Rws} {o s : Int} (h : hasS ls o s = true) : getF ls o s ∈ rowF ls o := by
  have := hasS_iff.1 h
  unfold getF
  rw [if_pos h, List.getD_eq_getElem?_getD, List.getElem?_eq_getElem (by omega)]
  exact List.getElem_mem _
end Go.Proofs.YtohfpcnekfpdkaaDoor
