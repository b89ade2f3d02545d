/- Layer bag: the set of a bag that has objects alone, none twice. No program in this text. -/
import Derived.Test.YtggfckednjojgaaBagN
import Derived.Test.YtggfckednjojgaaSetP
namespace Go.Proofs.Ytggfckednjojgaa

/-- all are objects, none twice -/
def onceB (b : List Int) : Bool := decide ((∀ o ∈ b, 1 ≤ o ∧ o ≤ 64) ∧ b.Nodup)
def onceV (b : List Int) : Nat := if onceB b then ofF b else 0
theorem objs_nodup (s : Nat) : (objs s).Nodup := (objs_rise s).imp fun h => by omega
theorem mem_ofs {b : List Int} {o : Int} : o ∈ objs (ofF b) ↔ (1 ≤ o ∧ o ≤ 64) ∧ o ∈ b := by
  rw [mem_objs, has_of, Bool.and_eq_true, decide_eq_true_eq, decide_eq_true_eq]
theorem perm_of_sub : ∀ {ks b : List Int}, ks.Nodup → (∀ o ∈ ks, o ∈ b) → ks.length = b.length → ks.Perm b
  | [], b, _, _, h => by rw [List.eq_nil_of_length_eq_zero h.symm]
  | k :: ks, b, hn, hm, hl => by
    obtain ⟨h1, h2⟩ := List.nodup_cons.1 hn
    have hk := hm k (by simp)
    have h := perm_of_sub (ks := ks) (b := b.erase k) h2 (fun o ho => (List.mem_erase_of_ne (show o ≠ k from fun e => h1 (by rw [← e]; exact ho))).2 (hm o (by simp [ho]))) (by rw [List.length_erase_of_mem hk, ← hl]; simp)
    exact (h.cons k).trans (List.perm_cons_erase hk).symm
theorem once_cnt (b : List Int) : onceB b = decide (cntF (ofF b) = b.length) := by
  unfold onceB cntF
  rw [decide_eq_decide]
  constructor
  · rintro ⟨h1, h2⟩
    refine (List.perm_ext_iff_of_nodup (objs_nodup _) h2).2 (fun o => ?_) |>.length_eq
    rw [mem_ofs]
    exact ⟨fun h => h.2, fun h => ⟨h1 o h, h⟩⟩
  · intro h
    have hp := perm_of_sub (objs_nodup (ofF b)) (fun o ho => (mem_ofs.1 ho).2) h
    exact ⟨fun o ho => (mem_ofs.1 (hp.mem_iff.2 ho)).1, hp.nodup_iff.1 (objs_nodup _)⟩
theorem once_lt (b : List Int) : onceV b < 18446744073709551616 := by
  unfold onceV; split
  · exact ofF_lt b
  · decide
/-- the order does not matter -/
theorem once_perm {a b : List Int} (h : a.Perm b) : onceB a = onceB b ∧ onceV a = onceV b := by
  have h1 : onceB a = onceB b := by
    unfold onceB
    rw [decide_eq_decide]
    exact ⟨fun ⟨p, q⟩ => ⟨fun o ho => p o (h.mem_iff.2 ho), h.nodup_iff.1 q⟩, fun ⟨p, q⟩ => ⟨fun o ho => p o (h.mem_iff.1 ho), h.nodup_iff.2 q⟩⟩
  refine ⟨h1, ?_⟩
  unfold onceV
  rw [h1]
  split
  · refine set_ext (ofF_lt _) (ofF_lt _) fun i hi => ?_
    rw [ofF_bit _ _ hi, ofF_bit _ _ hi, decide_eq_decide]
    exact h.mem_iff
  · rfl
theorem once_objs {s : Nat} (hs : s < 18446744073709551616) : onceB (objs s) = true ∧ onceV (objs s) = s := by
  have h1 : onceB (objs s) = true := decide_eq_true ⟨fun o ho => objs_rng ho, objs_nodup s⟩
  refine ⟨h1, ?_⟩
  unfold onceV
  rw [if_pos h1, of_objs hs]
/-- a set's list, and one more -/
theorem once_more {s : Nat} (_hs : s < 18446744073709551616) (o : Int) {b : List Int} (hb : ∀ x, b.count x = (objs s ++ [o]).count x) : onceB b = (decide (1 ≤ o ∧ o ≤ 64) && !hasF s o) := by
  have hp : b.Perm (objs s ++ [o]) := List.perm_iff_count.2 hb
  rw [(once_perm hp).1]
  unfold onceB
  rw [Bool.eq_iff_iff, decide_eq_true_eq, Bool.and_eq_true, decide_eq_true_eq, Bool.not_eq_true', List.nodup_append]
  constructor
  · rintro ⟨h1, -, -, h2⟩
    refine ⟨h1 o (by simp), ?_⟩
    rw [← Bool.not_eq_true, ← mem_objs]
    exact fun h => h2 o h o (by simp) rfl
  · rintro ⟨h1, h2⟩
    rw [← Bool.not_eq_true, ← mem_objs] at h2
    refine ⟨fun x hx => ?_, objs_nodup s, by simp, fun x hx y hy e => ?_⟩
    · rcases List.mem_append.1 hx with hx | hx
      · exact objs_rng hx
      · rw [List.mem_singleton.1 hx]; exact h1
    · rw [List.mem_singleton.1 hy] at e
      exact h2 (e ▸ hx)
end Go.Proofs.Ytggfckednjojgaa
