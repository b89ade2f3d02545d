import Derived.Below
import Derived.Test.YtdmbcjckgfjcaaaGreatDoorRaa
/- Layer bag: what the chapter asks, as plain functions on lists of numbers; a bag is known by how often it has each. -/
namespace Go.Proofs.YtdmbcjckgfjcaaaGreatDoor
/-- behind all that are no more -/
def insB (x : Int) : List Int → List Int
  | [] => [x]
  | y :: l => if y ≤ x then y :: insB x l else x :: y :: l
def normFrom : List Int → List Int → List Int
  | out, [] => out
  | out, x :: l => normFrom (insB x out) l
def normB (b : List Int) : List Int := normFrom [] b
def sumB (a b : List Int) : List Int := normB (a ++ b)
def Rises (l : List Int) : Prop := l.Pairwise (· ≤ ·)
theorem ins_count (x o : Int) : ∀ l : List Int, (insB x l).count o = l.count o + (if x = o then 1 else 0)
  | [] => by simp [insB, List.count_cons]
  | y :: l => by
    unfold insB
    split
    · rw [List.count_cons, List.count_cons, ins_count x o l]; omega
    · rw [List.count_cons]; simp
theorem ins_len (x : Int) : ∀ l : List Int, (insB x l).length = l.length + 1
  | [] => rfl
  | y :: l => by
    unfold insB
    split
    · simp [ins_len x l]
    · simp
theorem ins_mem {x z : Int} : ∀ {l : List Int}, z ∈ insB x l → z = x ∨ z ∈ l
  | [], h => by simp [insB] at h; exact .inl h
  | y :: l, h => by
    unfold insB at h
    split at h
    · rcases List.mem_cons.1 h with rfl | h
      · exact .inr (by simp)
      · rcases ins_mem h with h | h
        · exact .inl h
        · exact .inr (by simp [h])
    · rcases List.mem_cons.1 h with h | h
      · exact .inl h
      · exact .inr h
theorem ins_rises {x : Int} : ∀ {l : List Int}, Rises l → Rises (insB x l)
  | [], _ => by simp [insB, Rises]
  | y :: l, h => by
    obtain ⟨h1, h2⟩ := List.pairwise_cons.1 h
    unfold insB
    split
    · rename_i hy
      refine List.pairwise_cons.2 ⟨fun z hz => ?_, ins_rises h2⟩
      rcases ins_mem hz with rfl | hz
      · exact hy
      · exact h1 z hz
    · rename_i hy
      refine List.pairwise_cons.2 ⟨fun z hz => ?_, h⟩
      rcases List.mem_cons.1 hz with rfl | hz
      · omega
      · have := h1 z hz; omega
theorem from_count (o : Int) : ∀ (l out : List Int), (normFrom out l).count o = out.count o + l.count o
  | [], out => by simp [normFrom]
  | x :: l, out => by
    rw [normFrom, from_count o l, ins_count, List.count_cons]
    have : (x == o) = decide (x = o) := rfl
    by_cases h : x = o <;> simp [h] <;> omega
theorem from_len : ∀ (l out : List Int), (normFrom out l).length = out.length + l.length
  | [], out => by simp [normFrom]
  | x :: l, out => by rw [normFrom, from_len l, ins_len]; simp; omega
theorem from_rises : ∀ (l out : List Int), Rises out → Rises (normFrom out l)
  | [], _, h => h
  | x :: l, out, h => by rw [normFrom]; exact from_rises l _ (ins_rises h)
theorem norm_count (b : List Int) (o : Int) : (normB b).count o = b.count o := by unfold normB; rw [from_count]; simp
theorem norm_len (b : List Int) : (normB b).length = b.length := by unfold normB; rw [from_len]; simp
theorem norm_rises (b : List Int) : Rises (normB b) := from_rises b [] List.Pairwise.nil
/-- two that rise are one, if they have each as often -/
theorem rises_one : ∀ {a b : List Int}, Rises a → Rises b → (∀ o, a.count o = b.count o) → a = b
  | [], [], _, _, _ => rfl
  | [], y :: b, _, _, h => by have := h y; simp at this
  | x :: a, [], _, _, h => by have := h x; simp at this
  | x :: a, y :: b, ha, hb, h => by
    obtain ⟨a1, a2⟩ := List.pairwise_cons.1 ha
    obtain ⟨b1, b2⟩ := List.pairwise_cons.1 hb
    have hxy : x = y := by
      have hx : x ∈ y :: b := by rw [← List.count_pos_iff, ← h x]; simp
      have hy : y ∈ x :: a := by rw [← List.count_pos_iff, h y]; simp
      have h1 : y ≤ x := by
        rcases List.mem_cons.1 hx with e | e
        · omega
        · exact b1 x e
      have h2 : x ≤ y := by
        rcases List.mem_cons.1 hy with e | e
        · omega
        · exact a1 y e
      omega
    subst hxy
    rw [rises_one a2 b2 fun o => by have := h o; rw [List.count_cons, List.count_cons] at this; omega]
end Go.Proofs.YtdmbcjckgfjcaaaGreatDoor
/- Layer bag: keys that rise, each as often as it is counted: the norm. -/
namespace Go.Proofs.YtdmbcjckgfjcaaaGreatDoor
def spread (c : Int → Nat) : List Int → List Int
  | [] => []
  | k :: ks => List.replicate (c k) k ++ spread c ks
theorem spread_append (c : Int → Nat) : ∀ a b : List Int, spread c (a ++ b) = spread c a ++ spread c b
  | [], _ => rfl
  | x :: a, b => by simp [spread, spread_append c a b]
theorem spread_take (c : Int → Nat) (ks : List Int) (j : Nat) (h : j < ks.length) : spread c (ks.take (j + 1)) = spread c (ks.take j) ++ List.replicate (c ks[j]) ks[j] := by
  rw [List.take_succ_eq_append_getElem h, spread_append]; simp [spread]
theorem spread_le (c : Int → Nat) (ks : List Int) (j : Nat) : (spread c (ks.take j)).length ≤ (spread c ks).length := by
  have h := spread_append c (ks.take j) (ks.drop j)
  rw [List.take_append_drop] at h
  rw [h, List.length_append]; omega
theorem spread_mem {c : Int → Nat} {x : Int} : ∀ {ks : List Int}, x ∈ spread c ks → x ∈ ks
  | [], h => by simp [spread] at h
  | k :: ks, h => by
    simp only [spread, List.mem_append, List.mem_replicate] at h
    rcases h with ⟨_, rfl⟩ | h
    · simp
    · exact List.mem_cons_of_mem _ (spread_mem h)
theorem spread_rises {c : Int → Nat} : ∀ {ks : List Int}, Rises ks → Rises (spread c ks)
  | [], _ => List.Pairwise.nil
  | k :: ks, h => by
    obtain ⟨h1, h2⟩ := List.pairwise_cons.1 h
    refine List.pairwise_append.2 ⟨?_, spread_rises h2, fun x hx y hy => ?_⟩
    · exact List.pairwise_replicate.2 (.inr (Int.le_refl _))
    · rw [(List.mem_replicate.1 hx).2]
      exact h1 y (spread_mem hy)
theorem spread_count {c : Int → Nat} {o : Int} : ∀ {ks : List Int}, ks.Nodup → (spread c ks).count o = if o ∈ ks then c o else 0
  | [], _ => by simp [spread]
  | k :: ks, h => by
    obtain ⟨h1, h2⟩ := List.nodup_cons.1 h
    rw [spread, List.count_append, List.count_replicate, spread_count h2]
    by_cases e : k = o
    · subst e; simp [h1]
    · have e2 : (k == o) = false := by simp [e]
      have e3 : ¬ o = k := fun h => e h.symm
      simp [e2, e3]
theorem spread_norm {c : Int → Nat} {ks b : List Int} (hs : Rises ks) (hn : ks.Nodup) (hc : ∀ o, c o = b.count o) (hm : ∀ o, o ∈ b → o ∈ ks) : spread c ks = normB b := by
  refine rises_one (spread_rises hs) (norm_rises b) fun o => ?_
  rw [spread_count hn, norm_count]
  split
  · exact hc o
  · rename_i h
    symm
    exact List.count_eq_zero.2 fun h' => h (hm o h')
/-- what a sort of all keys makes -/
theorem sort_rises (ss : List Int) : Rises (ss.mergeSort fun x y => decide (x ≤ y)) := by
  have := List.pairwise_mergeSort (le := fun x y : Int => decide (x ≤ y)) (fun a b c h1 h2 => by simp only [decide_eq_true_eq] at *; omega) (fun a b => by simp only [Bool.or_eq_true, decide_eq_true_eq]; omega) ss
  exact this.imp fun h => by simpa using h
theorem sort_nodup {ss : List Int} (h : ss.Nodup) : (ss.mergeSort fun x y => decide (x ≤ y)).Nodup := (List.mergeSort_perm ss _).nodup_iff.2 h
theorem sort_mem {ss : List Int} {o : Int} : o ∈ (ss.mergeSort fun x y => decide (x ≤ y)) ↔ o ∈ ss := (List.mergeSort_perm ss _).mem_iff
end Go.Proofs.YtdmbcjckgfjcaaaGreatDoor
/- Layer bag: the set of a bag that has objects alone, none twice. No program in this text. -/
namespace Go.Proofs.YtdmbcjckgfjcaaaGreatDoor
/-- all are objects, none twice -/
def onceB (b : List Int) : Bool := decide ((∀ o ∈ b, 1 ≤ o ∧ o ≤ 64) ∧ b.Nodup)
def onceV (b : List Int) : Nat := if onceB b then ofF b else 0
theorem objs_nodup (s : Nat) : (objs s).Nodup := (objs_rise s).imp fun h => by omega
theorem mem_ofs {b : List Int} {o : Int} : o ∈ objs (ofF b) ↔ (1 ≤ o ∧ o ≤ 64) ∧ o ∈ b := by
  rw [mem_objs, has_of, Bool.and_eq_true, decide_eq_true_eq, decide_eq_true_eq]
theorem perm_of_sub : ∀ {ks b : List Int}, ks.Nodup → (∀ o ∈ ks, o ∈ b) → ks.length = b.length → ks.Perm b
  | [], b, _, _, h => by rw [List.eq_nil_of_length_eq_zero h.symm]
  | k :: ks, b, hn, hm, hl => by
    obtain ⟨h1, h2⟩ := List.nodup_cons.1 hn
    have hk := hm k (by simp)
    have h := perm_of_sub (ks := ks) (b := b.erase k) h2 (fun o ho => (List.mem_erase_of_ne (show o ≠ k from fun e => h1 (by rw [← e]; exact ho))).2 (hm o (by simp [ho]))) (by rw [List.length_erase_of_mem hk, ← hl]; simp)
    exact (h.cons k).trans (List.perm_cons_erase hk).symm
theorem once_cnt (b : List Int) : onceB b = decide (cntF (ofF b) = b.length) := by
  unfold onceB cntF
  rw [decide_eq_decide]
  constructor
  · rintro ⟨h1, h2⟩
    refine (List.perm_ext_iff_of_nodup (objs_nodup _) h2).2 (fun o => ?_) |>.length_eq
    rw [mem_ofs]
    exact ⟨fun h => h.2, fun h => ⟨h1 o h, h⟩⟩
  · intro h
    have hp := perm_of_sub (objs_nodup (ofF b)) (fun o ho => (mem_ofs.1 ho).2) h
    exact ⟨fun o ho => (mem_ofs.1 (hp.mem_iff.2 ho)).1, hp.nodup_iff.1 (objs_nodup _)⟩
/-- the order does not matter -/
theorem once_perm {a b : List Int} (h : a.Perm b) : onceB a = onceB b ∧ onceV a = onceV b := by
  have h1 : onceB a = onceB b := by
    unfold onceB
    rw [decide_eq_decide]
    exact ⟨fun ⟨p, q⟩ => ⟨fun o ho => p o (h.mem_iff.2 ho), h.nodup_iff.1 q⟩, fun ⟨p, q⟩ => ⟨fun o ho => p o (h.mem_iff.1 ho), h.nodup_iff.2 q⟩⟩
  refine ⟨h1, ?_⟩
  unfold onceV
  rw [h1]
  split
  · refine set_ext (ofF_lt _) (ofF_lt _) fun i hi => ?_
    rw [ofF_bit _ _ hi, ofF_bit _ _ hi, decide_eq_decide]
    exact h.mem_iff
  · rfl
theorem once_objs {s : Nat} (hs : s < 18446744073709551616) : onceB (objs s) = true ∧ onceV (objs s) = s := by
  have h1 : onceB (objs s) = true := decide_eq_true ⟨fun o ho => objs_rng ho, objs_nodup s⟩
  refine ⟨h1, ?_⟩
  unfold onceV
  rw [if_pos h1, of_objs hs]
end Go.Proofs.YtdmbcjckgfjcaaaGreatDoor
