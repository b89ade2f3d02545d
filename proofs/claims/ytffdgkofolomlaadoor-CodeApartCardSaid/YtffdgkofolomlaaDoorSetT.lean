/- Layer set: plain facts on the texts of sets, and what is parsed of them. No program in this text. -/
import Derived.Test.YtffdgkofolomlaaDoorSetQ
namespace Go.Proofs.YtffdgkofolomlaaDoor
open Go.Lib (index count splitK decDigits atoiAll)

/-! ### cut at a byte -/
def cut (c : UInt8) : List UInt8 → List (List UInt8)
  | [] => [[]]
  | b :: l => if b = c then [] :: cut c l else match cut c l with | [] => [[b]] | p :: r => (b :: p) :: r
theorem index_skip (b c : UInt8) (l : List UInt8) (h : b ≠ c) : index (b :: l) [c] = if index l [c] == -1 then -1 else index l [c] + 1 := by
  rw [index]
  have : ([c].isPrefixOf (b :: l)) = false := by simp [List.isPrefixOf, Ne.symm h]
  rw [this]; simp
theorem splitK_cut (c : UInt8) : ∀ l : List UInt8, splitK [c] 0 (count l [c]) l = cut c l
  | [] => rfl
  | b :: l => by
    have ih := splitK_cut c l
    by_cases hb : b = c
    · subst hb
      have hi : index (b :: l) [b] = 0 := by rw [index]; simp [List.isPrefixOf]
      rw [Go.Lib.count_cons_eq, Nat.add_comm, splitK, hi, if_neg (by decide), cut, if_pos rfl, ← ih]
      rfl
    · rw [Go.Lib.count_cons_ne b c l hb, cut, if_neg hb]
      cases hk : count l [c] with
      | zero =>
        rw [hk] at ih
        rw [← ih]; rfl
      | succ k =>
        rw [hk] at ih
        have hi : index l [c] ≠ -1 := fun e => by rw [Go.Lib.count_miss e] at hk; cases hk
        have hi' : (index l [c] == -1) = false := by rw [beq_eq_false_iff_ne]; exact hi
        have hge := Go.Lib.index_ge l [c]
        obtain ⟨i, hii⟩ : ∃ i : Nat, index l [c] = i := ⟨(index l [c]).toNat, by omega⟩
        have hi2 : index (b :: l) [c] = ((i + 1 : Nat) : Int) := by rw [index_skip b c l hb, hi', hii]; simp
        have n1 : (((i + 1 : Nat) : Int) == -1) = false := by rw [beq_eq_false_iff_ne]; omega
        have n2 : (((i : Nat) : Int) == -1) = false := by rw [beq_eq_false_iff_ne]; omega
        rw [← ih, splitK, splitK, hi2, hii, n1, n2]
        simp
theorem cut_ne (c : UInt8) (l : List UInt8) : cut c l ≠ [] := by
  cases l with
  | nil => simp [cut]
  | cons b l =>
    rw [cut]
    split
    · simp
    · split <;> simp
theorem cut_pre (c : UInt8) (p l : List UInt8) (h : c ∉ p) : cut c (p ++ c :: l) = p :: cut c l := by
  induction p with
  | nil => simp [cut]
  | cons b p ih =>
    have hb : b ≠ c := fun e => h (by simp [e])
    rw [List.cons_append, cut, if_neg hb, ih fun hm => h (List.mem_cons_of_mem _ hm)]
theorem cut_all (c : UInt8) (p : List UInt8) (h : c ∉ p) : cut c p = [p] := by
  induction p with
  | nil => rfl
  | cons b p ih =>
    have hb : b ≠ c := fun e => h (by simp [e])
    rw [cut, if_neg hb, ih fun hm => h (List.mem_cons_of_mem _ hm)]

/-! ### texts -/
/-- an object's digits -/
def dig (o : Int) : List UInt8 := if o < 10 then [UInt8.ofNat (48 + o.toNat)] else [UInt8.ofNat (48 + o.toNat / 10), UInt8.ofNat (48 + o.toNat % 10)]
def txStep (t : List UInt8) (o : Int) : List UInt8 := (if t = [] then [] else t ++ [44]) ++ dig o
def textL (l : List Int) : List UInt8 := l.foldl txStep []
def textF (s : Nat) : List UInt8 := if s = 0 then [45] else textL (objs s)
theorem dig_dec (n : Nat) (h : n < 100) : decDigits n = dig n := by
  unfold dig
  by_cases h10 : n < 10
  · rw [if_pos (by omega), Go.Lib.decDigits_one h10]; rfl
  · rw [if_neg (by omega), Go.Lib.decDigits_two h10 h]; rfl
theorem dig_ne (o : Int) : dig o ≠ [] := by unfold dig; split <;> simp
theorem dig_len (o : Int) : (dig o).length = if o < 10 then 1 else 2 := by unfold dig; split <;> rfl
theorem dig_facts : ∀ n : Fin 65, (44 : UInt8) ∉ dig (n.val : Int) ∧ (1 ≤ n.val → atoiAll (dig (n.val : Int)) = .ok (n.val : Int)) := by decide +kernel
theorem dig_44 {o : Int} (h : 1 ≤ o ∧ o ≤ 64) : (44 : UInt8) ∉ dig o := by
  have := (dig_facts ⟨o.toNat, by omega⟩).1
  rwa [show ((o.toNat : Nat) : Int) = o by omega] at this
theorem dig_atoi {o : Int} (h : 1 ≤ o ∧ o ≤ 64) : atoiAll (dig o) = .ok o := by
  have := (dig_facts ⟨o.toNat, by omega⟩).2 (by show 1 ≤ o.toNat; omega)
  rwa [show ((o.toNat : Nat) : Int) = o by omega] at this
theorem txStep_ne (t : List UInt8) (o : Int) : txStep t o ≠ [] := by unfold txStep; have := dig_ne o; simp [this]
theorem foldl_tx (l : List Int) : ∀ t : List UInt8, t ≠ [] → l.foldl txStep t = t ++ l.flatMap fun o => 44 :: dig o := by
  induction l with
  | nil => intro t _; simp
  | cons o l ih => intro t ht; rw [List.foldl_cons, ih _ (txStep_ne t o), txStep, if_neg ht]; simp
theorem textL_cons (o : Int) (l : List Int) : textL (o :: l) = dig o ++ l.flatMap fun o => 44 :: dig o := by
  unfold textL
  rw [List.foldl_cons, foldl_tx _ _ (txStep_ne _ _)]; simp [txStep]
theorem textL_snoc (l : List Int) (o : Int) : textL (l ++ [o]) = txStep (textL l) o := by unfold textL; rw [List.foldl_append]; rfl
theorem textL_nil (l : List Int) : textL l = [] ↔ l = [] := by
  cases l with
  | nil => simp [textL]
  | cons o l => have := dig_ne o; rw [textL_cons]; simp [this]
theorem cut_text : ∀ (l : List Int) (o : Int), (∀ x ∈ o :: l, 1 ≤ x ∧ x ≤ 64) → cut 44 (dig o ++ l.flatMap fun o => 44 :: dig o) = (o :: l).map dig
  | [], o, h => by simpa using cut_all 44 (dig o) (dig_44 (h o (List.mem_cons_self ..)))
  | x :: l, o, h => by
    rw [List.flatMap_cons, List.cons_append, cut_pre _ _ _ (dig_44 (h o (List.mem_cons_self ..))), cut_text l x fun y hy => h y (List.mem_cons_of_mem _ hy)]; rfl
/-- what strconv.Atoi gives of a part; 0 for what is no number -/
def atoi0 (p : List UInt8) : Int := match atoiAll p with | .ok v => v | _ => 0
def numsF (t : List UInt8) : List Int := (cut 44 t).map atoi0
def parseF (t : List UInt8) : Nat × Int := if 182 < t.length then (0, 2) else if textF (ofF (numsF t)) = t then (ofF (numsF t), 0) else (0, 2)
theorem objs_ne {s : Nat} (h : s ≠ 0) (hs : s < 18446744073709551616) : objs s ≠ [] := by rw [objs_step h hs]; simp
theorem nums_text {s : Nat} (hs : s < 18446744073709551616) : ofF (numsF (textF s)) = s := by
  unfold textF
  split
  · rename_i h; subst h; decide +kernel
  · rename_i h
    have hr : ∀ x ∈ objs s, 1 ≤ x ∧ x ≤ 64 := fun x hx => objs_rng hx
    have he := of_objs hs
    cases ho : objs s with
    | nil => exact absurd ho (objs_ne h hs)
    | cons o l =>
      rw [ho] at hr he
      rw [textL_cons, numsF, cut_text l o hr, List.map_map]
      have : (o :: l).map (atoi0 ∘ dig) = o :: l := by
        have : ∀ x ∈ o :: l, (atoi0 ∘ dig) x = x := fun x hx => by show atoi0 (dig x) = x; unfold atoi0; rw [dig_atoi (hr x hx)]
        rw [List.map_congr_left this, List.map_id']
      rw [this, he]
/-- lengths -/
theorem tx_len : ∀ (l : List Int), (l.flatMap fun o => 44 :: dig o).length = (l.map fun o => (if o < 10 then 2 else 3)).sum
  | [] => rfl
  | o :: l => by
    rw [List.flatMap_cons, List.length_append, tx_len l, List.map_cons, List.sum_cons, List.length_cons, dig_len]
    split <;> omega
theorem sum_filter (f : Nat → Nat) (p : Nat → Bool) : ∀ l : List Nat, ((l.filter p).map f).sum ≤ (l.map f).sum
  | [] => by simp
  | a :: l => by
    have := sum_filter f p l
    rw [List.filter_cons]
    split
    · simp only [List.map_cons, List.sum_cons]; omega
    · simp only [List.map_cons, List.sum_cons]; omega
theorem text_len (s : Nat) : (textF s).length ≤ 182 := by
  unfold textF
  split
  · decide
  · cases ho : objs s with
    | nil => decide
    | cons o l =>
      have h1 := tx_len (objs s)
      have h2 : ((objs s).map fun o => (if o < 10 then 2 else 3)).sum ≤ 183 := by
        unfold objs
        rw [List.map_map]
        refine Nat.le_trans (sum_filter _ _ _) ?_
        decide +kernel
      rw [ho, List.flatMap_cons, List.length_append, List.length_cons] at h1
      rw [ho] at h2
      rw [textL_cons, List.length_append]
      omega
theorem full_text : (textF (firstF 64)).length = 182 := by decide +kernel
theorem text_ne (s : Nat) (hs : s < 18446744073709551616) : textF s ≠ [] := by
  unfold textF
  split
  · simp
  · rename_i h; rw [Ne, textL_nil]; exact objs_ne h hs
theorem parse_text {s : Nat} (hs : s < 18446744073709551616) : parseF (textF s) = (s, 0) := by
  unfold parseF
  rw [if_neg (by have := text_len s; omega), nums_text hs, if_pos rfl]
theorem parse_lt (t : List UInt8) : (parseF t).1 < 18446744073709551616 := by
  unfold parseF
  split
  · decide
  · split
    · exact ofF_lt _
    · decide
theorem parse_cases (t : List UInt8) : ((parseF t).2 = 0 ∧ textF (parseF t).1 = t) ∨ ((parseF t).2 = 2 ∧ (parseF t).1 = 0) := by
  unfold parseF
  split
  · exact .inr ⟨rfl, rfl⟩
  · split
    · exact .inl ⟨rfl, by assumption⟩
    · exact .inr ⟨rfl, rfl⟩

/-! ### the document's own answer -/
def rAcc : List UInt8 → Nat → Int → Nat
  | [], s, n => addF s n
  | c :: r, s, n => if (48 ≤ c.toNat ∧ c.toNat ≤ 57) ∧ n ≤ 64 then rAcc r s (n * 10 + ((c.toNat : Int) - 48)) else rAcc r (addF s n) 0
def rParseF (t : List UInt8) : Nat × Int := if textF (rAcc t 0 0) = t then (rAcc t 0 0, 0) else (0, 2)
theorem rAcc_lt : ∀ (t : List UInt8) (s : Nat) (n : Int), s < 18446744073709551616 → rAcc t s n < 18446744073709551616
  | [], s, n, h => add_lt h n
  | c :: r, s, n, h => by
    rw [rAcc]
    split
    · exact rAcc_lt r _ _ h
    · exact rAcc_lt r _ _ (add_lt h n)
theorem dig_cases : ∀ n : Fin 65, 1 ≤ n.val → (∃ a, dig (n.val : Int) = [a] ∧ (48 ≤ a.toNat ∧ a.toNat ≤ 57) ∧ (a.toNat : Int) - 48 = n.val) ∨
    (∃ a b, dig (n.val : Int) = [a, b] ∧ (48 ≤ a.toNat ∧ a.toNat ≤ 57) ∧ (48 ≤ b.toNat ∧ b.toNat ≤ 57) ∧ ((a.toNat : Int) - 48) * 10 + ((b.toNat : Int) - 48) = n.val ∧ (a.toNat : Int) - 48 ≤ 64) := fun n h => by
  have e : ∀ k : Nat, k < 10 → (UInt8.ofNat (48 + k)).toNat = 48 + k := fun k hk => by rw [UInt8.toNat_ofNat']; omega
  unfold dig
  by_cases h10 : n.val < 10
  · rw [if_pos (by omega)]
    exact .inl ⟨_, rfl, by rw [e _ (by omega)]; omega, by rw [e _ (by omega)]; omega⟩
  · rw [if_neg (by omega)]
    refine .inr ⟨_, _, rfl, ?_, ?_, ?_, ?_⟩ <;> (first | rw [e _ (by omega), e _ (by omega)] | rw [e _ (by omega)]) <;> omega
theorem rAcc_dig {o : Int} (h : 1 ≤ o ∧ o ≤ 64) (r : List UInt8) (s : Nat) : rAcc (dig o ++ r) s 0 = rAcc r s o := by
  have hc := dig_cases ⟨o.toNat, by omega⟩ (by show 1 ≤ o.toNat; omega)
  dsimp only at hc
  rw [show ((o.toNat : Nat) : Int) = o by omega] at hc
  rcases hc with ⟨a, e, ha, hv⟩ | ⟨a, b, e, ha, hb, hv, h64⟩
  · rw [e, List.singleton_append, rAcc, if_pos ⟨ha, by decide⟩]; congr 1; omega
  · rw [e, List.cons_append, List.singleton_append, rAcc, if_pos ⟨ha, by decide⟩, rAcc, if_pos ⟨hb, by omega⟩]; congr 1; omega
theorem rAcc_list : ∀ (l : List Int) (s : Nat) (o : Int), (∀ x ∈ l, 1 ≤ x ∧ x ≤ 64) → rAcc (l.flatMap fun o => 44 :: dig o) s o = (o :: l).foldl addF s
  | [], s, o, _ => rfl
  | x :: l, s, o, h => by
    rw [List.flatMap_cons, List.cons_append, rAcc, if_neg (by rintro ⟨⟨h1, _⟩, _⟩; revert h1; decide), rAcc_dig (h x (List.mem_cons_self ..)), rAcc_list l _ _ fun y hy => h y (List.mem_cons_of_mem _ hy)]
    rfl
theorem rAcc_text {s : Nat} (hs : s < 18446744073709551616) : rAcc (textF s) 0 0 = s := by
  unfold textF
  split
  · rename_i h; subst h; decide +kernel
  · rename_i h
    have hr : ∀ x ∈ objs s, 1 ≤ x ∧ x ≤ 64 := fun x hx => objs_rng hx
    have he := of_objs hs
    cases ho : objs s with
    | nil => exact absurd ho (objs_ne h hs)
    | cons o l =>
      rw [ho] at hr he
      rw [textL_cons, rAcc_dig (hr o (List.mem_cons_self ..)), rAcc_list _ _ _ fun y hy => hr y (List.mem_cons_of_mem _ hy)]
      exact he
theorem parse_same (t : List UInt8) : parseF t = rParseF t := by
  by_cases h : ∃ s, s < 18446744073709551616 ∧ textF s = t
  · obtain ⟨s, hs, rfl⟩ := h
    rw [parse_text hs, rParseF, rAcc_text hs, if_pos rfl]
  · have hn : ∀ s, s < 18446744073709551616 → textF s ≠ t := fun s hs e => h ⟨s, hs, e⟩
    unfold parseF rParseF
    rw [if_neg (hn _ (ofF_lt _)), if_neg (hn _ (rAcc_lt _ _ _ (by decide)))]
    split <;> rfl
end Go.Proofs.YtffdgkofolomlaaDoor
