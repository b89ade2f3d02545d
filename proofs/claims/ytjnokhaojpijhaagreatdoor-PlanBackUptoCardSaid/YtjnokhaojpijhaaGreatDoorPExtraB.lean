/- Lemmas that the texts of later laws want, too. -/
import Derived.Lib.TrailingZeros
import Derived.Lib.ItoaNum
import Derived.Lib.AtoiAllCases
import Derived.Lib.SplitLaws
import Derived.Test.YtjnokhaojpijhaaGreatDoorPaa
import Derived.Test.YtjnokhaojpijhaaGreatDoorPan
import Derived.Test.YtjnokhaojpijhaaGreatDoorPac
import Derived.Test.YtjnokhaojpijhaaGreatDoorPao
import Derived.Deep.Slices
import Derived.Deep.Fields
import Derived.Deep.CondSized
import Derived.JoinedCond
import Derived.SizedLaws
import Derived.Test.YtjnokhaojpijhaaGreatDoorPae
import Derived.Test.YtjnokhaojpijhaaGreatDoorPbl
import Derived.Test.YtjnokhaojpijhaaGreatDoorPbc
import Derived.Shelf.Vars
import Derived.Lib.SmallJoins
import Derived.Test.YtjnokhaojpijhaaGreatDoorPbk
namespace Go.Proofs.YtjnokhaojpijhaaGreatDoor

theorem of_objs {s : Nat} (hs : s < 18446744073709551616) : ofF (objs s) = s :=
  set_ext (ofF_lt _) hs fun i hi => by
    rw [ofF_bit _ _ hi, ← has_bit s i hi, Bool.eq_iff_iff, decide_eq_true_eq, mem_objs]
end Go.Proofs.YtjnokhaojpijhaaGreatDoor
namespace Go.Proofs.YtjnokhaojpijhaaGreatDoor
open Go.Lib (index count splitK decDigits atoiAll)

/-! ### cut at a byte -/
/-! ### texts -/
theorem dig_facts : ∀ n : Fin 65, (44 : UInt8) ∉ dig (n.val : Int) ∧ (1 ≤ n.val → atoiAll (dig (n.val : Int)) = .ok (n.val : Int)) := by decide +kernel
theorem dig_44 {o : Int} (h : 1 ≤ o ∧ o ≤ 64) : (44 : UInt8) ∉ dig o := by
  have := (dig_facts ⟨o.toNat, by omega⟩).1
  rwa [show ((o.toNat : Nat) : Int) = o by omega] at this
theorem dig_atoi {o : Int} (h : 1 ≤ o ∧ o ≤ 64) : atoiAll (dig o) = .ok o := by
  have := (dig_facts ⟨o.toNat, by omega⟩).2 (by show 1 ≤ o.toNat; omega)
  rwa [show ((o.toNat : Nat) : Int) = o by omega] at this
theorem cut_text : ∀ (l : List Int) (o : Int), (∀ x ∈ o :: l, 1 ≤ x ∧ x ≤ 64) → cut 44 (dig o ++ l.flatMap fun o => 44 :: dig o) = (o :: l).map dig
  | [], o, h => by simpa using cut_all 44 (dig o) (dig_44 (h o (List.mem_cons_self ..)))
  | x :: l, o, h => by
    rw [List.flatMap_cons, List.cons_append, cut_pre _ _ _ (dig_44 (h o (List.mem_cons_self ..))), cut_text l x fun y hy => h y (List.mem_cons_of_mem _ hy)]; rfl
theorem objs_ne {s : Nat} (h : s ≠ 0) (hs : s < 18446744073709551616) : objs s ≠ [] := by rw [objs_step h hs]; simp
theorem nums_text {s : Nat} (hs : s < 18446744073709551616) : ofF (numsF (textF s)) = s := by
  unfold textF
  split
  · rename_i h; subst h; decide +kernel
  · rename_i h
    have hr : ∀ x ∈ objs s, 1 ≤ x ∧ x ≤ 64 := fun x hx => objs_rng hx
    have he := of_objs hs
    cases ho : objs s with
    | nil => exact absurd ho (objs_ne h hs)
    | cons o l =>
      rw [ho] at hr he
      rw [textL_cons, numsF, cut_text l o hr, List.map_map]
      have : (o :: l).map (atoi0 ∘ dig) = o :: l := by
        have : ∀ x ∈ o :: l, (atoi0 ∘ dig) x = x := fun x hx => by show atoi0 (dig x) = x; unfold atoi0; rw [dig_atoi (hr x hx)]
        rw [List.map_congr_left this, List.map_id']
      rw [this, he]
theorem parse_textSt {s : Nat} (hs : s < 18446744073709551616) : parseFSt (textF s) = (s, 0) := by
  unfold parseFSt
  rw [if_neg (by have := text_lenSt s; omega), nums_text hs, if_pos rfl]
/-! ### the document's own answer -/
end Go.Proofs.YtjnokhaojpijhaaGreatDoor
namespace Go.Proofs.YtjnokhaojpijhaaGreatDoor

theorem cut_joinS : ∀ (l : List (List UInt8)), l ≠ [] → (∀ p ∈ l, 59 ∉ p) → cut 59 (joinS l) = l
  | [], h, _ => absurd rfl h
  | [p], _, h => by rw [joinS, cut_all _ _ (h p (by simp))]
  | p :: q :: l, _, h => by
    rw [joinS, cut_pre _ _ _ (h p (by simp)), cut_joinS (q :: l) (by simp) fun x hx => h x (by simp [hx])]
theorem cOps_text : ∀ (l : List Oq), (∀ o ∈ l, cRight o 4 4 = true) → cOps (l.map cText) = some l
  | [], _ => rfl
  | o :: l, h => by
    rw [List.map_cons, cOps, one_text (h o (by simp)), cOps_text l fun x hx => h x (by simp [hx])]
theorem cPrint_ne {l : List Oq} (h : l ≠ []) (hr : ∀ o ∈ l, cRight o 4 4 = true) : cPrint l ≠ [45] := by
  unfold cPrint
  rw [if_neg h]
  cases l with
  | nil => exact absurd rfl h
  | cons o l =>
    have ho := all_text _ (mem_all.2 (hr o (by simp)))
    cases l with
    | nil => simpa [joinS] using ho.2.2.1
    | cons p l =>
      rw [List.map_cons, List.map_cons, joinS]
      intro e
      have e2 := congrArg List.length e
      have hp : 0 < (cText o).length := List.length_pos_iff.2 ho.2.1
      simp at e2
      omega
/-- what is printed of right ops is parsed as them, if they are not too many -/
theorem parse_printCd {l : List Oq} (hr : ∀ o ∈ l, cRight o 4 4 = true) : cParse (cPrint l) = if 64 < l.length then ([], 3) else (l, 0) := by
  by_cases h : l = []
  · subst h; rfl
  · have hc : cOps (cut 59 (cPrint l)) = some l := by
      unfold cPrint
      rw [if_neg h, cut_joinS _ (by simpa using h) (fun p hp => by obtain ⟨o, ho, rfl⟩ := List.mem_map.1 hp; exact (all_text _ (mem_all.2 (hr o ho))).1), cOps_text l hr]
    unfold cParse
    rw [if_neg (cPrint_ne h hr), hc]
end Go.Proofs.YtjnokhaojpijhaaGreatDoor
namespace Go.Proofs.YtjnokhaojpijhaaGreatDoor

/-! ### what is read is the text -/
/-! ### the text is read -/
theorem dg_digits : ∀ n : Fin 65, (dg n.val).all isD = true ∧ dg n.val ≠ [] ∧ Go.Lib.atoiAll (dg n.val) = .ok (n.val : Int) := by decide +kernel
theorem numF_dec {v : Int} (h0 : 0 ≤ v) (h1 : v ≤ 64) {l : B8} (hl : noD l) : numF (dec v ++ l) = some (v, l) := by
  obtain ⟨k, rfl⟩ : ∃ k : Nat, v = k := ⟨v.toNat, by omega⟩
  obtain ⟨a, b, c⟩ := dg_digits ⟨k, by omega⟩
  have e : dec (k : Int) = dg k := by unfold dec; rw [Int.toNat_natCast]; exact dec_dg (by omega)
  have ht : (dg k ++ l).takeWhile isD = dg k := take_allHp _ _ a hl
  unfold numF hFirstF
  rw [e, ht, if_neg b]
  simp only [] at c
  rw [c]
  simp only
  rw [if_pos e]
  simp only
  rw [e, List.drop_left]
theorem passF_cons {c : UInt8} (hc : isD c = false) (l : B8) : passF c (c :: l) = some l := by
  unfold passF hFirstF
  rw [List.takeWhile_cons, hc]
  simp
theorem ahead_noD (s : Nat) : isD (aheadF s) = false := by unfold aheadF; split <;> decide
theorem slotsT_noD (s : Nat) (r : List Int) {l : B8} (hl : noD l) : noD (slotsT s r ++ l) := by
  cases r with
  | nil => exact hl
  | cons v r =>
    intro b q h
    simp only [slotsT, List.cons_append, List.cons.injEq] at h
    rw [← h.1]; exact ahead_noD s
theorem slotsF_text : ∀ (r : List Int) (s : Nat) {l : B8}, noD l → (∀ v ∈ r, 0 ≤ v ∧ v ≤ 64) → slotsF r.length s (slotsT s r ++ l) = some (r, l)
  | [], s, l, _, _ => rfl
  | v :: r, s, l, hl, hr => by
    have hv := hr v (List.mem_cons_self ..)
    rw [List.length_cons]
    unfold slotsF slotsT
    rw [List.append_assoc, List.cons_append, passF_cons (ahead_noD s)]
    simp only
    rw [numF_dec hv.1 hv.2 (slotsT_noD (s + 1) r hl)]
    simp only
    rw [slotsF_text r (s + 1) hl (fun v h => hr v (List.mem_cons_of_mem _ h))]
    rfl
theorem noD_nil : noD [] := by intro b r h; cases h
theorem objs_noD : ∀ ls : Rws, noD (ls.flatMap (slotsT 0))
  | [] => noD_nil
  | r :: ls => by rw [List.flatMap_cons]; exact slotsT_noD 0 r (objs_noD ls)
theorem objsF_text (n : Nat) (hn : 0 < n) : ∀ (ls : Rws) (f : Nat), ls.length < f → (∀ r ∈ ls, r.length = n ∧ ∀ v ∈ r, 0 ≤ v ∧ v ≤ (64 : Int)) → objsF n f (ls.flatMap (slotsT 0)) = some (ls, [])
  | [], f, hf, _ => by
    cases f with
    | zero => omega
    | succ f => rfl
  | r :: ls, f, hf, h => by
    cases f with
    | zero => simp at hf
    | succ f =>
      have hr := h r (List.mem_cons_self ..)
      unfold objsF
      rw [List.flatMap_cons]
      have hne : ¬ (slotsT 0 r ++ ls.flatMap (slotsT 0) = []) := by
        cases r with
        | nil => simp at hr; omega
        | cons v r => simp [slotsT]
      have hs := slotsF_text r 0 (objs_noD ls) hr.2
      rw [hr.1] at hs
      rw [if_neg hne, hs]
      simp only
      rw [objsF_text n hn ls f (by simpa using hf) (fun r h' => h r (List.mem_cons_of_mem _ h'))]
      rfl
/-- (A) -/
theorem heapF_of {n : Int} {ls : Rws} (h : rightF n ls = true) : heapF (hTextF n ls) = some (n, ls) := by
  have hl := right_len h
  have hr := right_rows h
  unfold heapF hTextF
  rw [if_pos h, numF_dec (by omega) (by omega) (objs_noD ls)]
  simp only
  rw [if_pos (right_of (by simp; omega) (by simp))]
  rw [objsF_text n.toNat (by omega) ls 65 (by omega) (fun r hr' => ⟨by have := (hr r hr').1; omega, fun v hv => by have := (hr r hr').2 v hv; omega⟩)]
  simp only
  rw [if_pos h]
end Go.Proofs.YtjnokhaojpijhaaGreatDoor
namespace Go.Proofs.YtjnokhaojpijhaaGreatDoor
open Go.RowKit

theorem bget (s : ByteArray) (i : Nat) (b : UInt8) (h : s.data.toList[i]? = some b) : s.get! i = b := by
  have h' : s.data[i]? = some b := by simpa using h
  show s.data[i]! = b
  rw [getElem!_def, h']
theorem bsize (s : ByteArray) : s.data.toList.length = s.size := by rw [Array.length_toList]; rfl
theorem drop_get {α : Type} {l r : List α} {n : Nat} (h : l.drop n = r) (k : Nat) : l[n + k]? = r[k]? := by rw [← h, List.getElem?_drop]
theorem decode_1 (s : ByteArray) (pos : Nat) (b : UInt8) (r : List UInt8) (h : s.data.toList.drop pos = b :: r) (hb : b.toNat < 128) : Utf8.decode s pos = (b.toNat, 1) := by
  have g := bget s (pos + 0) b (by rw [drop_get h]; rfl)
  simp only [Utf8.decode, g, hb, if_true]
theorem decode_2 (s : ByteArray) (pos : Nat) (b c : UInt8) (r : List UInt8) (h : s.data.toList.drop pos = b :: c :: r) (hb : b.toNat / 32 = 6) (hc : c.toNat / 64 = 2) (hv : 128 ≤ b.toNat % 32 * 64 + c.toNat % 64) :
    Utf8.decode s pos = (b.toNat % 32 * 64 + c.toNat % 64, 2) := by
  have g0 := bget s (pos + 0) b (by rw [drop_get h]; rfl)
  have g1 := bget s (pos + 1) c (by rw [drop_get h]; rfl)
  have hsz : pos + 1 < s.size := by
    have h1 : s.data.toList[pos + 1]? = some c := by rw [drop_get h]; rfl
    have := (List.getElem?_eq_some_iff.1 h1).1
    rw [bsize] at this; exact this
  have hn : ¬ b.toNat < 128 := by omega
  have g2 : s.get! pos = b := g0
  simp [Utf8.decode, g2, g1, hn, hb, hc, hsz, hv]

/-- a right pick's text, and how it is read -/
theorem text_1 {p : PP} (h : right p = true) (h1 : p.1 ≠ 2) : textP p = [(writeF p).toNat.toUInt8] ∧ ((writeF p) = 46 ∨ (97 ≤ writeF p ∧ writeF p < 113)) ∧ readFPk (writeF p) = (p, true) := by
  obtain ⟨a, b⟩ := p
  simp only [right, Bool.or_eq_true, Bool.and_eq_true, beq_iff_eq, decide_eq_true_eq] at h
  dsimp only at h1
  have hr : right (a, b) = true := by simp only [right, Bool.or_eq_true, Bool.and_eq_true, beq_iff_eq, decide_eq_true_eq]; exact h
  rcases h with ⟨rfl, rfl⟩ | ⟨⟨h2 | h2, h3⟩, h4⟩
  · exact ⟨rfl, .inl rfl, rfl⟩
  · subst h2
    have hw : writeF (1, b) = b + 96 := by simp [writeF, hr]
    refine ⟨?_, by omega, ?_⟩
    · unfold textP Lib.encodeRune; rw [Lib.encodeRuneZ_one (by omega) (by omega)]; rfl
    · rw [hw]; unfold readFPk; rw [if_neg (by omega), if_pos (by omega)]; simp
  · exact absurd h2 h1
theorem text_2 {p : PP} (h : right p = true) (h1 : p.1 = 2) : textP p = [(192 + writeF p / 64).toNat.toUInt8, (128 + writeF p % 64).toNat.toUInt8] ∧ 945 ≤ writeF p ∧ writeF p < 961 ∧ readFPk (writeF p) = (p, true) := by
  obtain ⟨a, b⟩ := p
  dsimp only at h1
  subst h1
  have hr := h
  simp only [right, Bool.or_eq_true, Bool.and_eq_true, beq_iff_eq, decide_eq_true_eq] at h
  have hw : writeF (2, b) = b + 944 := by simp [writeF, hr]
  have hb : 1 ≤ b ∧ b ≤ 16 := by omega
  refine ⟨?_, by omega, by omega, ?_⟩
  · unfold textP Lib.encodeRune; rw [Lib.encodeRuneZ_two (by omega) (by omega)]; rfl
  · rw [hw]; unfold readFPk; rw [if_neg (by omega), if_neg (by omega), if_pos (by omega)]; simp
theorem u8_nat {z : Int} (_h0 : 0 ≤ z) (h1 : z < 256) : (z.toNat.toUInt8).toNat = z.toNat := by
  simp [Nat.toUInt8]; omega
/-- one right pick ahead -/
theorem decode_pick (s : ByteArray) (pos : Nat) {p : PP} (h : right p = true) (r : List UInt8) (hs : s.data.toList.drop pos = textP p ++ r) : Utf8.decode s pos = ((writeF p).toNat, (textP p).length) ∧ 0 ≤ writeF p ∧ writeF p ≠ 32 ∧ writeF p ≠ 10 ∧ readFPk (writeF p) = (p, true) := by
  by_cases h1 : p.1 = 2
  · obtain ⟨e, h2, h3, h4⟩ := text_2 h h1
    rw [e] at hs
    refine ⟨?_, by omega, by omega, by omega, h4⟩
    have q0 := u8_nat (z := 192 + writeF p / 64) (by omega) (by omega)
    have q1 := u8_nat (z := 128 + writeF p % 64) (by omega) (by omega)
    rw [decode_2 s pos _ _ r hs (by rw [q0]; omega) (by rw [q1]; omega) (by rw [q0, q1]; omega), q0, q1, e]
    simp only [Prod.mk.injEq]
    exact ⟨by omega, rfl⟩
  · obtain ⟨e, h2, h3⟩ := text_1 h h1
    rw [e] at hs
    have q0 := u8_nat (z := writeF p) (by omega) (by omega)
    refine ⟨?_, by omega, by omega, by omega, h3⟩
    rw [decode_1 s pos _ r hs (by rw [q0]; omega), q0, e]
    rfl

/-- a blank, or a pick -/
def tok : Option PP ⊕ Unit → List UInt8
  | .inl (some p) => textP p
  | .inl none => [32]
  | .inr _ => [10]
def toks (l : List (Option PP ⊕ Unit)) : List UInt8 := l.flatMap tok
def picksOf (l : List (Option PP ⊕ Unit)) : List PP := l.filterMap fun t => match t with | .inl x => x | .inr _ => none
theorem parse_toks (s : ByteArray) : ∀ (l : List (Option PP ⊕ Unit)) (f pos : Nat) (acc : List PP), (∀ p, .inl (some p) ∈ l → right p = true) → s.data.toList.drop pos = toks l → pos ≤ s.size → s.size ≤ pos + f → acc.length + (picksOf l).length ≤ 100000 →
    parseFrom s f pos acc false = (acc ++ picksOf l, 0)
  | [], f, pos, acc, _, hd, hp, hf, _ => by
    have : ¬ pos < s.size := by
      intro h
      have hl : (s.data.toList.drop pos).length = 0 := by rw [hd]; rfl
      rw [List.length_drop, bsize] at hl; omega
    rw [parseFrom_end _ _ _ _ _ this]; simp [picksOf]
  | t :: l, f, pos, acc, hr, hd, hp, hf, hn => by
    have hlen : (s.data.toList.drop pos).length = (tok t ++ toks l).length := by rw [hd]; rfl
    rw [List.length_drop, bsize, List.length_append] at hlen
    have htl : 1 ≤ (tok t).length := by
      rcases t with (_ | p) | _
      · decide
      · show 1 ≤ (textP p).length
        have h := hr p (List.mem_cons_self ..)
        by_cases h1 : p.1 = 2
        · rw [(text_2 h h1).1]; simp
        · rw [(text_1 h h1).1]; simp
      · exact Nat.le_refl 1
    have hlt : pos < s.size := by omega
    have hdr : s.data.toList.drop (pos + (tok t).length) = toks l := by rw [← List.drop_drop, hd]; simp [toks]
    have ih := fun acc' hn' => parse_toks s l (f - 1) (pos + (tok t).length) acc' (fun p hp => hr p (List.mem_cons_of_mem _ hp)) hdr (by omega) (by omega) hn'
    obtain ⟨g, rfl⟩ : ∃ g, f = g + 1 := ⟨f - 1, by omega⟩
    simp only [Nat.add_sub_cancel] at ih
    rw [parseFrom, if_pos hlt]
    rcases t with (_ | p) | _
    · have e := decode_1 s pos 32 (toks l) (by rw [hd]; rfl) (by decide)
      rw [e]
      rw [if_pos (.inl rfl)]
      exact ih acc hn
    · have h := hr p (List.mem_cons_self ..)
      obtain ⟨e, h0, h1, h2, h3⟩ := decode_pick s pos h (toks l) (by rw [hd]; rfl)
      rw [e]
      dsimp only
      rw [Int.toNat_of_nonneg h0, if_neg (by omega), h3]
      have hpk : picksOf (.inl (some p) :: l) = p :: picksOf l := rfl
      rw [hpk, List.length_cons] at hn
      rw [if_neg (by simp), if_neg (by omega)]
      refine (ih (acc ++ [p]) (by simp; omega)).trans ?_
      rw [hpk]; simp
    · have e := decode_1 s pos 10 (toks l) (by rw [hd]; rfl) (by decide)
      rw [e]
      rw [if_pos (.inr rfl)]
      exact ih acc hn
theorem parse_all (l : List (Option PP ⊕ Unit)) (hr : ∀ p, .inl (some p) ∈ l → right p = true) (hn : (picksOf l).length ≤ 100000) : parseFPk ⟨(toks l).toArray⟩ = (picksOf l, 0) := by
  have := parse_toks ⟨(toks l).toArray⟩ l (ByteArray.size ⟨(toks l).toArray⟩) 0 [] hr (by simp) (Nat.zero_le _) (by omega) (by simpa using hn)
  simpa [parseFPk] using this
theorem picksOf_some (l : List PP) : picksOf (l.map fun p => .inl (some p)) = l := by
  induction l with
  | nil => rfl
  | cons p l ih => show p :: picksOf _ = _; rw [ih]
theorem toks_some (l : List PP) : toks (l.map fun p => .inl (some p)) = printL l := by
  simp only [toks, printL, List.flatMap_map]; rfl
theorem parse_printPk (l : List PP) (hr : ∀ p ∈ l, right p = true) (hn : l.length ≤ 100000) : parseFPk ⟨(printL l).toArray⟩ = (l, 0) := by
  have := parse_all (l.map fun p => .inl (some p)) (fun p hp => by simp at hp; exact hr p hp) (by rw [picksOf_some]; exact hn)
  rwa [picksOf_some, toks_some] at this
end Go.Proofs.YtjnokhaojpijhaaGreatDoor
namespace Go.Proofs.YtjnokhaojpijhaaGreatDoor

instance (p : Pq) : Decidable (pRng p) := by unfold pRng; exact inferInstance
/-! ### texts -/
/-! ### how a text is read -/
/-! ### digits -/
theorem dec_no {x : Int} {c : UInt8} (hc : dgt c = false) : c ∉ dec x := fun h => by
  have := List.all_eq_true.1 (dec_facts x.toNat).1 c h
  rw [hc] at this; cases this
/-! ### pieces -/
theorem cut_joinC (c : UInt8) : ∀ (l : List B8), l ≠ [] → (∀ p ∈ l, c ∉ p) → cut c (joinC c l) = l
  | [], h, _ => absurd rfl h
  | [p], _, h => by rw [joinC, cut_all _ _ (h p (by simp))]
  | p :: q :: l, _, h => by
    rw [joinC, cut_pre _ _ _ (h p (by simp)), cut_joinC c (q :: l) (by simp) fun x hx => h x (by simp [hx])]
theorem joinC_no {c d : UInt8} (hd : d ≠ c) : ∀ (l : List B8), (∀ p ∈ l, d ∉ p) → d ∉ joinC c l
  | [], _ => by simp [joinC]
  | [p], h => by rw [joinC]; exact h p (by simp)
  | p :: q :: l, h => by
    rw [joinC, List.mem_append, List.mem_cons]
    rintro (h1 | h1 | h1)
    · exact h p (by simp) h1
    · exact hd h1
    · exact joinC_no hd (q :: l) (fun x hx => h x (by simp [hx])) h1
theorem nums_no {c d : UInt8} (hd : d ≠ c) (h : dgt d = false) (l : List Int) : d ∉ numsT c l :=
  joinC_no hd _ fun p hp => by obtain ⟨x, _, rfl⟩ := List.mem_map.1 hp; exact dec_no h
theorem list_nums {c : UInt8} (hc : dgt c = false) {l : List Int} (hn : l ≠ []) (h : ∀ x ∈ l, Mil x) : listFPl c (numsT c l) = some l := by
  have e : cut c (numsT c l) = l.map dec := cut_joinC c _ (by simpa using hn) fun p hp => by obtain ⟨x, _, rfl⟩ := List.mem_map.1 hp; exact dec_no hc
  have e2 : (l.map dec).map numN = l := by
    rw [List.map_map]
    have : ∀ x ∈ l, (numN ∘ dec) x = x := fun x hx => dec_num (h x hx)
    rw [List.map_congr_left this, List.map_id']
  unfold listFPl
  rw [e, e2, if_pos]
  rw [List.all_eq_true]
  exact fun x hx => by rw [decide_eq_true_eq]; exact (h x hx).1
theorem cut_fed : ∀ (l : List B8), (∀ p ∈ l, (10 : UInt8) ∉ p) → cut 10 (fedT l) = l ++ [[]]
  | [], _ => rfl
  | p :: l, h => by
    show cut 10 (p ++ [10] ++ fedT l) = _
    rw [List.append_assoc, List.singleton_append, cut_pre _ _ _ (h p (by simp)), cut_fed l fun x hx => h x (by simp [hx])]; rfl
theorem after_line (w s : B8) : afterF w (lineT w s) = some s := by
  have e : lineT w s = (w ++ [32]) ++ s := by simp [lineT]
  unfold afterF
  rw [e, if_pos (by rw [List.isPrefixOf_iff_prefix]; exact ⟨s, rfl⟩), List.drop_left' (by simp)]
/-! ### what stands in a text -/
theorem joinS_joinC : ∀ l : List B8, joinS l = joinC 59 l
  | [] => rfl
  | [_] => rfl
  | p :: q :: l => by rw [joinS, joinC, joinS_joinC (q :: l)]
theorem print_no {l : List Oq} (hr : ∀ o ∈ l, cRight o 4 4 = true) : (10 : UInt8) ∉ cPrint l ∧ (32 : UInt8) ∉ cPrint l := by
  unfold cPrint
  split
  · decide
  · rw [joinS_joinC]
    constructor
    · exact joinC_no (by decide) _ fun p hp => by obtain ⟨o, ho, rfl⟩ := List.mem_map.1 hp; exact (all_noPl o (mem_all.2 (hr o ho))).1
    · exact joinC_no (by decide) _ fun p hp => by obtain ⟨o, ho, rfl⟩ := List.mem_map.1 hp; exact (all_noPl o (mem_all.2 (hr o ho))).2
theorem slotsT_no {d : UInt8} (h : dgt d = false) (h1 : d ≠ 124) (h2 : d ≠ 44) : ∀ (r : List Int) (s : Nat), d ∉ slotsT s r
  | [], s => by simp [slotsT]
  | v :: r, s => by
    rw [slotsT, List.cons_append, List.mem_cons, List.mem_append]
    rintro (h3 | h3 | h3)
    · unfold aheadF at h3; split at h3 <;> contradiction
    · exact dec_no h h3
    · exact slotsT_no h h1 h2 r (s + 1) h3
theorem heap_no {n : Int} {ls : Rws} (h : rightF n ls = true) : (10 : UInt8) ∉ hTextF n ls := by
  unfold hTextF
  rw [if_pos h, List.mem_append]
  rintro (h1 | h1)
  · exact dec_no (by decide) h1
  · obtain ⟨r, _, hr⟩ := List.mem_flatMap.1 h1
    exact slotsT_no (by decide) (by decide) (by decide) r 0 hr
theorem dig_no : ∀ o : Int, 1 ≤ o ∧ o ≤ 64 → (10 : UInt8) ∉ dig o := by
  intro o h
  have : ∀ n : Fin 65, (10 : UInt8) ∉ dig (n.val : Int) := by decide +kernel
  have := this ⟨o.toNat, by omega⟩
  rwa [show ((o.toNat : Nat) : Int) = o by omega] at this
theorem roots_no (s : Nat) : (10 : UInt8) ∉ textF s := by
  unfold textF
  split
  · decide
  · cases ho : objs s with
    | nil => simp [textL]
    | cons o l =>
      have hr : ∀ x ∈ objs s, 1 ≤ x ∧ x ≤ 64 := fun x hx => objs_rng hx
      rw [ho] at hr
      rw [textL_cons, List.mem_append]
      rintro (h | h)
      · exact dig_no o (hr o (by simp)) h
      · obtain ⟨x, hx, h2⟩ := List.mem_flatMap.1 h
        rw [List.mem_cons] at h2
        rcases h2 with h2 | h2
        · revert h2; decide
        · exact dig_no x (hr x (by simp [hx])) h2
theorem pick_no {p : Int × Int} (h : right p = true) : (10 : UInt8) ∉ textP p := by
  by_cases h1 : p.1 = 2
  · obtain ⟨e, h2, h3, _⟩ := text_2 h h1
    rw [e]
    simp only [List.mem_cons, List.not_mem_nil, or_false, not_or]
    constructor
    · intro hx
      have := congrArg UInt8.toNat hx
      rw [u8_nat (by omega) (by omega)] at this
      have h10 : (10 : UInt8).toNat = 10 := rfl
      omega
    · intro hx
      have := congrArg UInt8.toNat hx
      rw [u8_nat (by omega) (by omega)] at this
      have h10 : (10 : UInt8).toNat = 10 := rfl
      omega
  · obtain ⟨e, h2, _⟩ := text_1 h h1
    rw [e, List.mem_singleton]
    intro hx
    have := congrArg UInt8.toNat hx
    rw [u8_nat (by omega) (by omega)] at this
    have h10 : (10 : UInt8).toNat = 10 := rfl
    omega
theorem there_right {p : Int × Int} {n m : Int} (h : there p n m = true) : right p = true := by
  unfold there at h; rw [Bool.and_eq_true, Bool.and_eq_true] at h; exact h.1.1
theorem picks_no {l : List (Int × Int)} (h : ∀ p ∈ l, right p = true) : (10 : UInt8) ∉ printL l := by
  unfold printL
  intro hx
  obtain ⟨p, hp, h2⟩ := List.mem_flatMap.1 hx
  exact pick_no (h p hp) h2
theorem line_no {w s : B8} (hw : (10 : UInt8) ∉ w) (hs : (10 : UInt8) ∉ s) : (10 : UInt8) ∉ lineT w s := by
  unfold lineT
  rw [List.mem_append, List.mem_cons]
  rintro (h | h | h)
  · exact hw h
  · revert h; decide
  · exact hs h
theorem right_44 {o : Oq} {a b : Int} (h : cRight o a b = true) : cRight o 4 4 = true := by
  unfold cRight at h ⊢
  rw [Bool.and_eq_true, decide_eq_true_eq] at h ⊢
  obtain ⟨h1, h2⟩ := h
  refine ⟨by omega, ?_⟩
  split
  · rename_i hk; rw [if_pos hk, decide_eq_true_eq] at h2; rw [decide_eq_true_eq]; omega
  · rename_i hk
    rw [if_neg hk] at h2
    split
    · rename_i hk2; rw [if_pos hk2] at h2; exact h2
    · rename_i hk2
      rw [if_neg hk2] at h2
      split
      · rename_i hk3; rw [if_pos hk3, decide_eq_true_eq] at h2; rw [decide_eq_true_eq]; omega
      · rename_i hk3; rw [if_neg hk3] at h2; exact h2
theorem fits_all {l : List Oq} {a b : Int} (h : cFits l a b = true) : (∀ o ∈ l, cRight o 4 4 = true) ∧ l.length ≤ 64 := by
  unfold cFits at h
  rw [Bool.and_eq_true, decide_eq_true_eq, List.all_eq_true] at h
  exact ⟨fun o ho => right_44 (h.1 o ho), h.2⟩

/-! ### what is shown is read -/
theorem mut_text {n : Nat} (hn : n ≤ 64) {sl : Int} {x : List Int × List Oq} (h : mutF n sl x = true) : mutP (mutT x) = .ok x ∧ (10 : UInt8) ∉ mutT x := by
  unfold mutF at h
  rw [Bool.and_eq_true] at h
  obtain ⟨h1, h2, h3⟩ := regs_ok h.1
  obtain ⟨g1, g2⟩ := fits_all h.2
  have hl : x.1 ≠ [] := by rw [← List.length_pos_iff]; omega
  have p1 : (32 : UInt8) ∉ numsT 44 x.1 := nums_no (by decide) (by decide) _
  have p2 := print_no g1
  constructor
  · unfold mutP mutT
    rw [after_line]
    simp only
    rw [cut_pre _ _ _ p1, cut_all _ _ p2.2]
    simp only
    rw [list_nums (by decide) hl fun v hv => ⟨(h1 v hv).1, by have := (h1 v hv).2; omega⟩]
    simp only
    rw [parse_printCd g1, if_neg (show ¬ 64 < x.2.length by omega)]
    simp
  · refine line_no (by decide) ?_
    rw [List.mem_append, List.mem_cons]
    rintro (h | h | h)
    · exact nums_no (by decide) (by decide) _ h
    · revert h; decide
    · exact p2.1 h
theorem muts_text {n : Nat} (hn : n ≤ 64) {sl : Int} : ∀ {l : List (List Int × List Oq)}, (∀ x ∈ l, mutF n sl x = true) → mutsP (l.map mutT) = .ok l
  | [], _ => rfl
  | x :: l, h => by
    rw [List.map_cons, mutsP, (mut_text hn (h x (by simp))).1]
    simp only
    rw [muts_text hn fun y hy => h y (by simp [hy])]
theorem eng_text {p : Pq} (h : PRt p) : engP (lineT engW (numsT 32 (pNums p))) = some (p.wk, p.mu, p.cp, p.bf, p.bn, p.mo, p.pr, p.li) := by
  have hm := h.most
  obtain ⟨r1, r2, r3, r4, r5, r6, r7, r8, r9, r10, r11, r12, r13, r14⟩ := h.rng
  unfold engP
  rw [after_line, Option.bind_some, list_nums (by decide) (by simp [pNums])]
  · rfl
  · intro x hx
    simp only [pNums, List.mem_cons, List.not_mem_nil, or_false] at hx
    unfold Mil
    rcases hx with rfl | rfl | rfl | rfl | rfl | rfl | rfl | rfl <;> omega
theorem lines_no {p : Pq} (h : PRt p) : ∀ s ∈ linesT p, (10 : UInt8) ∉ s := by
  intro s hs
  unfold linesT headT at hs
  rw [List.mem_append, List.mem_append, List.mem_cons, List.mem_cons, List.mem_singleton, List.mem_singleton] at hs
  rcases hs with (rfl | rfl | rfl) | hs | rfl
  · exact line_no (by decide) (nums_no (by decide) (by decide) _)
  · exact line_no (by decide) (heap_no h.hp)
  · exact line_no (by decide) (roots_no _)
  · obtain ⟨x, hx, rfl⟩ := List.mem_map.1 hs
    exact (mut_text (right_ob h) (h.muts x hx)).2
  · exact line_no (by decide) (picks_no fun x hx => there_right (h.picks x hx))
theorem lines_len {p : Pq} (h : PRt p) : ((linesT p).length : Int) = p.mu + 4 := by
  have := zip_len h
  have h2 := h.rng.2.2.1
  unfold linesT headT
  rw [List.length_append, List.length_append, List.length_map, this]
  simp; omega

theorem rest_text {p : Pq} (h : PRt p) (hs : p.ro < 18446744073709551616) : restP p.mu.toNat (linesT p ++ [[]]) = .ok (p.sl, p.ob, p.ro, p.rg.zip p.pg, p.pk) := by
  have hz := zip_len h
  have e1 : (linesT p ++ [[]]).getD 1 [] = lineT heapW (hTextF p.sl p.ob) := rfl
  have e2 : (linesT p ++ [[]]).getD 2 [] = lineT rootsW (textF p.ro) := rfl
  have e3 : ((linesT p ++ [[]]).drop 3).take p.mu.toNat = (p.rg.zip p.pg).map mutT := by
    show (((p.rg.zip p.pg).map mutT ++ [lineT pickW (printL p.pk)]) ++ [[]]).take p.mu.toNat = _
    rw [List.append_assoc]
    exact List.take_left' (by rw [List.length_map, hz])
  have e4 : (linesT p ++ [[]]).getD (3 + p.mu.toNat) [] = lineT pickW (printL p.pk) := by
    have hl : (headT p ++ (p.rg.zip p.pg).map mutT).length = 3 + p.mu.toNat := by
      rw [List.length_append, List.length_map, hz]; rfl
    have e5 : linesT p ++ [[]] = (headT p ++ (p.rg.zip p.pg).map mutT) ++ [lineT pickW (printL p.pk), []] := by simp [linesT]
    rw [e5, List.getD_eq_getElem?_getD, List.getElem?_append_right (by omega), hl, Nat.sub_self]
    rfl
  unfold restP
  rw [e1, e2, e3, e4, after_line, after_line, after_line, Option.bind_some, Option.bind_some, heapF_of h.hp, parse_textSt hs]
  simp only
  rw [muts_text (right_ob h) h.muts]
  simp only
  rw [parse_printPk _ (fun x hx => there_right (h.picks x hx)) h.len]
  simp
theorem map_zip {α β : Type} : ∀ {a : List α} {b : List β}, a.length = b.length → (a.zip b).map (·.1) = a ∧ (a.zip b).map (·.2) = b
  | [], [], _ => ⟨rfl, rfl⟩
  | [], _ :: _, h => by cases h
  | _ :: _, [], h => by cases h
  | x :: a, y :: b, h => by
    have := map_zip (a := a) (b := b) (by simpa using h)
    simp [this.1, this.2]
theorem lines_read {p : Pq} (h : PRt p) (hs : p.ro < 18446744073709551616) : linesP (linesT p ++ [[]]) = .ok p := by
  have hl := lines_len h
  unfold linesP
  have e0 : (linesT p ++ [[]]).headD [] = lineT engW (numsT 32 (pNums p)) := rfl
  rw [e0, eng_text h]
  simp only
  rw [if_pos ⟨by rw [List.length_append]; simp; omega, by simp⟩, rest_text h hs]
  simp only
  obtain ⟨z1, z2⟩ := map_zip (a := p.rg) (b := p.pg) (by have := h.lens; omega)
  rw [z1, z2]
/-- what is shown of a right plan is read as it -/
theorem plan_back {p : Pq} (h : pRight p = true) (hs : p.ro < 18446744073709551616) : pParse (pText p) = (p, 0) := by
  have h' := pRight_iff.1 h
  unfold pParse pText
  rw [if_pos h, cut_fed _ (lines_no h'), lines_read h' hs]
  simp only
  rw [if_pos h]
theorem plan_none {p : Pq} (h : pRight p = false) : pText p = [] := by unfold pText; rw [h]; rfl
theorem mutP_err {a : B8} {e : Int} (h : mutP a = .error e) : e ≠ 0 := by
  unfold mutP at h
  split at h
  · injection h with h; omega
  · split at h
    · split at h
      · injection h with h; omega
      · split at h
        · cases h
        · rename_i h2; injection h with h; omega
    · injection h with h; omega
theorem mutsP_err : ∀ {L : List B8} {e : Int}, mutsP L = .error e → e ≠ 0
  | [], e, h => by rw [mutsP] at h; cases h
  | a :: L, e, h => by
    rw [mutsP] at h
    cases h1 : mutP a with
    | error f => rw [h1] at h; injection h with h; subst h; exact mutP_err h1
    | ok x =>
      cases h2 : mutsP L with
      | error f => rw [h1, h2] at h; injection h with h; subst h; exact mutsP_err h2
      | ok xs => rw [h1, h2] at h; cases h
theorem restP_err {n : Nat} {L : List B8} {e : Int} (h : restP n L = .error e) : e ≠ 0 := by
  unfold restP at h
  split at h
  · split at h
    · rename_i h1; injection h with h; subst h; exact mutsP_err h1
    · split at h
      · injection h with h; omega
      · split at h
        · cases h
        · rename_i h2; injection h with h; omega
  · injection h with h; omega
theorem linesP_err {L : List B8} {e : Int} (h : linesP L = .error e) : e ≠ 0 := by
  unfold linesP at h
  split at h
  · injection h with h; omega
  · split at h
    · split at h
      · rename_i h1; injection h with h; subst h; exact restP_err h1
      · cases h
    · injection h with h; omega
/-- what is read is right; else it is none -/
theorem parse_casesPl (t : B8) : ((pParse t).2 = 0 ∧ pRight (pParse t).1 = true) ∨ ((pParse t).2 ≠ 0 ∧ (pParse t).1 = zeroQ) := by
  unfold pParse
  split
  · split
    · rename_i h; exact .inl ⟨rfl, h⟩
    · exact .inr ⟨by decide, rfl⟩
  · rename_i h; exact .inr ⟨linesP_err h, rfl⟩
theorem parse_ro (t : B8) : (pParse t).1.ro < 18446744073709551616 := by
  unfold pParse
  split
  · rename_i p h
    split
    · unfold linesP at h
      split at h
      · cases h
      · split at h
        · split at h
          · cases h
          · rename_i hr
            injection h with h
            subst h
            exact restP_ro hr
        · cases h
    · show (0 : Nat) < _; omega
  · show (0 : Nat) < _; omega
/-! ### lines too many, too few -/
end Go.Proofs.YtjnokhaojpijhaaGreatDoor
namespace Go.Proofs.YtjnokhaojpijhaaGreatDoor
open Go.RowKit Go.WideShapes Go.ChangeShapes Go.ChangeAt Go.Deep

section
variable {H : Type} {enc : TypeId × Value → H} {P : Program} {W W' : World}
theorem sl_of_trod {α : Type} {ce : α → List Value} {Q : α → Prop} {size base : Nat} {spare : Nat → Bool} {held : Bool} {t e : TypeId} {v : Value} {d : DataW H} {ps : List MemPlace} {r : Reach} {b0 : Nat}
    (ht : P.underlying t = some (.slice e)) (hC : P.cellsOf e = size) (hsz : 0 < size) (hce : ∀ p, (ce p).length = size)
    (hel : ∀ n cs x, DataW.trod enc P W base spare held n e cs = some x → ∃ p : α, cs = ce p ∧ Q p) (ok : Value.okWide P W r b0 t v) (h : DataW.Trod enc P W base spare held t v d ps) :
    ∃ l : List α, Sl ce size W v l ∧ (∀ p ∈ l, Q p) ∧ ((d = .nil ∧ l = []) ∨ ∃ el rest, d = .slice el rest ∧ el.length = l.length) := by
  obtain ⟨a0, len0, cap0, rfl⟩ := okWide_slice ht ok
  obtain ⟨fuel, hf⟩ := h
  rcases open_slice ht (by simpa [Value.cells] using hf) with ⟨hcs, hx⟩ | ⟨a, len, cap, m, n, D, Pl, hcs, hb, hl, hm, hmm, hx, hi⟩
  · simp only [Prod.mk.injEq] at hx
    injection hcs with hcs
    rw [hcs]
    exact ⟨[], Sl.nil_, by simp, .inl ⟨hx.1, rfl⟩⟩
  · injection hcs with hcs
    rw [hcs]
    have hlm : len ≤ m := by rw [hmm]; split <;> omega
    simp only [Prod.mk.injEq] at hx
    have hex : ∀ i, i < len → ∃ p : α, Q p ∧ ∀ j u, (ce p)[j]? = some u → W.cell? (a.add (i * size + j)) = some u := fun i hil => by
      obtain ⟨cs', hc, ht'⟩ := hi i (by omega)
      obtain ⟨p, rfl, hq⟩ := hel n cs' _ ht'
      rw [hC] at hc
      obtain ⟨_, hcl, hat⟩ := World.cells?_some hc
      refine ⟨p, hq, fun j u hu => ?_⟩
      have hj : j < size := by have := (List.getElem?_eq_some_iff.1 hu).1; rw [hce] at this; exact this
      rw [← add_add, hat j hj, hu]
    obtain ⟨l, hll, hlq⟩ := list_of _ len hex
    subst hll
    refine ⟨l, ⟨_, cap, rfl, hl, hm, fun h0 => ?_⟩, fun p hp => ?_, .inr ⟨_, _, hx.1, by simp⟩⟩
    · have h00 := (hlq 0 l[0] (List.getElem?_eq_getElem h0)).2 0 ((ce l[0])[0]'(by rw [hce]; exact hsz)) (List.getElem?_eq_getElem _)
      rw [Nat.zero_mul, Nat.add_zero] at h00
      obtain ⟨b, off, spot⟩ := a
      have hsp : spot = none := by
        cases spot with
        | none => rfl
        | some s =>
          exfalso
          simp only [Addr.add, if_true, World.cell?] at h00
          split at h00 <;> simp at h00
      subst hsp
      refine ⟨b, off, rfl, ?_, fun i p hp j u hu => ?_⟩
      · have := World.block_lt_of_cell? W _ h00
        rw [add_none] at this; exact this
      · have := (hlq i p hp).2 j u hu
        rw [add_none] at this
        rw [Nat.add_assoc]; exact this
    · obtain ⟨i, hi⟩ := List.getElem?_of_mem hp
      exact (hlq i p hi).1

end

section
variable {H : Type}
theorem bulk_pos (d : DataW H) : 1 ≤ Rows.uptoBulk d := by
  cases d with
  | lit l => cases l <;> simp [Rows.uptoBulk]
  | _ => simp [Rows.uptoBulk]
theorem bulk_mem {B : Nat} : ∀ {l : List (DataW H)}, Rows.uptoBulkAll l ≤ B → ∀ (j : Nat) {d : DataW H}, l[j]? = some d → Rows.uptoBulk d ≤ B
  | [], _, _, _, h => by simp at h
  | x :: l, hB, 0, d, h => by simp at h; subst h; simp only [Rows.uptoBulkAll] at hB; omega
  | x :: l, hB, j + 1, d, h => by
    simp only [Rows.uptoBulkAll] at hB
    exact bulk_mem (l := l) (B := B) (by omega) j (by simpa using h)
theorem bulk_all_len : ∀ l : List (DataW H), l.length ≤ Rows.uptoBulkAll l
  | [] => by simp
  | x :: l => by have := bulk_all_len l; have := bulk_pos x; simp only [Rows.uptoBulkAll, List.length_cons]; omega
theorem slice_bulk {α : Type} {d : DataW H} {l : List α} (h : (d = .nil ∧ l = []) ∨ ∃ el rest, d = .slice el rest ∧ el.length = l.length) : l.length + 1 ≤ Rows.uptoBulk d := by
  rcases h with ⟨rfl, rfl⟩ | ⟨el, rest, rfl, he⟩
  · simp [Rows.uptoBulk]
  · have := bulk_all_len el
    simp only [Rows.uptoBulk]; omega
end
set_option maxRecDepth 100000 in
theorem open_bytes {H : Type} {enc : TypeId × Value → H} {W : World} {base : Nat} {spare : Nat → Bool} {held : Bool} {v : Value} {d : DataW H} {ps : List MemPlace} {r : Reach} {b0 : Nat} (ok : Value.okWide Tryz.prog W r b0 31 v) (h : DataW.Trod enc Tryz.prog W base spare held 31 v d ps) :
    ∃ l : List Int, Bytes W v l ∧ (∀ p ∈ l, 0 ≤ p ∧ p ≤ 255) ∧ ((d = .nil ∧ l = []) ∨ ∃ el rest, d = .slice el rest ∧ el.length = l.length) :=
  sl_of_trod Tryz.underlying31 (by kernel_rfl) (by decide) (fun _ => rfl) (fun n cs x hx => by
    obtain ⟨a, ha, _, wa⟩ := DataW.trod_int Tryz.underlying5 hx
    exact ⟨a, ha, by simpa [Lit.wf, IntKind.min, IntKind.max, IntKind.signed, IntKind.bits] using wa⟩) ok h
end Go.Proofs.YtjnokhaojpijhaaGreatDoor
namespace Go.Proofs.YtjnokhaojpijhaaGreatDoor
open Go.RowKit Go.WideShapes Go.ChangeShapes Go.ChangeAt Go.Deep


section
variable {H : Type} {enc : TypeId × Value → H} {P : Program} {W : World}
/-- one level: whatever its elements are; 'Q' speaks of an element and its datum -/
theorem sl_of_trod1 {α : Type} {ce : α → List Value} {Q : α → DataW H → Prop} {size base fuel : Nat} {spare : Nat → Bool} {held : Bool} {t e : TypeId} {cs : List Value} {x : DataW H × List MemPlace}
    (ht : P.underlying t = some (.slice e)) (hC : P.cellsOf e = size) (hsz : 0 < size) (hce : ∀ p, (ce p).length = size)
    (hel : ∀ n cs x, DataW.trod enc P W base spare held n e cs = some x → ∃ p : α, cs = ce p ∧ Q p x.1) (h : DataW.trod enc P W base spare held fuel t cs = some x) :
    ∃ (v : Value) (l : List α), cs = [v] ∧ Sl ce size W v l ∧ ((x.1 = .nil ∧ l = []) ∨ ∃ el rest, x.1 = .slice el rest ∧ el.length = l.length ∧ ∀ (i : Nat) (p : α) (d : DataW H), l[i]? = some p → el[i]? = some d → Q p d) := by
  rcases open_slice ht h with ⟨hcs, hx⟩ | ⟨a, len, cap, m, n, D, Pl, hcs, hb, hl, hm, hmm, hx, hi⟩
  · exact ⟨_, [], hcs, Sl.nil_, .inl ⟨by rw [hx], rfl⟩⟩
  · have hlm : len ≤ m := by rw [hmm]; split <;> omega
    have hex : ∀ i, i < len → ∃ p : α, Q p (D i) ∧ ∀ j u, (ce p)[j]? = some u → W.cell? (a.add (i * size + j)) = some u := fun i hil => by
      obtain ⟨cs', hc, ht'⟩ := hi i (by omega)
      obtain ⟨p, rfl, hq⟩ := hel n cs' _ ht'
      rw [hC] at hc
      obtain ⟨_, hcl, hat⟩ := World.cells?_some hc
      refine ⟨p, hq, fun j u hu => ?_⟩
      have hj : j < size := by have := (List.getElem?_eq_some_iff.1 hu).1; rw [hce] at this; exact this
      rw [← add_add, hat j hj, hu]
    obtain ⟨l, hll, hlq⟩ := list_of _ len hex
    subst hll
    refine ⟨_, l, hcs, ⟨_, cap, rfl, hl, hm, fun h0 => ?_⟩, .inr ⟨_, _, by rw [hx], by simp, fun i p d hp hd => ?_⟩⟩
    · have h00 := (hlq 0 l[0] (List.getElem?_eq_getElem h0)).2 0 ((ce l[0])[0]'(by rw [hce]; exact hsz)) (List.getElem?_eq_getElem _)
      rw [Nat.zero_mul, Nat.add_zero] at h00
      obtain ⟨b, off, spot⟩ := a
      have hsp : spot = none := by
        cases spot with
        | none => rfl
        | some s =>
          exfalso
          simp only [Addr.add, if_true, World.cell?] at h00
          split at h00 <;> simp at h00
      subst hsp
      refine ⟨b, off, rfl, ?_, fun i p hp j u hu => ?_⟩
      · have := World.block_lt_of_cell? W _ h00
        rw [add_none] at this; exact this
      · have := (hlq i p hp).2 j u hu
        rw [add_none] at this
        rw [Nat.add_assoc]; exact this
    · have hil : i < l.length := (List.getElem?_eq_some_iff.1 hp).1
      have : d = D i := by
        rw [List.getElem?_map, List.getElem?_range hil] at hd
        exact (Option.some.inj hd).symm
      rw [this]
      exact (hlq i p hp).1
/-- what a row of ints reads as -/
def RowD (W : World) (u : Value) (l : List Int) (d : DataW H) : Prop :=
  Ints W u l ∧ (∀ o ∈ l, -9223372036854775808 ≤ o ∧ o ≤ 9223372036854775807) ∧ ((d = .nil ∧ l = []) ∨ ∃ el rest, d = .slice el rest ∧ el.length = l.length)
theorem open_row {q base fuel : Nat} {spare : Nat → Bool} {held : Bool} {e : TypeId} {cs : List Value} {x : DataW H × List MemPlace}
    (he : P.underlying e = some (.slice q)) (hq : P.underlying q = some (.int .i64)) (cq : P.cellsOf q = 1) (h : DataW.trod enc P W base spare held fuel e cs = some x) :
    ∃ (v : Value) (l : List Int), cs = [v] ∧ RowD W v l x.1 := by
  obtain ⟨u, l, rfl, hu, hd⟩ := sl_of_trod1 (α := Int) (ce := ic) (Q := fun o _ => -9223372036854775808 ≤ o ∧ o ≤ 9223372036854775807) he cq (by decide) (fun _ => rfl) (fun n cs x hx => by
    obtain ⟨a, ha, _, wa⟩ := DataW.trod_int hq hx
    exact ⟨a, ha, by simpa [Lit.wf, IntKind.min, IntKind.max, IntKind.signed, IntKind.bits] using wa⟩) h
  refine ⟨u, l, rfl, hu, fun o ho => ?_, ?_⟩
  · obtain ⟨i, hi⟩ := List.getElem?_of_mem ho
    have hil : i < l.length := (List.getElem?_eq_some_iff.1 hi).1
    rcases hd with ⟨_, rfl⟩ | ⟨el, rest, hx, hel, hq'⟩
    · simp at hil
    · exact hq' i o el[i] hi (List.getElem?_eq_getElem (by omega))
  · rcases hd with h | ⟨el, rest, hx, hel, _⟩
    · exact .inl h
    · exact .inr ⟨el, rest, hx, hel⟩
theorem weights_all {e : TypeId} : ∀ {l : List (DataW H)} {i : Nat} {d : DataW H}, l[i]? = some d → ∀ n ∈ d.weights P e, n ∈ DataW.weightsAll P e l
  | [], _, _, h => by simp at h
  | x :: l, 0, _, h => by simp at h; subst h; intro n hn; simp only [DataW.weightsAll, List.mem_append]; exact .inl hn
  | x :: l, i + 1, _, h => fun n hn => by simp only [DataW.weightsAll, List.mem_append]; exact .inr (weights_all (l := l) (i := i) (by simpa using h) n hn)
theorem row_weight {e q : TypeId} {u : Value} {l : List Int} {d : DataW H} (he : P.underlying e = some (.slice q)) (hb : P.bytesOf q = 8) (h : RowD W u l d) (hw : ∀ n ∈ d.weights P e, n ≤ 140737488351232) : l.length * 8 ≤ 140737488351232 := by
  rcases h.2.2 with ⟨_, rfl⟩ | ⟨el, rest, rfl, hel⟩
  · simp
  · have h1 := hw ((el.length + rest.length) * 8) (by simp [DataW.weights, he, hb])
    rw [← hel]
    exact Nat.le_trans (Nat.mul_le_mul_right 8 (Nat.le_add_right _ _)) h1
theorem open_grid {q base fuel : Nat} {spare : Nat → Bool} {held : Bool} {t e : TypeId} {cs : List Value} {x : DataW H × List MemPlace}
    (ht : P.underlying t = some (.slice e)) (he : P.underlying e = some (.slice q)) (hq : P.underlying q = some (.int .i64)) (ce : P.cellsOf e = 1) (cq : P.cellsOf q = 1) (be : P.bytesOf e = 24) (bq : P.bytesOf q = 8)
    (h : DataW.trod enc P W base spare held fuel t cs = some x) :
    ∃ (v : Value) (ls : List (List Int)), cs = [v] ∧ Grid W v ls ∧ (∀ l ∈ ls, ∀ o ∈ l, -9223372036854775808 ≤ o ∧ o ≤ 9223372036854775807) ∧
      ((∀ n ∈ x.1.weights P t, n ≤ 140737488351232) → ls.length * 24 ≤ 140737488351232 ∧ ∀ l ∈ ls, l.length * 8 ≤ 140737488351232) ∧
      ((x.1 = .nil ∧ ls = []) ∨ ∃ el rest, x.1 = .slice el rest ∧ el.length = ls.length ∧ ∀ (i : Nat) (l : List Int) (d : DataW H), ls[i]? = some l → el[i]? = some d → ∃ u, RowD W u l d) := by
  obtain ⟨v, vs, rfl, hv, hd⟩ := sl_of_trod1 (α := Value) (ce := one) (Q := fun u d => ∃ l : List Int, RowD W u l d) ht ce (by decide) (fun _ => rfl)
    (fun n cs x hx => by
      obtain ⟨u, l, rfl, hr⟩ := open_row he hq cq hx
      exact ⟨u, rfl, l, hr⟩) h
  rcases hd with ⟨hx, rfl⟩ | ⟨el, rest, hx, hel, hq'⟩
  · exact ⟨v, [], rfl, ⟨[], hv, rfl, by simp⟩, by simp, fun _ => ⟨by simp, by simp⟩, .inl ⟨hx, rfl⟩⟩
  · obtain ⟨ls, hll, hls⟩ := list_of (fun i (l : List Int) => ∀ u d, vs[i]? = some u → el[i]? = some d → RowD W u l d) vs.length (fun i hi => by
      obtain ⟨l, hl⟩ := hq' i vs[i] el[i] (List.getElem?_eq_getElem hi) (List.getElem?_eq_getElem (by omega))
      exact ⟨l, fun u d hu hd => by rw [List.getElem?_eq_getElem hi] at hu; rw [List.getElem?_eq_getElem (by omega)] at hd; cases hu; cases hd; exact hl⟩)
    have at_ : ∀ (i : Nat) (l : List Int), ls[i]? = some l → ∃ u d, vs[i]? = some u ∧ el[i]? = some d ∧ RowD W u l d := fun i l hi => by
      have hiv : i < vs.length := by have := (List.getElem?_eq_some_iff.1 hi).1; omega
      exact ⟨vs[i], el[i], List.getElem?_eq_getElem hiv, List.getElem?_eq_getElem (by omega), hls i l hi _ _ (List.getElem?_eq_getElem hiv) (List.getElem?_eq_getElem (by omega))⟩
    refine ⟨v, ls, rfl, ⟨vs, hv, hll.symm, fun i u l hu hl => ?_⟩, fun l hl o ho => ?_, fun hw => ?_, .inr ⟨el, rest, hx, by omega, fun i l d hl hd => ?_⟩⟩
    · obtain ⟨u', d, hu', _, hr⟩ := at_ i l hl
      rw [hu] at hu'; cases hu'; exact hr.1
    · obtain ⟨i, hi⟩ := List.getElem?_of_mem hl
      obtain ⟨u', d, _, _, hr⟩ := at_ i l hi
      exact hr.2.1 o ho
    · rw [hx] at hw
      simp only [DataW.weights, ht, be, List.mem_cons, List.mem_append] at hw
      refine ⟨?_, fun l hl => ?_⟩
      · have := hw _ (.inl rfl)
        exact Nat.le_trans (Nat.mul_le_mul_right 24 (by omega)) this
      · obtain ⟨i, hi⟩ := List.getElem?_of_mem hl
        obtain ⟨u', d, _, hd, hr⟩ := at_ i l hi
        exact row_weight he bq hr fun n hn => hw n (.inr (.inl (weights_all hd n hn)))
    · obtain ⟨u', d', _, hd', hr⟩ := at_ i l hl
      rw [hd] at hd'; cases hd'; exact ⟨u', hr⟩
end
end Go.Proofs.YtjnokhaojpijhaaGreatDoor
namespace Go.Proofs.YtjnokhaojpijhaaGreatDoor
open Go.RowKit Go.WideShapes Go.ChangeShapes Go.ChangeAt Go.Deep

section
variable {H : Type} {enc : TypeId × Value → H} {W : World}
set_option maxRecDepth 100000 in
theorem pick_elem {base : Nat} {spare : Nat → Bool} {held : Bool} (n : Nat) (cs : List Value) (x : DataW H × List MemPlace) (h : DataW.trod enc Tryz.prog W base spare held n 108 cs = some x) : ∃ p : PP, cs = pc p ∧ Wf p := by
  obtain ⟨xs, m, _, _, hl, hxl, hf⟩ := DataW.trod_struct Tryz.underlying108 h
  rw [cellsPick] at hl
  have hxl : xs.length = 2 := hxl
  match cs, hl with
  | [c0, c1], _ =>
    match xs, hxl with
    | [x0, x1], _ =>
      have f0 : DataW.trod enc Tryz.prog W base spare held m 3 [c0] = some x0 := by have := hf 0 _ rfl; simpa [cellsInt] using this
      have f1 : DataW.trod enc Tryz.prog W base spare held m 3 [c1] = some x1 := by have := hf 1 _ rfl; simpa [cellsInt] using this
      obtain ⟨a, ha, _, wa⟩ := DataW.trod_int Tryz.underlying3 f0
      obtain ⟨b, hb, _, wb⟩ := DataW.trod_int Tryz.underlying3 f1
      simp at ha hb
      subst ha; subst hb
      exact ⟨(a, b), rfl, wa, wb⟩
end
end Go.Proofs.YtjnokhaojpijhaaGreatDoor
namespace Go.Proofs.YtjnokhaojpijhaaGreatDoor
open Go.RowKit Go.WideShapes Go.ChangeShapes Go.ChangeAt Go.Deep

theorem list13 {α : Type} {l : List α} (h : l.length = 13) : ∃ x0 x1 x2 x3 x4 x5 x6 x7 x8 x9 xa xb xc, l = [x0, x1, x2, x3, x4, x5, x6, x7, x8, x9, xa, xb, xc] := by
  match l, h with
  | [x0, x1, x2, x3, x4, x5, x6, x7, x8, x9, xa, xb, xc], _ => exact ⟨x0, x1, x2, x3, x4, x5, x6, x7, x8, x9, xa, xb, xc, rfl⟩
theorem array14 {α : Type} {cs : Array α} (h : cs.size = 14) : ∃ x0 x1 x2 x3 x4 x5 x6 x7 x8 x9 xa xb xc xd, cs = #[x0, x1, x2, x3, x4, x5, x6, x7, x8, x9, xa, xb, xc, xd] := by
  obtain ⟨l⟩ := cs
  match l, h with
  | [x0, x1, x2, x3, x4, x5, x6, x7, x8, x9, xa, xb, xc, xd], _ => exact ⟨x0, x1, x2, x3, x4, x5, x6, x7, x8, x9, xa, xb, xc, xd, rfl⟩
section
variable {H : Type} {enc : TypeId × Value → H} {W : World} {base fuel : Nat} {spare : Nat → Bool} {held : Bool} {cs : List Value} {x : DataW H × List MemPlace}
set_option maxRecDepth 100000 in
theorem row_ops (h : DataW.trod enc Tryz.prog W base spare held fuel 97 cs = some x) : ∃ (v : Value) (l : List Oq), cs = [v] ∧ Oqs W v l := by
  obtain ⟨v, l, rfl, hl, -⟩ := sl_of_trod1 (α := Oq) (ce := oq) (Q := fun _ _ => True) (size := 4) Tryz.underlying97 (by kernel_rfl) (by decide) oq_len (fun n cs x hx => by
    obtain ⟨y0, y1, y2, y3, m, hx0, hl, h0, h1, h2, h3⟩ := Joins.trod_struct4 Tryz.underlying106 hx
    have hc : Tryz.prog.cellsOf 106 = 4 := by kernel_rfl
    rw [hc] at hl
    obtain ⟨k, hk, _, wk⟩ := DataW.trod_int Tryz.underlying3 h0
    obtain ⟨t, ht, _, wt⟩ := DataW.trod_int Tryz.underlying3 h1
    obtain ⟨a, ha, _, wa⟩ := DataW.trod_int Tryz.underlying3 h2
    obtain ⟨b, hb, _, wb⟩ := DataW.trod_int Tryz.underlying3 h3
    have e1 : Tryz.prog.cellsOf 3 = 1 := by kernel_rfl
    simp only [e1] at hk ht ha hb
    match cs, hl with
    | [c0, c1, c2, c3], _ =>
      simp only [List.drop_zero, List.drop_succ_cons, List.take_succ_cons, List.take_zero, List.cons.injEq, and_true] at hk ht ha hb
      subst hk ht ha hb
      exact ⟨⟨k, t, a, b⟩, rfl, trivial⟩) h
  exact ⟨v, l, rfl, hl⟩
set_option maxRecDepth 100000 in
theorem rows_ops (h : DataW.trod enc Tryz.prog W base spare held fuel 27 cs = some x) : ∃ (v : Value) (l : List (List Oq)), cs = [v] ∧ GridO W v l := by
  obtain ⟨v, vs, rfl, hv, hd⟩ := sl_of_trod1 (α := Value) (ce := one) (Q := fun u _ => ∃ l : List Oq, Oqs W u l) (size := 1) Tryz.underlying27 (by kernel_rfl) (by decide) (fun _ => rfl)
    (fun n cs x hx => by
      obtain ⟨u, l, rfl, hr⟩ := row_ops hx
      exact ⟨u, rfl, l, hr⟩) h
  rcases hd with ⟨-, rfl⟩ | ⟨el, rest, -, hel, hq'⟩
  · exact ⟨v, [], rfl, ⟨[], hv, rfl, by simp⟩⟩
  · obtain ⟨ls, hll, hls⟩ := list_of (fun i (l : List Oq) => ∀ u, vs[i]? = some u → Oqs W u l) vs.length (fun i hi => by
      obtain ⟨l, hl⟩ := hq' i vs[i] el[i] (List.getElem?_eq_getElem hi) (List.getElem?_eq_getElem (by omega))
      exact ⟨l, fun u hu => by rw [List.getElem?_eq_getElem hi] at hu; cases hu; exact hl⟩)
    exact ⟨v, ls, rfl, vs, hv, hll.symm, fun i u l hu hl => hls i l hl u hu⟩
set_option maxRecDepth 100000 in
theorem row_picks (h : DataW.trod enc Tryz.prog W base spare held fuel 28 cs = some x) : ∃ (v : Value) (l : List PP), cs = [v] ∧ Picks W v l := by
  obtain ⟨v, l, rfl, hl, -⟩ := sl_of_trod1 (α := PP) (ce := pc) (Q := fun _ _ => True) (size := 2) Tryz.underlying28 cellsPick (by decide) pc_len (fun n cs x hx => by
    obtain ⟨p, hp, -⟩ := pick_elem n cs x hx
    exact ⟨p, hp, trivial⟩) h
  exact ⟨v, l, rfl, hl⟩
theorem row_int (h : DataW.trod enc Tryz.prog W base spare held fuel 3 cs = some x) : ∃ n : Int, cs = [.int .i64 n] ∧ I64Cd n := by
  obtain ⟨k, hk, _, wk⟩ := DataW.trod_int Tryz.underlying3 h
  exact ⟨k, hk, by simpa [I64Cd, Lit.wf, IntKind.min, IntKind.max, IntKind.signed, IntKind.bits] using wk⟩
theorem row_int64 (h : DataW.trod enc Tryz.prog W base spare held fuel 2 cs = some x) : ∃ n : Int, cs = [.int .i64 n] ∧ I64Cd n := by
  obtain ⟨k, hk, _, wk⟩ := DataW.trod_int Tryz.underlying2 h
  exact ⟨k, hk, by simpa [I64Cd, Lit.wf, IntKind.min, IntKind.max, IntKind.signed, IntKind.bits] using wk⟩
theorem row_setPl (h : DataW.trod enc Tryz.prog W base spare held fuel 26 cs = some x) : ∃ s : Nat, cs = [.int .u64 (s : Int)] ∧ s < 18446744073709551616 := by
  obtain ⟨k, hk, _, wk⟩ := DataW.trod_int Tryz.underlying26 h
  have : 0 ≤ k ∧ k ≤ 18446744073709551615 := by simpa [Lit.wf, IntKind.min, IntKind.max, IntKind.signed, IntKind.bits] using wk
  exact ⟨k.toNat, by rw [hk, Int.toNat_of_nonneg this.1], by omega⟩
theorem row_rows (h : DataW.trod enc Tryz.prog W base spare held fuel 22 cs = some x) : ∃ (v : Value) (l : Rws), cs = [v] ∧ Grid W v l ∧ Rng l := by
  obtain ⟨u, ls, hu, hG, hR, -⟩ := open_grid Tryz.underlying22 Tryz.underlying63 Tryz.underlying3 (by kernel_rfl) (by kernel_rfl) (by kernel_rfl) (by kernel_rfl) h
  exact ⟨u, ls, hu, hG, hR⟩
/-- one cell of a struct's -/
theorem cell_of {t : TypeId} {k : Nat} {c : Value} (hc : Tryz.prog.cellsOf t = 1) (hk : cs[k]? = some c) (h : DataW.trod enc Tryz.prog W base spare held fuel t ((cs.drop k).take (Tryz.prog.cellsOf t)) = some x) : DataW.trod enc Tryz.prog W base spare held fuel t [c] = some x := by
  rw [hc] at h
  have hlt := (List.getElem?_eq_some_iff.1 hk).1
  have he := (List.getElem?_eq_some_iff.1 hk).2
  rw [List.drop_eq_getElem_cons hlt, List.take_succ_cons, List.take_zero, he] at h
  exact h
end
set_option maxRecDepth 100000 in
set_option maxHeartbeats 2000000 in
theorem open_plan {H : Type} {enc : TypeId × Value → H} {W : World} {base : Nat} {spare : Nat → Bool} {held : Bool} {v : Value} {d : DataW H} {ps : List MemPlace} {r : Reach} {b0 : Nat} (ok : Value.okWide Tryz.prog W r b0 30 v) (h : DataW.Trod enc Tryz.prog W base spare held 30 v d ps) :
    ∃ (a b c d e f g h n : Int) (ob : Value) (s : Nat) (rg pg pk : Value) (lo lr : Rws) (lp : List (List Oq)) (lk : List PP), v = planV a b c d e f g h n ob s rg pg pk ∧ PlanR W ob rg pg pk ⟨a, b, c, d, e, f, g, h, n, lo, s, lr, lp, lk⟩ ∧
      s < 18446744073709551616 ∧ Rng lo ∧ Rng lr ∧ (I64Cd a ∧ I64Cd b ∧ I64Cd c ∧ I64Cd d ∧ I64Cd e ∧ I64Cd f ∧ I64Cd g ∧ I64Cd h ∧ I64Cd n) := by
  obtain ⟨cs, rfl, hsz⟩ := okWide_struct Tryz.underlying30 ok
  obtain ⟨fuel, hf⟩ := h
  obtain ⟨v0, v1, v2, v3, v4, v5, v6, v7, v8, v9, va, vb, vc, vd, rfl⟩ := array14 (hsz.trans (by kernel_rfl))
  obtain ⟨xs, m, _, _, -, hxl, hg⟩ := DataW.trod_struct Tryz.underlying30 hf
  obtain ⟨x0, x1, x2, x3, x4, x5, x6, x7, x8, x9, xa, xb, xc, rfl⟩ := list13 hxl
  obtain ⟨a, ha, ia⟩ := row_int (cell_of (c := v0) (by kernel_rfl) rfl (hg 0 _ rfl))
  obtain ⟨b, hb, ib⟩ := row_int (cell_of (c := v1) (by kernel_rfl) rfl (hg 1 _ rfl))
  obtain ⟨c, hc, ic_⟩ := row_int (cell_of (c := v2) (by kernel_rfl) rfl (hg 2 _ rfl))
  obtain ⟨d, hd, id_⟩ := row_int (cell_of (c := v3) (by kernel_rfl) rfl (hg 3 _ rfl))
  obtain ⟨e, he, ie⟩ := row_int (cell_of (c := v4) (by kernel_rfl) rfl (hg 4 _ rfl))
  obtain ⟨f, hf', if_⟩ := row_int (cell_of (c := v5) (by kernel_rfl) rfl (hg 5 _ rfl))
  obtain ⟨g, hg', ig⟩ := row_int64 (cell_of (c := v6) (by kernel_rfl) rfl (hg 6 _ rfl))
  obtain ⟨h, hh, ih⟩ := row_int64 (cell_of (c := v7) (by kernel_rfl) rfl (hg 7 _ rfl))
  have h8 : DataW.trod enc Tryz.prog W base spare held m 24 (([v0, v1, v2, v3, v4, v5, v6, v7, v8, v9, va, vb, vc, vd].drop 8).take (Tryz.prog.cellsOf 24)) = some x8 := hg 8 _ rfl
  have c2 : Tryz.prog.cellsOf 24 = 2 := by kernel_rfl
  have h8' : DataW.trod enc Tryz.prog W base spare held m 24 [v8, v9] = some x8 := by
    rw [c2] at h8
    exact h8
  obtain ⟨y0, y1, m', hx8, -, k0, k1⟩ := trod_struct2 Tryz.underlying24 h8'
  obtain ⟨n, hn, in_⟩ := row_int (cell_of (c := v8) (by kernel_rfl) rfl k0)
  obtain ⟨ob, lo, ho, hGo, hRo⟩ := row_rows (cell_of (c := v9) (by kernel_rfl) rfl k1)
  obtain ⟨s, hs, is⟩ := row_setPl (cell_of (c := va) (by kernel_rfl) rfl (hg 9 _ rfl))
  obtain ⟨rg, lr, hr, hGr, hRr⟩ := row_rows (cell_of (c := vb) (by kernel_rfl) rfl (hg 10 _ rfl))
  obtain ⟨pg, lp, hp, hGp⟩ := rows_ops (cell_of (c := vc) (by kernel_rfl) rfl (hg 11 _ rfl))
  obtain ⟨pk, lk, hk, hGk⟩ := row_picks (cell_of (c := vd) (by kernel_rfl) rfl (hg 12 _ rfl))
  simp only [List.cons.injEq, and_true] at ha hb hc hd he hf' hg' hh hn ho hs hr hp hk
  subst ha hb hc hd he hf' hg' hh hn ho hs hr hp hk
  exact ⟨a, b, c, d, e, f, g, h, n, _, s, _, _, _, lo, lr, lp, lk, rfl, ⟨hGo, hGr, hGp, hGk⟩, is, hRo, hRr, ia, ib, ic_, id_, ie, if_, ig, ih, in_⟩
end Go.Proofs.YtjnokhaojpijhaaGreatDoor
namespace Go.Proofs.YtjnokhaojpijhaaGreatDoor
open Go.RowKit Go.Shelf Go.Proofs Go.Joins

theorem hP_form {w : World} {A0 A1 A2 : Option Addr} {c0 c1 c2 : Nat} {p : Pq} {pk : Value} (h : PlanR w (.slice A0 p.ob.length c0) (.slice A1 p.rg.length c1) (.slice A2 p.pg.length c2) pk p) :
    p.ob.length ≤ c0 ∧ c0 ≤ 9223372036854775807 ∧ p.rg.length ≤ c1 ∧ c1 ≤ 9223372036854775807 ∧ p.pg.length ≤ c2 ∧ c2 ≤ 9223372036854775807 := by
  obtain ⟨B0, d0, e0, h0, k0⟩ := h.ob.form
  obtain ⟨B1, d1, e1, h1, k1⟩ := h.rg.form
  obtain ⟨B2, d2, e2, h2, k2⟩ := h.pg.form
  injection e0 with _ _ e0
  injection e1 with _ _ e1
  injection e2 with _ _ e2
  subst e0 e1 e2
  unfold maxLen at k0 k1 k2
  exact ⟨h0, k0, h1, k1, h2, k2⟩
end Go.Proofs.YtjnokhaojpijhaaGreatDoor
namespace Go.Proofs.YtjnokhaojpijhaaGreatDoor
open Go.RowKit

theorem line_small {p : Pq} (h : PRt p) : ∀ x ∈ linesT p, x.length ≤ 500000 := by
  intro x hx
  unfold linesT at hx
  rcases List.mem_append.1 hx with hx | hx
  · exact head_small h x hx
  · rcases List.mem_append.1 hx with hx | hx
    · obtain ⟨y, hy, rfl⟩ := List.mem_map.1 hx
      exact mutT_small h hy
    · rw [List.mem_singleton] at hx
      subst hx
      have := printL_le p.pk
      have := h.len
      unfold lineT
      simp only [List.length_append, List.length_cons]
      have : pickW.length = 5 := rfl
      omega
theorem text_small {p : Pq} (h : PRt p) : (fedT (linesT p)).length ≤ 20000000 := by
  have h1 := fedT_len 500000 (linesT p) (line_small h)
  have h2 := lines_len h
  have h3 := h.rng
  unfold pRng at h3
  have : (linesT p).length ≤ 20 := by omega
  exact Nat.le_trans h1 (Nat.le_trans (Nat.mul_le_mul_right _ this) (by decide))
theorem text_is {p : Pq} (h : PRt p) : pText p = fedT (linesT p) := by unfold pText; rw [if_pos (pRight_iff.2 h)]
end Go.Proofs.YtjnokhaojpijhaaGreatDoor
