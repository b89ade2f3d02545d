/- Layer ledger: what the chapter asks, as plain functions, and what follows. No program in this text. -/
import Derived.Test.YtgbkphgclpgppaaDequeP
namespace Go.Proofs.Ytgbkphgclpgppaa

structure Lg where
  scanned : Int
  spent : Int
  pool : Int
  bal : List Int
/-- is there a mutator who? -/
def lThere (l : Lg) (who : Int) : Bool := decide (1 ≤ who ∧ who ≤ (l.bal.length : Int))
def lGet (l : Lg) (who : Int) : Int := l.bal.getD (who - 1).toNat 0
/-- a balance so much more -/
def lPut (bal : List Int) (who n : Int) : List Int := bal.set (who - 1).toNat (s64 (bal.getD (who - 1).toNat 0 + n))
def lEarn (l : Lg) (who : Int) : Lg := if lThere l who = true then ⟨s64 (l.scanned + 1), l.spent, l.pool, lPut l.bal who 1⟩ else ⟨s64 (l.scanned + 1), l.spent, s64 (l.pool + 1), l.bal⟩
def lTakes (l : Lg) (who want : Int) : Bool := lThere l who && (decide (0 < want) && decide (0 < l.pool))
def lTook (l : Lg) (who want : Int) : Int := if lTakes l who want = true then min want l.pool else 0
def lTake (l : Lg) (who want : Int) : Lg := if lTakes l who want = true then ⟨l.scanned, l.spent, s64 (l.pool - min want l.pool), lPut l.bal who (min want l.pool)⟩ else l
def lPriced (l : Lg) (who price limit : Int) : Bool := lThere l who && decide (0 ≤ price ∧ price ≤ 1000000 ∧ 0 ≤ limit ∧ limit ≤ 1000000)
def lMay (l : Lg) (who price limit : Int) : Bool := lPriced l who price limit && decide (-limit ≤ s64 (lGet l who - price))
def lSpend (l : Lg) (who price limit : Int) : Lg := if lMay l who price limit = true then ⟨l.scanned, s64 (l.spent + price), l.pool, lPut l.bal who (-price)⟩ else l
def lLacks (l : Lg) (who price limit : Int) : Int := if lPriced l who price limit = true then (if lMay l who price limit = true then 0 else s64 (price - limit - lGet l who)) else -1
def lNew (m : Int) : Lg := ⟨0, 0, 0, List.replicate (min (max m 0) 16).toNat 0⟩
def lMost : Int := 1099511627776
def lSumF (s : Int) : List Int → Int
  | [] => s
  | x :: l => lSumF (s64 (s + x)) l
def lRight (l : Lg) : Bool := decide (0 ≤ l.scanned ∧ l.scanned ≤ lMost ∧ 0 ≤ l.spent ∧ l.spent ≤ lMost ∧ 0 ≤ l.pool ∧ l.pool ≤ lMost ∧ l.bal.length ≤ 16) && (l.bal.all (fun x => decide (-lMost ≤ x ∧ x ≤ lMost)) && decide (lSumF (s64 (l.spent + l.pool)) l.bal = l.scanned))
def lSame (a b : Lg) : Bool := decide (a.scanned = b.scanned ∧ a.spent = b.spent ∧ a.pool = b.pool ∧ a.bal = b.bal)
/-- a deed, by its bytes -/
def lDo (l : Lg) (kind who n limit : Int) : Lg :=
  if kind % 4 = 0 ∨ kind % 4 = 1 then lEarn l (who % 6) else if kind % 4 = 2 then lTake l (who % 6) (n % 9) else lSpend l (who % 6) (n % 9) (limit % 9)

theorem lPut_len (bal : List Int) (who n : Int) : (lPut bal who n).length = bal.length := by unfold lPut; rw [List.length_set]
theorem lDo_len (l : Lg) (k w n m : Int) : (lDo l k w n m).bal.length = l.bal.length := by
  unfold lDo lEarn lTake lSpend
  split
  · split <;> simp [lPut_len]
  · split
    · split <;> simp [lPut_len]
    · split <;> simp [lPut_len]
theorem lSame_self (l : Lg) : lSame l l = true := by unfold lSame; simp
theorem there_iff {l : Lg} {who : Int} : lThere l who = true ↔ 1 ≤ who ∧ who ≤ (l.bal.length : Int) := by unfold lThere; simp
/-- the place of a balance -/
theorem there_at {l : Lg} {who : Int} (h : lThere l who = true) : ∃ i : Nat, who = (i : Int) + 1 ∧ (who - 1).toNat = i ∧ i < l.bal.length := by
  rw [there_iff] at h; exact ⟨(who - 1).toNat, by omega, rfl, by omega⟩
/-- nobody else's balance is turned -/
theorem lPut_other (bal : List Int) (who n : Int) (i : Nat) (h : (i : Int) + 1 ≠ who) (hw : 1 ≤ who) : (lPut bal who n)[i]? = bal[i]? := by
  unfold lPut; rw [List.getElem?_set_ne (by omega)]
theorem lDo_other (l : Lg) (k w n m : Int) (i : Nat) (h : (i : Int) + 1 ≠ w % 6) : (lDo l k w n m).bal[i]? = l.bal[i]? := by
  unfold lDo lEarn lTake lSpend
  split
  · split
    · rename_i ht; exact lPut_other _ _ _ _ h (there_iff.1 ht).1
    · rfl
  · split
    · split
      · rename_i ht; unfold lTakes at ht; rw [Bool.and_eq_true] at ht; exact lPut_other _ _ _ _ h (there_iff.1 ht.1).1
      · rfl
    · split
      · rename_i ht; unfold lMay lPriced at ht; simp only [Bool.and_eq_true] at ht; exact lPut_other _ _ _ _ h (there_iff.1 ht.1.1).1
      · rfl

/-! sums -/
def isum : List Int → Int
  | [] => 0
  | x :: l => x + isum l
theorem isum_set : ∀ (l : List Int) (i : Nat) (h : i < l.length) (y : Int), isum (l.set i y) = isum l - l[i] + y
  | x :: l, 0, _, y => by simp [isum]; omega
  | x :: l, i + 1, h, y => by
    have := isum_set l i (by simpa using h) y
    simp only [List.set_cons_succ, isum, List.getElem_cons_succ]
    omega
theorem isum_rep (n : Nat) : isum (List.replicate n 0) = 0 := by
  induction n with
  | zero => rfl
  | succ n ih => rw [List.replicate_succ, isum, ih]; rfl
theorem isum_le {B : Int} : ∀ (l : List Int), (∀ x ∈ l, -B ≤ x ∧ x ≤ B) → -(B * l.length) ≤ isum l ∧ isum l ≤ B * l.length
  | [], _ => by simp [isum]
  | x :: l, h => by
    have h1 := h x (by simp)
    have h2 := isum_le l fun y hy => h y (by simp [hy])
    have e : B * ((l.length + 1 : Nat) : Int) = B * (l.length : Int) + B := by rw [Int.natCast_add, Int.mul_add]; omega
    simp only [isum, List.length_cons]
    rw [e]
    omega
/-- as long as no sum runs over, sums are sums -/
theorem lSumF_eq {B : Int} (hB : B ≤ 1099511627776) : ∀ (l : List Int) (s : Int), (∀ x ∈ l, -B ≤ x ∧ x ≤ B) → l.length ≤ 16 → -1099511627776 * (32 - (l.length : Int)) ≤ s → s ≤ 1099511627776 * (32 - (l.length : Int)) → lSumF s l = s + isum l
  | [], s, _, _, _, _ => by simp [lSumF, isum]
  | x :: l, s, h, hl, h1, h2 => by
    have hx := h x (by simp)
    have e : s64 (s + x) = s + x := s64_small (by simp at hl h1 h2; omega) (by simp at hl h1 h2; omega)
    rw [lSumF, e, lSumF_eq hB l (s + x) (fun y hy => h y (by simp [hy])) (by simp at hl; omega) (by simp at hl h1 h2; omega) (by simp at hl h1 h2; omega), isum]
    omega
/-- what holds behind n deeds -/
structure LInv (n m : Nat) (l : Lg) : Prop where
  len : l.bal.length = m
  sc : 0 ≤ l.scanned ∧ l.scanned ≤ (n : Int)
  sp : 0 ≤ l.spent ∧ l.spent ≤ 8 * (n : Int)
  po : 0 ≤ l.pool ∧ l.pool ≤ (n : Int)
  bal : ∀ x ∈ l.bal, -(8 * (n : Int)) ≤ x ∧ x ≤ 8 * (n : Int)
  sum : l.spent + l.pool + isum l.bal = l.scanned
theorem linv_new (m : Int) (h0 : 0 ≤ m) (h1 : m ≤ 16) : LInv 0 m.toNat (lNew m) := by
  refine ⟨?_, ?_, ?_, ?_, ?_, ?_⟩ <;> simp [lNew, isum_rep]
  · omega
theorem put_inv {bal : List Int} {i n : Nat} {d : Int} (h : i < bal.length) (hn : n ≤ 1000) (hb : ∀ x ∈ bal, -(8 * (n : Int)) ≤ x ∧ x ≤ 8 * (n : Int)) (hd : -8 ≤ d ∧ d ≤ 8) :
    (∀ x ∈ lPut bal ((i : Int) + 1) d, -(8 * ((n + 1 : Nat) : Int)) ≤ x ∧ x ≤ 8 * ((n + 1 : Nat) : Int)) ∧ isum (lPut bal ((i : Int) + 1) d) = isum bal + d := by
  have hi := hb _ (List.getElem_mem h)
  have e0 : ((i : Int) + 1 - 1).toNat = i := by omega
  have e1 : bal.getD i 0 = bal[i] := by rw [List.getD_eq_getElem?_getD, List.getElem?_eq_getElem h]; rfl
  have e : s64 (bal[i] + d) = bal[i] + d := s64_small (by omega) (by omega)
  unfold lPut
  rw [e0, e1, e]
  constructor
  · intro x hx
    rcases List.mem_or_eq_of_mem_set hx with hx | rfl
    · have := hb x hx; omega
    · omega
  · rw [isum_set _ _ h]; omega
theorem linv_do {n m : Nat} {l : Lg} (h : LInv n m l) (hn : n ≤ 1000) (k w q r : Int) : LInv (n + 1) m (lDo l k w q r) := by
  have hsame : LInv (n + 1) m l := ⟨h.len, by have := h.sc; omega, by have := h.sp; omega, by have := h.po; omega, fun x hx => by have := h.bal x hx; omega, h.sum⟩
  obtain ⟨hl, hsc, hsp, hpo, hb, hs⟩ := id h
  unfold lDo
  split
  · unfold lEarn
    split
    · rename_i ht
      obtain ⟨i, hi, -, hlt⟩ := there_at ht
      obtain ⟨b1, b2⟩ := put_inv hlt hn hb (d := 1) (by omega)
      rw [hi]
      have e := s64_small (x := l.scanned + 1) (by omega) (by omega)
      exact ⟨by rw [lPut_len]; exact hl, by rw [e]; simp only; omega, by simp only; omega, by simp only; omega, b1, by simp only; rw [b2, e]; omega⟩
    · have e := s64_small (x := l.scanned + 1) (by omega) (by omega)
      have e2 := s64_small (x := l.pool + 1) (by omega) (by omega)
      exact ⟨hl, by rw [e]; simp only; omega, by simp only; omega, by rw [e2]; simp only; omega, fun x hx => by have := hb x hx; omega, by simp only; rw [e, e2]; omega⟩
  · split
    · unfold lTake
      split
      · rename_i ht
        unfold lTakes at ht
        simp only [Bool.and_eq_true, decide_eq_true_eq] at ht
        obtain ⟨i, hi, -, hlt⟩ := there_at ht.1
        obtain ⟨d, hd⟩ : ∃ d, min (q % 9) l.pool = d := ⟨_, rfl⟩
        have hd8 : 0 ≤ d ∧ d ≤ 8 ∧ d ≤ l.pool := by omega
        obtain ⟨b1, b2⟩ := put_inv hlt hn hb (d := d) (by omega)
        rw [hi, hd]
        have e := s64_small (x := l.pool - d) (by omega) (by omega)
        exact ⟨by rw [lPut_len]; exact hl, by simp only; omega, by simp only; omega, by rw [e]; simp only; omega, b1, by simp only; rw [b2, e]; omega⟩
      · exact hsame
    · unfold lSpend
      split
      · rename_i ht
        unfold lMay lPriced at ht
        simp only [Bool.and_eq_true, decide_eq_true_eq] at ht
        obtain ⟨i, hi, -, hlt⟩ := there_at ht.1.1
        obtain ⟨d, hd⟩ : ∃ d, q % 9 = d := ⟨_, rfl⟩
        have hd8 : 0 ≤ d ∧ d ≤ 8 := by omega
        obtain ⟨b1, b2⟩ := put_inv hlt hn hb (d := -d) (by omega)
        rw [hi, hd]
        have e := s64_small (x := l.spent + d) (by omega) (by omega)
        exact ⟨by rw [lPut_len]; exact hl, by simp only; omega, by rw [e]; simp only; omega, by simp only; omega, b1, by simp only; rw [b2, e]; omega⟩
      · exact hsame
theorem linv_right {n m : Nat} {l : Lg} (h : LInv n m l) (hn : n ≤ 1000) (hm : m ≤ 16) : lRight l = true := by
  obtain ⟨hl, hsc, hsp, hpo, hb, hs⟩ := h
  have e := s64_small (x := l.spent + l.pool) (by omega) (by omega)
  have e2 := lSumF_eq (B := 8 * (n : Int)) (by omega) l.bal (l.spent + l.pool) hb (by omega) (by omega) (by omega)
  have hM : lMost = 1099511627776 := rfl
  unfold lRight
  rw [e, e2, hs, hM]
  simp only [Bool.and_eq_true, decide_eq_true_eq, List.all_eq_true]
  refine ⟨⟨hsc.1, by omega, hsp.1, by omega, hpo.1, by omega, by omega⟩, fun x hx => ?_, trivial⟩
  have := hb x hx
  omega
/-- nobody's balance comes below the limit, the other way round -/
theorem lim_do {n m : Nat} {l : Lg} (h : LInv n m l) (hn : n ≤ 1000) {L : Int} (hL : 0 ≤ L ∧ L ≤ 8) (hb : ∀ x ∈ l.bal, -L ≤ x) (k w q r : Int) (hr : r % 9 = L) : ∀ x ∈ (lDo l k w q r).bal, -L ≤ x := by
  have put : ∀ (i : Nat) (d : Int), i < l.bal.length → -8 ≤ d ∧ d ≤ 8 → (∀ z, z = l.bal.getD i 0 → -L ≤ z + d) → ∀ x ∈ lPut l.bal ((i : Int) + 1) d, -L ≤ x := by
    intro i d hi hd hz x hx
    have e0 : ((i : Int) + 1 - 1).toNat = i := by omega
    have e1 : l.bal.getD i 0 = l.bal[i] := by rw [List.getD_eq_getElem?_getD, List.getElem?_eq_getElem hi]; rfl
    have hbi := h.bal _ (List.getElem_mem hi)
    have h1 := hz _ rfl
    unfold lPut at hx
    rw [e0, e1] at hx
    rw [e1] at h1
    rw [s64_small (by omega) (by omega)] at hx
    rcases List.mem_or_eq_of_mem_set hx with hx | rfl
    · exact hb x hx
    · exact h1
  have old : ∀ i, i < l.bal.length → -L ≤ l.bal.getD i 0 := fun i hi => by
    rw [List.getD_eq_getElem?_getD, List.getElem?_eq_getElem hi]; exact hb _ (List.getElem_mem hi)
  unfold lDo
  split
  · unfold lEarn
    split
    · rename_i ht
      obtain ⟨i, hi, -, hlt⟩ := there_at ht
      rw [hi]
      exact put i 1 hlt (by omega) fun z hz => by have := old i hlt; omega
    · exact hb
  · split
    · unfold lTake
      split
      · rename_i ht
        unfold lTakes at ht
        simp only [Bool.and_eq_true, decide_eq_true_eq] at ht
        obtain ⟨i, hi, -, hlt⟩ := there_at ht.1
        rw [hi]
        exact put i _ hlt (by omega) fun z hz => by have := old i hlt; omega
      · exact hb
    · unfold lSpend
      split
      · rename_i ht
        unfold lMay lPriced at ht
        simp only [Bool.and_eq_true, decide_eq_true_eq] at ht
        obtain ⟨i, hi, e0, hlt⟩ := there_at ht.1.1
        have h2 := ht.2
        unfold lGet at h2
        rw [e0] at h2
        have hbi := h.bal _ (List.getElem_mem hlt)
        have e1 : l.bal.getD i 0 = l.bal[i] := by rw [List.getD_eq_getElem?_getD, List.getElem?_eq_getElem hlt]; rfl
        rw [e1] at h2
        rw [s64_small (by omega) (by omega), hr] at h2
        rw [hi]
        exact put i _ hlt (by omega) fun z hz => by rw [e1] at hz; omega
      · exact hb

/-! who lacks how much -/
theorem get_at {l : Lg} {i : Nat} (h : i < l.bal.length) : lGet l ((i : Int) + 1) = l.bal[i] := by
  unfold lGet
  rw [show ((i : Int) + 1 - 1).toNat = i by omega, List.getD_eq_getElem?_getD, List.getElem?_eq_getElem h]; rfl
theorem get_inv {n m : Nat} {l : Lg} (h : LInv n m l) {i : Nat} (hi : i < l.bal.length) : -(8 * (n : Int)) ≤ lGet l ((i : Int) + 1) ∧ lGet l ((i : Int) + 1) ≤ 8 * (n : Int) := by
  rw [get_at hi]; exact h.bal _ (List.getElem_mem hi)
theorem priced_yes {l : Lg} {i : Nat} (hi : i < l.bal.length) {price limit : Int} (h : 0 ≤ price ∧ price ≤ 1000000 ∧ 0 ≤ limit ∧ limit ≤ 1000000) : lPriced l ((i : Int) + 1) price limit = true := by
  unfold lPriced; rw [there_iff.2 ⟨by omega, by omega⟩, decide_eq_true h]; rfl
theorem may_is {l : Lg} {i : Nat} (hi : i < l.bal.length) {price limit : Int} (h : 0 ≤ price ∧ price ≤ 1000000 ∧ 0 ≤ limit ∧ limit ≤ 1000000) (hb : -1000000000 ≤ lGet l ((i : Int) + 1) ∧ lGet l ((i : Int) + 1) ≤ 1000000000) : lMay l ((i : Int) + 1) price limit = decide (-limit ≤ lGet l ((i : Int) + 1) - price) := by
  unfold lMay
  rw [priced_yes hi h, s64_small (by omega) (by omega)]; rfl
theorem lacks_yes {l : Lg} {who price limit : Int} (h : lMay l who price limit = true) : lLacks l who price limit = 0 := by
  have hp : lPriced l who price limit = true := by unfold lMay at h; rw [Bool.and_eq_true] at h; exact h.1
  unfold lLacks; rw [if_pos hp, if_pos h]
theorem lacks_no {n m : Nat} {l : Lg} (h : LInv n m l) (hn : n ≤ 1000) {i : Nat} (hi : i < l.bal.length) {price limit : Int} (hp : 0 ≤ price ∧ price ≤ 1000000 ∧ 0 ≤ limit ∧ limit ≤ 1000000) (hm : lMay l ((i : Int) + 1) price limit = false) :
    lLacks l ((i : Int) + 1) price limit = price - limit - lGet l ((i : Int) + 1) ∧ 0 < lLacks l ((i : Int) + 1) price limit ∧ s64 (lGet l ((i : Int) + 1) + lLacks l ((i : Int) + 1) price limit) = price - limit := by
  have hg := get_inv h hi
  rw [may_is hi hp (by omega), decide_eq_false_iff_not] at hm
  have e : lLacks l ((i : Int) + 1) price limit = price - limit - lGet l ((i : Int) + 1) := by
    unfold lLacks
    rw [if_pos (priced_yes hi hp), if_neg (by rw [may_is hi hp (by omega), decide_eq_true_eq]; exact hm), s64_small (by omega) (by omega)]
  rw [e]
  exact ⟨rfl, by omega, by rw [s64_small (by omega) (by omega)]; omega⟩
/-- with the balance put so, May says -/
theorem may_put {a b c : Int} {bal : List Int} {i : Nat} (hi : i < bal.length) {price limit x : Int} (hp : 0 ≤ price ∧ price ≤ 1000000 ∧ 0 ≤ limit ∧ limit ≤ 1000000) (hx : -1000000000 ≤ x ∧ x ≤ 1000000000) : lMay ⟨a, b, c, bal.set i x⟩ ((i : Int) + 1) price limit = decide (-limit ≤ x - price) := by
  have hi' : i < (Lg.mk a b c (bal.set i x)).bal.length := by simpa using hi
  have e : lGet ⟨a, b, c, bal.set i x⟩ ((i : Int) + 1) = x := by rw [get_at hi']; simp
  rw [may_is hi' hp (by rw [e]; exact hx), e]
theorem may_more {a b c : Int} {bal : List Int} {i : Nat} (hi : i < bal.length) {price limit : Int} (hp : 0 ≤ price ∧ price ≤ 1000000 ∧ 0 ≤ limit ∧ limit ≤ 1000000) : lMay ⟨a, b, c, bal.set i (price - limit)⟩ ((i : Int) + 1) price limit = true ∧ lMay ⟨a, b, c, bal.set i (price - limit - 1)⟩ ((i : Int) + 1) price limit = false := by
  rw [may_put hi hp (by omega), may_put hi hp (by omega), decide_eq_true_eq, decide_eq_false_iff_not]
  omega
theorem spend_yes {n m : Nat} {l : Lg} (h : LInv n m l) (hn : n ≤ 1000) {i : Nat} (hi : i < l.bal.length) {price limit : Int} (hp : 0 ≤ price ∧ price ≤ 1000000 ∧ 0 ≤ limit ∧ limit ≤ 1000000) (hm : lMay l ((i : Int) + 1) price limit = true) :
    lSpend l ((i : Int) + 1) price limit = ⟨l.scanned, l.spent + price, l.pool, l.bal.set i (l.bal[i] - price)⟩ := by
  have hg := get_inv h hi
  have hsp := h.sp
  rw [get_at hi] at hg
  unfold lSpend lPut
  rw [if_pos hm, s64_small (x := l.spent + price) (by omega) (by omega), show ((i : Int) + 1 - 1).toNat = i by omega, List.getD_eq_getElem?_getD, List.getElem?_eq_getElem hi]
  simp only [Option.getD_some]
  rw [s64_small (by omega) (by omega)]; rfl
theorem take_all {n m : Nat} {l : Lg} (h : LInv n m l) (hn : n ≤ 1000) {i : Nat} (hi : i < l.bal.length) {want : Int} (hw : 0 ≤ want ∧ want ≤ 1000000) :
    lTook l ((i : Int) + 1) want = min want l.pool ∧ (lTake l ((i : Int) + 1) want).pool = l.pool - min want l.pool ∧ (lTake l ((i : Int) + 1) want).bal = l.bal.set i (l.bal[i] + min want l.pool) ∧ (lTake l ((i : Int) + 1) want).scanned = l.scanned ∧ (lTake l ((i : Int) + 1) want).spent = l.spent := by
  have hg := get_inv h hi
  have hpo := h.po
  rw [get_at hi] at hg
  have ht : lThere l ((i : Int) + 1) = true := there_iff.2 ⟨by omega, by omega⟩
  by_cases hq : 0 < want ∧ 0 < l.pool
  · have e : lTakes l ((i : Int) + 1) want = true := by unfold lTakes; rw [ht, decide_eq_true hq.1, decide_eq_true hq.2]; rfl
    unfold lTook lTake lPut
    rw [if_pos e, if_pos e, show ((i : Int) + 1 - 1).toNat = i by omega, List.getD_eq_getElem?_getD, List.getElem?_eq_getElem hi]
    simp only [Option.getD_some]
    rw [s64_small (by omega) (by omega), s64_small (by omega) (by omega)]
    refine ⟨?_, ?_, ?_, ?_, ?_⟩ <;> first | rfl | trivial
  · have e : lTakes l ((i : Int) + 1) want = false := by
      unfold lTakes; rw [ht]
      by_cases h1 : 0 < want
      · rw [decide_eq_true h1, decide_eq_false (fun h2 => hq ⟨h1, h2⟩)]; rfl
      · rw [decide_eq_false h1]; rfl
    have hz : min want l.pool = 0 := by omega
    unfold lTook lTake
    rw [e, hz]
    simp
/-! runs -/
structure Dg where
  kind : Int
  who : Int
  n : Int
  limit : Int
def lRun (l : Lg) : List Dg → Lg
  | [] => l
  | d :: ds => lRun (lDo l d.kind d.who d.n d.limit) ds
theorem lRun_snoc (l : Lg) (ds : List Dg) (d : Dg) : lRun l (ds ++ [d]) = lDo (lRun l ds) d.kind d.who d.n d.limit := by
  induction ds generalizing l with
  | nil => rfl
  | cons e ds ih => simp only [List.cons_append, lRun]; exact ih _
theorem lRun_take (l : Lg) (ds : List Dg) (k : Nat) (h : k < ds.length) : lRun l (ds.take (k + 1)) = lDo (lRun l (ds.take k)) ds[k].kind ds[k].who ds[k].n ds[k].limit := by
  rw [List.take_succ_eq_append_getElem h, lRun_snoc]
theorem lRun_inv {m : Nat} {l : Lg} (ds : List Dg) : ∀ k : Nat, k ≤ ds.length → k ≤ 1000 → LInv 0 m l → LInv k m (lRun l (ds.take k))
  | 0, _, _, h => by simpa [lRun] using h
  | k + 1, h1, h2, h => by
    rw [lRun_take l ds k (by omega)]
    exact linv_do (lRun_inv ds k (by omega) (by omega) h) (by omega) _ _ _ _
end Go.Proofs.Ytgbkphgclpgppaa
