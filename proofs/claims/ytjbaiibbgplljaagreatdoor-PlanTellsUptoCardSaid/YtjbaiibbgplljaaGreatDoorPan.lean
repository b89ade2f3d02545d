import Derived.Test.YtjbaiibbgplljaaGreatDoorPaa
import Derived.Test.YtjbaiibbgplljaaGreatDoorPaa
import Derived.Test.YtjbaiibbgplljaaGreatDoorPaa
import Derived.Test.YtjbaiibbgplljaaGreatDoorPal
import Derived.Test.YtjbaiibbgplljaaGreatDoorPal
namespace Go.Proofs.YtjbaiibbgplljaaGreatDoor
structure Pq where
 wk : Int
 mu : Int
 cp : Int
 bf : Int
 bn : Int
 mo : Int
 pr : Int
 li : Int
 sl : Int
 ob : Rws
 ro : Nat
 rg : Rws
 pg : List (List Oq)
 pk : List (Int × Int)
deriving DecidableEq
def zeroQ : Pq := ⟨0, 0, 0, 0, 0, 0, 0, 0, 0, [], 0, [], [], []⟩
def regsF (n : Nat) (l : List Int) : Bool := l.all (fun x => decide (0 ≤ x ∧ x ≤ (n : Int))) && decide (1 ≤ l.length ∧ l.length ≤ 4)
def mutF (n : Nat) (sl : Int) (x : List Int × List Oq) : Bool := regsF n x.1 && cFits x.2 x.1.length sl
def pNums (p : Pq) : List Int := [p.wk, p.mu, p.cp, p.bf, p.bn, p.mo, p.pr, p.li]
def pRng (p : Pq) : Prop := 1 ≤ p.wk ∧ p.wk ≤ 16 ∧ 0 ≤ p.mu ∧ p.mu ≤ 16 ∧ 1 ≤ p.cp ∧ p.cp ≤ 16 ∧ 1 ≤ p.bf ∧ p.bf ≤ 8 ∧ 1 ≤ p.bn ∧ p.bn ≤ 8 ∧ 0 ≤ p.pr ∧ p.pr ≤ 1000000 ∧ 0 ≤ p.li ∧ p.li ≤ 1000000
instance (p : Pq) : Decidable (pRng p) := by unfold pRng; exact inferInstance
def pRight (p : Pq) : Bool :=
 decide (pRng p) && (rightF p.sl p.ob && (decide ((p.ob.length : Int) ≤ p.mo ∧ p.mo ≤ 64) && (underF p.ro (firstF p.ob.length) &&
  (decide ((p.rg.length : Int) = p.mu ∧ (p.pg.length : Int) = p.mu) && ((p.rg.zip p.pg).all (mutF p.ob.length p.sl) &&
   (decide (p.pk.length ≤ 100000) && p.pk.all fun x => there x p.wk p.mu))))))
structure PRt (p : Pq) : Prop where
 rng : pRng p
 hp : rightF p.sl p.ob = true
 most : (p.ob.length : Int) ≤ p.mo ∧ p.mo ≤ 64
 und : underF p.ro (firstF p.ob.length) = true
 lens : (p.rg.length : Int) = p.mu ∧ (p.pg.length : Int) = p.mu
 muts : ∀ x ∈ p.rg.zip p.pg, mutF p.ob.length p.sl x = true
 len : p.pk.length ≤ 100000
 picks : ∀ x ∈ p.pk, there x p.wk p.mu = true
theorem pRight_iff {p : Pq} : pRight p = true ↔ PRt p := by
 unfold pRight; simp only [Bool.and_eq_true, decide_eq_true_eq, List.all_eq_true]; exact ⟨fun ⟨a, b, c, d, e, f, g, h⟩ => ⟨a, b, c, d, e, f, g, h⟩, fun ⟨a, b, c, d, e, f, g, h⟩ => ⟨a, b, c, d, e, f, g, h⟩⟩
def joinC (c : UInt8) : List B8 → B8
 | [] => []
 | [p] => p
 | p :: q :: l => p ++ c :: joinC c (q :: l)
def numsT (c : UInt8) (l : List Int) : B8 := joinC c (l.map dec)
def engW : B8 := [101, 110, 103, 105, 110, 101]
def heapW : B8 := [104, 101, 97, 112]
def rootsW : B8 := [114, 111, 111, 116, 115]
def mutW : B8 := [109, 117, 116, 97, 116, 111, 114]
def pickW : B8 := [112, 105, 99, 107, 115]
def lineT (w s : B8) : B8 := w ++ 32 :: s
def mutT (x : List Int × List Oq) : B8 := lineT mutW (numsT 44 x.1 ++ 32 :: cPrint x.2)
def headT (p : Pq) : List B8 := [lineT engW (numsT 32 (pNums p)), lineT heapW (hTextF p.sl p.ob), lineT rootsW (textF p.ro)]
def linesT (p : Pq) : List B8 := headT p ++ ((p.rg.zip p.pg).map mutT ++ [lineT pickW (printL p.pk)])
def fedT (l : List B8) : B8 := l.flatMap (· ++ [10])
def pText (p : Pq) : B8 := if pRight p = true then fedT (linesT p) else []
def afterF (w s : B8) : Option B8 := if (w ++ [32]).isPrefixOf s = true then some (s.drop (w.length + 1)) else none
def listFPl (c : UInt8) (s : B8) : Option (List Int) := if ((cut c s).map numN).all (fun x => decide (0 ≤ x)) = true then some ((cut c s).map numN) else none
def mutP (line : B8) : Except Int (List Int × List Oq) :=
 match afterF mutW line with
 | none => .error 2
 | some s =>
   match cut 32 s with
   | [a, b] =>
     match listFPl 44 a with
     | none => .error 2
     | some l => if (cParse b).2 = 0 then .ok (l, (cParse b).1) else .error (cParse b).2
   | _ => .error 2
def mutsP : List B8 → Except Int (List (List Int × List Oq))
 | [] => .ok []
 | a :: r => match mutP a with
   | .error e => .error e
   | .ok x => match mutsP r with
     | .error e => .error e
     | .ok xs => .ok (x :: xs)
def engP (s : B8) : Option (Int × Int × Int × Int × Int × Int × Int × Int) :=
 match (afterF engW s).bind (listFPl 32) with
 | some [a, b, c, d, e, f, g, h] => some (a, b, c, d, e, f, g, h)
 | _ => none
def restP (n : Nat) (L : List B8) : Except Int (Int × Rws × Nat × List (List Int × List Oq) × List (Int × Int)) :=
 match (afterF heapW (L.getD 1 [])).bind heapF, (afterF rootsW (L.getD 2 [])).bind (fun r => if (parseFSt r).2 = 0 then some (parseFSt r).1 else none) with
 | some (m, ls), some s =>
   match mutsP ((L.drop 3).take n) with
   | .error e => .error e
   | .ok xs =>
     match afterF pickW (L.getD (3 + n) []) with
     | none => .error 2
     | some u => if (parseFPk ⟨u.toArray⟩).2 = 0 then .ok (m, ls, s, xs, (parseFPk ⟨u.toArray⟩).1) else .error (parseFPk ⟨u.toArray⟩).2
 | _, _ => .error 2
def linesP (L : List B8) : Except Int Pq :=
 match engP (L.headD []) with
 | none => .error 2
 | some (a, b, c, d, e, f, g, h) =>
   if (L.length : Int) = b + 5 ∧ L.getLast? = some [] then
    match restP b.toNat L with
    | .error e => .error e
    | .ok (m, ls, s, xs, ps) => .ok ⟨a, b, c, d, e, f, g, h, m, ls, s, xs.map (·.1), xs.map (·.2), ps⟩
   else .error 2
def pParse (t : B8) : Pq × Int :=
 match linesP (cut 10 t) with
 | .ok p => if pRight p = true then (p, 0) else (zeroQ, 1)
 | .error e => (zeroQ, e)
theorem u8_dig (k : Nat) (hk : k < 10) : (UInt8.ofNat (48 + k)).toNat = 48 + k := by rw [UInt8.toNat_ofNat']; omega
theorem valD_snoc (b : UInt8) : ∀ (l : B8) (v : Int), valD v (l ++ [b]) = valD v l * 10 + ((b.toNat : Int) - 48)
 | [], v => rfl
 | a :: l, v => by rw [List.cons_append, valD, valD_snoc b l, valD]
theorem dec_facts : ∀ n : Nat, (Go.Lib.decDigits n).all dgt = true ∧ Go.Lib.decDigits n ≠ [] ∧ valD 0 (Go.Lib.decDigits n) = n := by
 intro n; induction n using Nat.strongRecOn with
 | _ n ih =>
   have hd : ∀ k : Nat, k < 10 → dgt (UInt8.ofNat (48 + k)) = true := fun k hk => by
    unfold dgt; rw [u8_dig k hk, Bool.and_eq_true, decide_eq_true_eq, decide_eq_true_eq]; omega
   by_cases h : n < 10
   · rw [Go.Lib.decDigits_one h]
     refine ⟨by rw [List.all_cons, hd n h]; rfl, by simp, ?_⟩; show (0 : Int) * 10 + (((UInt8.ofNat (48 + n)).toNat : Int) - 48) = _
     rw [u8_dig n h]; omega
   · obtain ⟨h1, h2, h3⟩ := ih (n / 10) (by omega)
     have e : Go.Lib.decDigits n = Go.Lib.decDigits (n / 10) ++ [UInt8.ofNat (48 + n % 10)] := by rw [Go.Lib.decDigits, dif_neg h]
     rw [e]; refine ⟨by rw [List.all_append, h1, List.all_cons, hd (n % 10) (by omega)]; rfl, by simp, ?_⟩; rw [valD_snoc, h3, u8_dig (n % 10) (by omega)]; omega
theorem dec_lenPl : ∀ (k n : Nat), n < 10 ^ k → 0 < k → (Go.Lib.decDigits n).length ≤ k
 | 0, n, _, h => absurd h (by omega)
 | k + 1, n, h, _ => by
   by_cases h10 : n < 10
   · rw [Go.Lib.decDigits_one h10]; simp
   · have e : Go.Lib.decDigits n = Go.Lib.decDigits (n / 10) ++ [UInt8.ofNat (48 + n % 10)] := by rw [Go.Lib.decDigits, dif_neg h10]
     rw [e, List.length_append]; rw [Nat.pow_succ] at h; have hk : 0 < k := by
      rcases k with _ | k
      · simp at h; omega
      · omega
     have := dec_lenPl k (n / 10) (by omega) hk; simp; omega
abbrev Mil (x : Int) : Prop := 0 ≤ x ∧ x ≤ 1000000
theorem dec_num {x : Int} (h : Mil x) : numN (dec x) = x := by
 obtain ⟨n, rfl⟩ : ∃ n : Nat, x = n := ⟨x.toNat, by have := h.1; omega⟩; obtain ⟨h1, h2, h3⟩ := dec_facts n; have hl := dec_lenPl 7 n (by have := h.2; omega) (by decide); have hp := List.length_pos_iff.2 h2; show numN (Go.Lib.decDigits (Int.toNat (n : Int))) = _
 rw [Int.toNat_natCast]; unfold numN; rw [if_neg (by omega), if_pos h1, h3, Int.toNat_natCast, if_neg (by have := h.2; rintro (h | h) <;> first | omega | exact h rfl)]
theorem dgt_lt {b : UInt8} (h : dgt b = true) : 48 ≤ b.toNat ∧ b.toNat ≤ 57 := by
 unfold dgt at h; rw [Bool.and_eq_true, decide_eq_true_eq, decide_eq_true_eq] at h; exact h
theorem numN_dec {l : B8} {x : Int} (h : numN l = x) (h0 : 0 ≤ x) : dec x = l ∧ x ≤ 1000000 := by
 unfold numN at h; split at h
 · omega
 · split at h
   · split at h
     · omega
     · rename_i h2
       subst h; rw [not_or, Classical.not_not] at h2; exact ⟨h2.2, by omega⟩
   · omega
theorem list_back {c : UInt8} {s : B8} {l : List Int} (h : listFPl c s = some l) : l.map dec = cut c s ∧ (∀ x ∈ l, Mil x) ∧ l ≠ [] := by
 unfold listFPl at h; split at h
 · rename_i ha
   rw [List.all_eq_true] at ha; injection h with h; subst h; have hx : ∀ p ∈ cut c s, dec (numN p) = p ∧ Mil (numN p) := fun p hp => by
    have h0 := ha (numN p) (List.mem_map_of_mem hp); rw [decide_eq_true_eq] at h0; have := numN_dec (rfl : numN p = numN p) h0; exact ⟨this.1, h0, this.2⟩
   refine ⟨?_, fun x hx' => ?_, ?_⟩
   · rw [List.map_map]
     have : ∀ p ∈ cut c s, (dec ∘ numN) p = p := fun p hp => (hx p hp).1
     rw [List.map_congr_left this, List.map_id']
   · obtain ⟨p, hp, rfl⟩ := List.mem_map.1 hx'
     exact (hx p hp).2
   · simpa using cut_ne c s
 · cases h
theorem after_nil (w : B8) : afterF w [] = none := by
 unfold afterF; rw [if_neg]; intro h; rw [List.isPrefixOf_iff_prefix] at h; have := List.prefix_nil.1 h; simp at this
theorem all_noPl : ∀ x ∈ cAll, (10 : UInt8) ∉ cText x ∧ (32 : UInt8) ∉ cText x := by decide +kernel
theorem regs_ok {n : Nat} {l : List Int} (h : regsF n l = true) : (∀ x ∈ l, 0 ≤ x ∧ x ≤ (n : Int)) ∧ 1 ≤ l.length ∧ l.length ≤ 4 := by
 unfold regsF at h; rw [Bool.and_eq_true, decide_eq_true_eq, List.all_eq_true] at h; exact ⟨fun x hx => by simpa using h.1 x hx, h.2⟩
theorem right_ob {p : Pq} (h : PRt p) : p.ob.length ≤ 64 := (right_len h.hp).2.2
theorem zip_len {p : Pq} (h : PRt p) : (p.rg.zip p.pg).length = p.mu.toNat := by
 have := h.lens; rw [List.length_zip]; omega
theorem restP_ro {n : Nat} {L : List B8} {m : Int} {ls : Rws} {s : Nat} {xs : List (List Int × List Oq)} {ps : List (Int × Int)} (h : restP n L = .ok (m, ls, s, xs, ps)) : s < 18446744073709551616 := by
 unfold restP at h; split at h
 · rename_i m' ls' s' h1 h2
   split at h
   · cases h
   · split at h
     · cases h
     · split at h
       · injection h with h
         simp only [Prod.mk.injEq] at h; obtain ⟨-, -, rfl, -, -⟩ := h; cases ha : afterF rootsW (L.getD 2 []) with
         | none => rw [ha] at h2; cases h2
         | some r =>
           rw [ha, Option.bind_some] at h2; split at h2
           · injection h2 with h2; subst h2; exact parse_lt _
           · cases h2
       · cases h
 · cases h
theorem parse_ro (t : B8) : (pParse t).1.ro < 18446744073709551616 := by
 unfold pParse; split
 · rename_i p h
   split
   · unfold linesP at h
     split at h
     · cases h
     · split at h
       · split at h
         · cases h
         · rename_i hr
           injection h with h; subst h; exact restP_ro hr
       · cases h
   · show (0 : Nat) < _; omega
 · show (0 : Nat) < _; omega
theorem linesP_first {L : List B8} (h : engP (L.headD []) = none) : linesP L = .error 2 := by unfold linesP; rw [h]
theorem linesP_len {L : List B8} {a b c d e f g k : Int} (h : engP (L.headD []) = some (a, b, c, d, e, f, g, k)) (hl : ¬ ((L.length : Int) = b + 5 ∧ L.getLast? = some [])) : linesP L = .error 2 := by
 unfold linesP; rw [h]; simp only; rw [if_neg hl]
