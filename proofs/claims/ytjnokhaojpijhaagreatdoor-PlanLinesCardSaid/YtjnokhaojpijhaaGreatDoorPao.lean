/- Layer plan: what the chapter asks, as plain functions, and what follows. No program in this text. -/
import Derived.Test.YtjnokhaojpijhaaGreatDoorPaa
import Derived.Test.YtjnokhaojpijhaaGreatDoorPaa
import Derived.Test.YtjnokhaojpijhaaGreatDoorPaa
import Derived.Test.YtjnokhaojpijhaaGreatDoorPan
namespace Go.Proofs.YtjnokhaojpijhaaGreatDoor
structure Pq where
  wk : Int
  mu : Int
  cp : Int
  bf : Int
  bn : Int
  mo : Int
  pr : Int
  li : Int
  sl : Int
  ob : Rws
  ro : Nat
  rg : Rws
  pg : List (List Oq)
  pk : List (Int × Int)
deriving DecidableEq
def zeroQ : Pq := ⟨0, 0, 0, 0, 0, 0, 0, 0, 0, [], 0, [], [], []⟩
def regsF (n : Nat) (l : List Int) : Bool := l.all (fun x => decide (0 ≤ x ∧ x ≤ (n : Int))) && decide (1 ≤ l.length ∧ l.length ≤ 4)
def mutF (n : Nat) (sl : Int) (x : List Int × List Oq) : Bool := regsF n x.1 && cFits x.2 x.1.length sl
def pNums (p : Pq) : List Int := [p.wk, p.mu, p.cp, p.bf, p.bn, p.mo, p.pr, p.li]
def pRng (p : Pq) : Prop := 1 ≤ p.wk ∧ p.wk ≤ 16 ∧ 0 ≤ p.mu ∧ p.mu ≤ 16 ∧ 1 ≤ p.cp ∧ p.cp ≤ 16 ∧ 1 ≤ p.bf ∧ p.bf ≤ 8 ∧ 1 ≤ p.bn ∧ p.bn ≤ 8 ∧ 0 ≤ p.pr ∧ p.pr ≤ 1000000 ∧ 0 ≤ p.li ∧ p.li ≤ 1000000
instance (p : Pq) : Decidable (pRng p) := by unfold pRng; exact inferInstance
def pRight (p : Pq) : Bool :=
  decide (pRng p) && (rightF p.sl p.ob && (decide ((p.ob.length : Int) ≤ p.mo ∧ p.mo ≤ 64) && (underF p.ro (firstF p.ob.length) &&
    (decide ((p.rg.length : Int) = p.mu ∧ (p.pg.length : Int) = p.mu) && ((p.rg.zip p.pg).all (mutF p.ob.length p.sl) &&
      (decide (p.pk.length ≤ 100000) && p.pk.all fun x => there x p.wk p.mu))))))
structure PRt (p : Pq) : Prop where
  rng : pRng p
  hp : rightF p.sl p.ob = true
  most : (p.ob.length : Int) ≤ p.mo ∧ p.mo ≤ 64
  und : underF p.ro (firstF p.ob.length) = true
  lens : (p.rg.length : Int) = p.mu ∧ (p.pg.length : Int) = p.mu
  muts : ∀ x ∈ p.rg.zip p.pg, mutF p.ob.length p.sl x = true
  len : p.pk.length ≤ 100000
  picks : ∀ x ∈ p.pk, there x p.wk p.mu = true
theorem pRight_iff {p : Pq} : pRight p = true ↔ PRt p := by
  unfold pRight
  simp only [Bool.and_eq_true, decide_eq_true_eq, List.all_eq_true]
  exact ⟨fun ⟨a, b, c, d, e, f, g, h⟩ => ⟨a, b, c, d, e, f, g, h⟩, fun ⟨a, b, c, d, e, f, g, h⟩ => ⟨a, b, c, d, e, f, g, h⟩⟩
def pBins (p : Pq) : Int := p.mo + p.wk + p.mu
def pGreys (p : Pq) : Nat := p.rg.foldl (fun s l => s ||| ofF l) p.ro
def joinC (c : UInt8) : List B8 → B8
  | [] => []
  | [p] => p
  | p :: q :: l => p ++ c :: joinC c (q :: l)
def numsT (c : UInt8) (l : List Int) : B8 := joinC c (l.map dec)
def engW : B8 := [101, 110, 103, 105, 110, 101]
def heapW : B8 := [104, 101, 97, 112]
def rootsW : B8 := [114, 111, 111, 116, 115]
def mutW : B8 := [109, 117, 116, 97, 116, 111, 114]
def pickW : B8 := [112, 105, 99, 107, 115]
def lineT (w s : B8) : B8 := w ++ 32 :: s
def mutT (x : List Int × List Oq) : B8 := lineT mutW (numsT 44 x.1 ++ 32 :: cPrint x.2)
def headT (p : Pq) : List B8 := [lineT engW (numsT 32 (pNums p)), lineT heapW (hTextF p.sl p.ob), lineT rootsW (textF p.ro)]
def linesT (p : Pq) : List B8 := headT p ++ ((p.rg.zip p.pg).map mutT ++ [lineT pickW (printL p.pk)])
def fedT (l : List B8) : B8 := l.flatMap (· ++ [10])
def pText (p : Pq) : B8 := if pRight p = true then fedT (linesT p) else []
def afterF (w s : B8) : Option B8 := if (w ++ [32]).isPrefixOf s = true then some (s.drop (w.length + 1)) else none
def listFPl (c : UInt8) (s : B8) : Option (List Int) := if ((cut c s).map numN).all (fun x => decide (0 ≤ x)) = true then some ((cut c s).map numN) else none
def mutP (line : B8) : Except Int (List Int × List Oq) :=
  match afterF mutW line with
  | none => .error 2
  | some s =>
    match cut 32 s with
    | [a, b] =>
      match listFPl 44 a with
      | none => .error 2
      | some l => if (cParse b).2 = 0 then .ok (l, (cParse b).1) else .error (cParse b).2
    | _ => .error 2
def mutsP : List B8 → Except Int (List (List Int × List Oq))
  | [] => .ok []
  | a :: r => match mutP a with
    | .error e => .error e
    | .ok x => match mutsP r with
      | .error e => .error e
      | .ok xs => .ok (x :: xs)
def engP (s : B8) : Option (Int × Int × Int × Int × Int × Int × Int × Int) :=
  match (afterF engW s).bind (listFPl 32) with
  | some [a, b, c, d, e, f, g, h] => some (a, b, c, d, e, f, g, h)
  | _ => none
def restP (n : Nat) (L : List B8) : Except Int (Int × Rws × Nat × List (List Int × List Oq) × List (Int × Int)) :=
  match (afterF heapW (L.getD 1 [])).bind heapF, (afterF rootsW (L.getD 2 [])).bind (fun r => if (parseFSt r).2 = 0 then some (parseFSt r).1 else none) with
  | some (m, ls), some s =>
    match mutsP ((L.drop 3).take n) with
    | .error e => .error e
    | .ok xs =>
      match afterF pickW (L.getD (3 + n) []) with
      | none => .error 2
      | some u => if (parseFPk ⟨u.toArray⟩).2 = 0 then .ok (m, ls, s, xs, (parseFPk ⟨u.toArray⟩).1) else .error (parseFPk ⟨u.toArray⟩).2
  | _, _ => .error 2
def linesP (L : List B8) : Except Int Pq :=
  match engP (L.headD []) with
  | none => .error 2
  | some (a, b, c, d, e, f, g, h) =>
    if (L.length : Int) = b + 5 ∧ L.getLast? = some [] then
      match restP b.toNat L with
      | .error e => .error e
      | .ok (m, ls, s, xs, ps) => .ok ⟨a, b, c, d, e, f, g, h, m, ls, s, xs.map (·.1), xs.map (·.2), ps⟩
    else .error 2
def pParse (t : B8) : Pq × Int :=
  match linesP (cut 10 t) with
  | .ok p => if pRight p = true then (p, 0) else (zeroQ, 1)
  | .error e => (zeroQ, e)
theorem u8_dig (k : Nat) (hk : k < 10) : (UInt8.ofNat (48 + k)).toNat = 48 + k := by rw [UInt8.toNat_ofNat']; omega
theorem valD_snoc (b : UInt8) : ∀ (l : B8) (v : Int), valD v (l ++ [b]) = valD v l * 10 + ((b.toNat : Int) - 48)
  | [], v => rfl
  | a :: l, v => by rw [List.cons_append, valD, valD_snoc b l, valD]
theorem dec_facts : ∀ n : Nat, (Go.Lib.decDigits n).all dgt = true ∧ Go.Lib.decDigits n ≠ [] ∧ valD 0 (Go.Lib.decDigits n) = n := by
  intro n
  induction n using Nat.strongRecOn with
  | _ n ih =>
    have hd : ∀ k : Nat, k < 10 → dgt (UInt8.ofNat (48 + k)) = true := fun k hk => by
      unfold dgt; rw [u8_dig k hk, Bool.and_eq_true, decide_eq_true_eq, decide_eq_true_eq]; omega
    by_cases h : n < 10
    · rw [Go.Lib.decDigits_one h]
      refine ⟨by rw [List.all_cons, hd n h]; rfl, by simp, ?_⟩
      show (0 : Int) * 10 + (((UInt8.ofNat (48 + n)).toNat : Int) - 48) = _
      rw [u8_dig n h]; omega
    · obtain ⟨h1, h2, h3⟩ := ih (n / 10) (by omega)
      have e : Go.Lib.decDigits n = Go.Lib.decDigits (n / 10) ++ [UInt8.ofNat (48 + n % 10)] := by rw [Go.Lib.decDigits, dif_neg h]
      rw [e]
      refine ⟨by rw [List.all_append, h1, List.all_cons, hd (n % 10) (by omega)]; rfl, by simp, ?_⟩
      rw [valD_snoc, h3, u8_dig (n % 10) (by omega)]; omega
theorem dec_lenPl : ∀ (k n : Nat), n < 10 ^ k → 0 < k → (Go.Lib.decDigits n).length ≤ k
  | 0, n, _, h => absurd h (by omega)
  | k + 1, n, h, _ => by
    by_cases h10 : n < 10
    · rw [Go.Lib.decDigits_one h10]; simp
    · have e : Go.Lib.decDigits n = Go.Lib.decDigits (n / 10) ++ [UInt8.ofNat (48 + n % 10)] := by rw [Go.Lib.decDigits, dif_neg h10]
      rw [e, List.length_append]
      rw [Nat.pow_succ] at h
      have hk : 0 < k := by
        rcases k with _ | k
        · simp at h; omega
        · omega
      have := dec_lenPl k (n / 10) (by omega) hk
      simp; omega
/-- a number of a plan's text -/
abbrev Mil (x : Int) : Prop := 0 ≤ x ∧ x ≤ 1000000
theorem dec_num {x : Int} (h : Mil x) : numN (dec x) = x := by
  obtain ⟨n, rfl⟩ : ∃ n : Nat, x = n := ⟨x.toNat, by have := h.1; omega⟩
  obtain ⟨h1, h2, h3⟩ := dec_facts n
  have hl := dec_lenPl 7 n (by have := h.2; omega) (by decide)
  have hp := List.length_pos_iff.2 h2
  show numN (Go.Lib.decDigits (Int.toNat (n : Int))) = _
  rw [Int.toNat_natCast]
  unfold numN
  rw [if_neg (by omega), if_pos h1, h3, Int.toNat_natCast, if_neg (by have := h.2; rintro (h | h) <;> first | omega | exact h rfl)]
theorem dgt_lt {b : UInt8} (h : dgt b = true) : 48 ≤ b.toNat ∧ b.toNat ≤ 57 := by
  unfold dgt at h; rw [Bool.and_eq_true, decide_eq_true_eq, decide_eq_true_eq] at h; exact h
theorem dec_no {x : Int} {c : UInt8} (hc : dgt c = false) : c ∉ dec x := fun h => by
  have := List.all_eq_true.1 (dec_facts x.toNat).1 c h
  rw [hc] at this; cases this
theorem numN_dec {l : B8} {x : Int} (h : numN l = x) (h0 : 0 ≤ x) : dec x = l ∧ x ≤ 1000000 := by
  unfold numN at h
  split at h
  · omega
  · split at h
    · split at h
      · omega
      · rename_i h2
        subst h
        rw [not_or, Classical.not_not] at h2
        exact ⟨h2.2, by omega⟩
    · omega
theorem cut_joinC (c : UInt8) : ∀ (l : List B8), l ≠ [] → (∀ p ∈ l, c ∉ p) → cut c (joinC c l) = l
  | [], h, _ => absurd rfl h
  | [p], _, h => by rw [joinC, cut_all _ _ (h p (by simp))]
  | p :: q :: l, _, h => by
    rw [joinC, cut_pre _ _ _ (h p (by simp)), cut_joinC c (q :: l) (by simp) fun x hx => h x (by simp [hx])]
theorem joinC_no {c d : UInt8} (hd : d ≠ c) : ∀ (l : List B8), (∀ p ∈ l, d ∉ p) → d ∉ joinC c l
  | [], _ => by simp [joinC]
  | [p], h => by rw [joinC]; exact h p (by simp)
  | p :: q :: l, h => by
    rw [joinC, List.mem_append, List.mem_cons]
    rintro (h1 | h1 | h1)
    · exact h p (by simp) h1
    · exact hd h1
    · exact joinC_no hd (q :: l) (fun x hx => h x (by simp [hx])) h1
theorem nums_no {c d : UInt8} (hd : d ≠ c) (h : dgt d = false) (l : List Int) : d ∉ numsT c l :=
  joinC_no hd _ fun p hp => by obtain ⟨x, _, rfl⟩ := List.mem_map.1 hp; exact dec_no h
theorem list_nums {c : UInt8} (hc : dgt c = false) {l : List Int} (hn : l ≠ []) (h : ∀ x ∈ l, Mil x) : listFPl c (numsT c l) = some l := by
  have e : cut c (numsT c l) = l.map dec := cut_joinC c _ (by simpa using hn) fun p hp => by obtain ⟨x, _, rfl⟩ := List.mem_map.1 hp; exact dec_no hc
  have e2 : (l.map dec).map numN = l := by
    rw [List.map_map]
    have : ∀ x ∈ l, (numN ∘ dec) x = x := fun x hx => dec_num (h x hx)
    rw [List.map_congr_left this, List.map_id']
  unfold listFPl
  rw [e, e2, if_pos]
  rw [List.all_eq_true]
  exact fun x hx => by rw [decide_eq_true_eq]; exact (h x hx).1
theorem list_back {c : UInt8} {s : B8} {l : List Int} (h : listFPl c s = some l) : l.map dec = cut c s ∧ (∀ x ∈ l, Mil x) ∧ l ≠ [] := by
  unfold listFPl at h
  split at h
  · rename_i ha
    rw [List.all_eq_true] at ha
    injection h with h
    subst h
    have hx : ∀ p ∈ cut c s, dec (numN p) = p ∧ Mil (numN p) := fun p hp => by
      have h0 := ha (numN p) (List.mem_map_of_mem hp)
      rw [decide_eq_true_eq] at h0
      have := numN_dec (rfl : numN p = numN p) h0
      exact ⟨this.1, h0, this.2⟩
    refine ⟨?_, fun x hx' => ?_, ?_⟩
    · rw [List.map_map]
      have : ∀ p ∈ cut c s, (dec ∘ numN) p = p := fun p hp => (hx p hp).1
      rw [List.map_congr_left this, List.map_id']
    · obtain ⟨p, hp, rfl⟩ := List.mem_map.1 hx'
      exact (hx p hp).2
    · simpa using cut_ne c s
  · cases h
theorem cut_fed : ∀ (l : List B8), (∀ p ∈ l, (10 : UInt8) ∉ p) → cut 10 (fedT l) = l ++ [[]]
  | [], _ => rfl
  | p :: l, h => by
    show cut 10 (p ++ [10] ++ fedT l) = _
    rw [List.append_assoc, List.singleton_append, cut_pre _ _ _ (h p (by simp)), cut_fed l fun x hx => h x (by simp [hx])]; rfl
theorem after_line (w s : B8) : afterF w (lineT w s) = some s := by
  have e : lineT w s = (w ++ [32]) ++ s := by simp [lineT]
  unfold afterF
  rw [e, if_pos (by rw [List.isPrefixOf_iff_prefix]; exact ⟨s, rfl⟩), List.drop_left' (by simp)]
theorem after_nil (w : B8) : afterF w [] = none := by
  unfold afterF
  rw [if_neg]
  intro h
  rw [List.isPrefixOf_iff_prefix] at h
  have := List.prefix_nil.1 h
  simp at this
theorem joinS_joinC : ∀ l : List B8, joinS l = joinC 59 l
  | [] => rfl
  | [_] => rfl
  | p :: q :: l => by rw [joinS, joinC, joinS_joinC (q :: l)]
theorem all_noPl : ∀ x ∈ cAll, (10 : UInt8) ∉ cText x ∧ (32 : UInt8) ∉ cText x := by decide +kernel
theorem print_no {l : List Oq} (hr : ∀ o ∈ l, cRight o 4 4 = true) : (10 : UInt8) ∉ cPrint l ∧ (32 : UInt8) ∉ cPrint l := by
  unfold cPrint
  split
  · decide
  · rw [joinS_joinC]
    constructor
    · exact joinC_no (by decide) _ fun p hp => by obtain ⟨o, ho, rfl⟩ := List.mem_map.1 hp; exact (all_noPl o (mem_all.2 (hr o ho))).1
    · exact joinC_no (by decide) _ fun p hp => by obtain ⟨o, ho, rfl⟩ := List.mem_map.1 hp; exact (all_noPl o (mem_all.2 (hr o ho))).2
theorem slotsT_no {d : UInt8} (h : dgt d = false) (h1 : d ≠ 124) (h2 : d ≠ 44) : ∀ (r : List Int) (s : Nat), d ∉ slotsT s r
  | [], s => by simp [slotsT]
  | v :: r, s => by
    rw [slotsT, List.cons_append, List.mem_cons, List.mem_append]
    rintro (h3 | h3 | h3)
    · unfold aheadF at h3; split at h3 <;> contradiction
    · exact dec_no h h3
    · exact slotsT_no h h1 h2 r (s + 1) h3
theorem heap_no {n : Int} {ls : Rws} (h : rightF n ls = true) : (10 : UInt8) ∉ hTextF n ls := by
  unfold hTextF
  rw [if_pos h, List.mem_append]
  rintro (h1 | h1)
  · exact dec_no (by decide) h1
  · obtain ⟨r, _, hr⟩ := List.mem_flatMap.1 h1
    exact slotsT_no (by decide) (by decide) (by decide) r 0 hr
theorem dig_no : ∀ o : Int, 1 ≤ o ∧ o ≤ 64 → (10 : UInt8) ∉ dig o := by
  intro o h
  have : ∀ n : Fin 65, (10 : UInt8) ∉ dig (n.val : Int) := by decide +kernel
  have := this ⟨o.toNat, by omega⟩
  rwa [show ((o.toNat : Nat) : Int) = o by omega] at this
theorem roots_no (s : Nat) : (10 : UInt8) ∉ textF s := by
  unfold textF
  split
  · decide
  · cases ho : objs s with
    | nil => simp [textL]
    | cons o l =>
      have hr : ∀ x ∈ objs s, 1 ≤ x ∧ x ≤ 64 := fun x hx => objs_rng hx
      rw [ho] at hr
      rw [textL_cons, List.mem_append]
      rintro (h | h)
      · exact dig_no o (hr o (by simp)) h
      · obtain ⟨x, hx, h2⟩ := List.mem_flatMap.1 h
        rw [List.mem_cons] at h2
        rcases h2 with h2 | h2
        · revert h2; decide
        · exact dig_no x (hr x (by simp [hx])) h2
theorem pick_no {p : Int × Int} (h : right p = true) : (10 : UInt8) ∉ textP p := by
  by_cases h1 : p.1 = 2
  · obtain ⟨e, h2, h3, _⟩ := text_2 h h1
    rw [e]
    simp only [List.mem_cons, List.not_mem_nil, or_false, not_or]
    constructor
    · intro hx
      have := congrArg UInt8.toNat hx
      rw [u8_nat (by omega) (by omega)] at this
      have h10 : (10 : UInt8).toNat = 10 := rfl
      omega
    · intro hx
      have := congrArg UInt8.toNat hx
      rw [u8_nat (by omega) (by omega)] at this
      have h10 : (10 : UInt8).toNat = 10 := rfl
      omega
  · obtain ⟨e, h2, _⟩ := text_1 h h1
    rw [e, List.mem_singleton]
    intro hx
    have := congrArg UInt8.toNat hx
    rw [u8_nat (by omega) (by omega)] at this
    have h10 : (10 : UInt8).toNat = 10 := rfl
    omega
theorem there_right {p : Int × Int} {n m : Int} (h : there p n m = true) : right p = true := by
  unfold there at h; rw [Bool.and_eq_true, Bool.and_eq_true] at h; exact h.1.1
theorem picks_no {l : List (Int × Int)} (h : ∀ p ∈ l, right p = true) : (10 : UInt8) ∉ printL l := by
  unfold printL
  intro hx
  obtain ⟨p, hp, h2⟩ := List.mem_flatMap.1 hx
  exact pick_no (h p hp) h2
theorem line_no {w s : B8} (hw : (10 : UInt8) ∉ w) (hs : (10 : UInt8) ∉ s) : (10 : UInt8) ∉ lineT w s := by
  unfold lineT
  rw [List.mem_append, List.mem_cons]
  rintro (h | h | h)
  · exact hw h
  · revert h; decide
  · exact hs h
theorem right_44 {o : Oq} {a b : Int} (h : cRight o a b = true) : cRight o 4 4 = true := by
  unfold cRight at h ⊢
  rw [Bool.and_eq_true, decide_eq_true_eq] at h ⊢
  obtain ⟨h1, h2⟩ := h
  refine ⟨by omega, ?_⟩
  split
  · rename_i hk; rw [if_pos hk, decide_eq_true_eq] at h2; rw [decide_eq_true_eq]; omega
  · rename_i hk
    rw [if_neg hk] at h2
    split
    · rename_i hk2; rw [if_pos hk2] at h2; exact h2
    · rename_i hk2
      rw [if_neg hk2] at h2
      split
      · rename_i hk3; rw [if_pos hk3, decide_eq_true_eq] at h2; rw [decide_eq_true_eq]; omega
      · rename_i hk3; rw [if_neg hk3] at h2; exact h2
theorem fits_all {l : List Oq} {a b : Int} (h : cFits l a b = true) : (∀ o ∈ l, cRight o 4 4 = true) ∧ l.length ≤ 64 := by
  unfold cFits at h
  rw [Bool.and_eq_true, decide_eq_true_eq, List.all_eq_true] at h
  exact ⟨fun o ho => right_44 (h.1 o ho), h.2⟩
theorem regs_ok {n : Nat} {l : List Int} (h : regsF n l = true) : (∀ x ∈ l, 0 ≤ x ∧ x ≤ (n : Int)) ∧ 1 ≤ l.length ∧ l.length ≤ 4 := by
  unfold regsF at h
  rw [Bool.and_eq_true, decide_eq_true_eq, List.all_eq_true] at h
  exact ⟨fun x hx => by simpa using h.1 x hx, h.2⟩
theorem mut_text {n : Nat} (hn : n ≤ 64) {sl : Int} {x : List Int × List Oq} (h : mutF n sl x = true) : mutP (mutT x) = .ok x ∧ (10 : UInt8) ∉ mutT x := by
  unfold mutF at h
  rw [Bool.and_eq_true] at h
  obtain ⟨h1, h2, h3⟩ := regs_ok h.1
  obtain ⟨g1, g2⟩ := fits_all h.2
  have hl : x.1 ≠ [] := by rw [← List.length_pos_iff]; omega
  have p1 : (32 : UInt8) ∉ numsT 44 x.1 := nums_no (by decide) (by decide) _
  have p2 := print_no g1
  constructor
  · unfold mutP mutT
    rw [after_line]
    simp only
    rw [cut_pre _ _ _ p1, cut_all _ _ p2.2]
    simp only
    rw [list_nums (by decide) hl fun v hv => ⟨(h1 v hv).1, by have := (h1 v hv).2; omega⟩]
    simp only
    rw [parse_printCd g1, if_neg (show ¬ 64 < x.2.length by omega)]
    simp
  · refine line_no (by decide) ?_
    rw [List.mem_append, List.mem_cons]
    rintro (h | h | h)
    · exact nums_no (by decide) (by decide) _ h
    · revert h; decide
    · exact p2.1 h
theorem muts_text {n : Nat} (hn : n ≤ 64) {sl : Int} : ∀ {l : List (List Int × List Oq)}, (∀ x ∈ l, mutF n sl x = true) → mutsP (l.map mutT) = .ok l
  | [], _ => rfl
  | x :: l, h => by
    rw [List.map_cons, mutsP, (mut_text hn (h x (by simp))).1]
    simp only
    rw [muts_text hn fun y hy => h y (by simp [hy])]
theorem eng_text {p : Pq} (h : PRt p) : engP (lineT engW (numsT 32 (pNums p))) = some (p.wk, p.mu, p.cp, p.bf, p.bn, p.mo, p.pr, p.li) := by
  have hm := h.most
  obtain ⟨r1, r2, r3, r4, r5, r6, r7, r8, r9, r10, r11, r12, r13, r14⟩ := h.rng
  unfold engP
  rw [after_line, Option.bind_some, list_nums (by decide) (by simp [pNums])]
  · rfl
  · intro x hx
    simp only [pNums, List.mem_cons, List.not_mem_nil, or_false] at hx
    unfold Mil
    rcases hx with rfl | rfl | rfl | rfl | rfl | rfl | rfl | rfl <;> omega
theorem right_ob {p : Pq} (h : PRt p) : p.ob.length ≤ 64 := (right_len h.hp).2.2
theorem lines_no {p : Pq} (h : PRt p) : ∀ s ∈ linesT p, (10 : UInt8) ∉ s := by
  intro s hs
  unfold linesT headT at hs
  rw [List.mem_append, List.mem_append, List.mem_cons, List.mem_cons, List.mem_singleton, List.mem_singleton] at hs
  rcases hs with (rfl | rfl | rfl) | hs | rfl
  · exact line_no (by decide) (nums_no (by decide) (by decide) _)
  · exact line_no (by decide) (heap_no h.hp)
  · exact line_no (by decide) (roots_no _)
  · obtain ⟨x, hx, rfl⟩ := List.mem_map.1 hs
    exact (mut_text (right_ob h) (h.muts x hx)).2
  · exact line_no (by decide) (picks_no fun x hx => there_right (h.picks x hx))
theorem zip_len {p : Pq} (h : PRt p) : (p.rg.zip p.pg).length = p.mu.toNat := by
  have := h.lens; rw [List.length_zip]; omega
theorem lines_len {p : Pq} (h : PRt p) : ((linesT p).length : Int) = p.mu + 4 := by
  have := zip_len h
  have h2 := h.rng.2.2.1
  unfold linesT headT
  rw [List.length_append, List.length_append, List.length_map, this]
  simp; omega
theorem rest_text {p : Pq} (h : PRt p) (hs : p.ro < 18446744073709551616) : restP p.mu.toNat (linesT p ++ [[]]) = .ok (p.sl, p.ob, p.ro, p.rg.zip p.pg, p.pk) := by
  have hz := zip_len h
  have e1 : (linesT p ++ [[]]).getD 1 [] = lineT heapW (hTextF p.sl p.ob) := rfl
  have e2 : (linesT p ++ [[]]).getD 2 [] = lineT rootsW (textF p.ro) := rfl
  have e3 : ((linesT p ++ [[]]).drop 3).take p.mu.toNat = (p.rg.zip p.pg).map mutT := by
    show (((p.rg.zip p.pg).map mutT ++ [lineT pickW (printL p.pk)]) ++ [[]]).take p.mu.toNat = _
    rw [List.append_assoc]
    exact List.take_left' (by rw [List.length_map, hz])
  have e4 : (linesT p ++ [[]]).getD (3 + p.mu.toNat) [] = lineT pickW (printL p.pk) := by
    have hl : (headT p ++ (p.rg.zip p.pg).map mutT).length = 3 + p.mu.toNat := by
      rw [List.length_append, List.length_map, hz]; rfl
    have e5 : linesT p ++ [[]] = (headT p ++ (p.rg.zip p.pg).map mutT) ++ [lineT pickW (printL p.pk), []] := by simp [linesT]
    rw [e5, List.getD_eq_getElem?_getD, List.getElem?_append_right (by omega), hl, Nat.sub_self]
    rfl
  unfold restP
  rw [e1, e2, e3, e4, after_line, after_line, after_line, Option.bind_some, Option.bind_some, heapF_of h.hp, parse_textSt hs]
  simp only
  rw [muts_text (right_ob h) h.muts]
  simp only
  rw [parse_printPk _ (fun x hx => there_right (h.picks x hx)) h.len]
  simp
theorem map_zip {α β : Type} : ∀ {a : List α} {b : List β}, a.length = b.length → (a.zip b).map (·.1) = a ∧ (a.zip b).map (·.2) = b
  | [], [], _ => ⟨rfl, rfl⟩
  | [], _ :: _, h => by cases h
  | _ :: _, [], h => by cases h
  | x :: a, y :: b, h => by
    have := map_zip (a := a) (b := b) (by simpa using h)
    simp [this.1, this.2]
theorem lines_read {p : Pq} (h : PRt p) (hs : p.ro < 18446744073709551616) : linesP (linesT p ++ [[]]) = .ok p := by
  have hl := lines_len h
  unfold linesP
  have e0 : (linesT p ++ [[]]).headD [] = lineT engW (numsT 32 (pNums p)) := rfl
  rw [e0, eng_text h]
  simp only
  rw [if_pos ⟨by rw [List.length_append]; simp; omega, by simp⟩, rest_text h hs]
  simp only
  obtain ⟨z1, z2⟩ := map_zip (a := p.rg) (b := p.pg) (by have := h.lens; omega)
  rw [z1, z2]
/-- what is shown of a right plan is read as it -/
theorem plan_back {p : Pq} (h : pRight p = true) (hs : p.ro < 18446744073709551616) : pParse (pText p) = (p, 0) := by
  have h' := pRight_iff.1 h
  unfold pParse pText
  rw [if_pos h, cut_fed _ (lines_no h'), lines_read h' hs]
  simp only
  rw [if_pos h]
theorem restP_ro {n : Nat} {L : List B8} {m : Int} {ls : Rws} {s : Nat} {xs : List (List Int × List Oq)} {ps : List (Int × Int)} (h : restP n L = .ok (m, ls, s, xs, ps)) : s < 18446744073709551616 := by
  unfold restP at h
  split at h
  · rename_i m' ls' s' h1 h2
    split at h
    · cases h
    · split at h
      · cases h
      · split at h
        · injection h with h
          simp only [Prod.mk.injEq] at h
          obtain ⟨-, -, rfl, -, -⟩ := h
          cases ha : afterF rootsW (L.getD 2 []) with
          | none => rw [ha] at h2; cases h2
          | some r =>
            rw [ha, Option.bind_some] at h2
            split at h2
            · injection h2 with h2; subst h2; exact parse_lt _
            · cases h2
        · cases h
  · cases h
/-- two right ones are shown alike just if they are -/
theorem pText_inj {p q : Pq} (hp : pRight p = true) (hq : pRight q = true) (sp : p.ro < 18446744073709551616) (sq : q.ro < 18446744073709551616) : pText p = pText q ↔ p = q := by
  constructor
  · intro h
    have h1 := plan_back hp sp
    rw [h, plan_back hq sq] at h1
    exact (congrArg Prod.fst h1).symm
  · intro h; rw [h]
theorem eng_other {w s : B8} (hw : (engW ++ [32]).isPrefixOf (w ++ 32 :: s) = false) : engP (lineT w s) = none := by
  unfold engP afterF lineT
  rw [hw]; rfl
theorem linesP_first {L : List B8} (h : engP (L.headD []) = none) : linesP L = .error 2 := by unfold linesP; rw [h]
theorem linesP_len {L : List B8} {a b c d e f g k : Int} (h : engP (L.headD []) = some (a, b, c, d, e, f, g, k)) (hl : ¬ ((L.length : Int) = b + 5 ∧ L.getLast? = some [])) : linesP L = .error 2 := by
  unfold linesP; rw [h]; simp only; rw [if_neg hl]
theorem pParse_2 {t : B8} (h : linesP (cut 10 t) = .error 2) : pParse t = (zeroQ, 2) := by unfold pParse; rw [h]
end Go.Proofs.YtjnokhaojpijhaaGreatDoor
