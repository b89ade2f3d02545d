import Derived.Test.YtjbaiibbgplljaaGreatDoorPan
import Derived.Test.YtjbaiibbgplljaaGreatDoorPah
namespace Go.Proofs.YtjbaiibbgplljaaGreatDoor
def inP (n a b : Int) : Bool := decide (a ≤ n ∧ n ≤ b)
theorem regs_take {n : Nat} {l : List Int} {i : Nat} (h : i < l.length) (ha : (l.take i).all (fun x => decide (0 ≤ x ∧ x ≤ (n : Int))) = true) : (l.take (i + 1)).all (fun x => decide (0 ≤ x ∧ x ≤ (n : Int))) = inP l[i] 0 n := by
 rw [List.take_succ_eq_append_getElem h, List.all_append, ha, Bool.true_and, List.all_cons, List.all_nil, Bool.and_true]; rfl
theorem regs_stop {n : Nat} {l : List Int} {i : Nat} (h : i < l.length) (hx : inP l[i] 0 n = false) : regsF n l = false := by
 unfold regsF; rw [Bool.and_eq_false_iff]; left
 rw [Bool.eq_false_iff]; intro e; have := List.all_eq_true.1 e l[i] (List.getElem_mem h); unfold inP at hx; rw [hx] at this; cases this
theorem regs_end {n : Nat} {l : List Int} (ha : l.all (fun x => decide (0 ≤ x ∧ x ≤ (n : Int))) = true) : regsF n l = inP l.length 1 4 := by
 unfold regsF inP; rw [ha, Bool.true_and]; congr 1
 rw [eq_iff_iff]; omega
def numsBPl (p : Pq) : Bool := inP p.wk 1 16 && (inP p.mu 0 16 && (inP p.cp 1 16 && (inP p.bf 1 8 && (inP p.bn 1 8 && (inP p.pr 0 1000000 && inP p.li 0 1000000)))))
def heapB (p : Pq) : Bool := rightF p.sl p.ob && (inP p.mo p.ob.length 64 && underF p.ro (firstF p.ob.length))
def mutsB (p : Pq) : Bool := decide ((p.rg.length : Int) = p.mu ∧ (p.pg.length : Int) = p.mu) && (p.rg.zip p.pg).all (mutF p.ob.length p.sl)
def picksB (p : Pq) : Bool := decide (p.pk.length ≤ 100000) && p.pk.all fun x => there x p.wk p.mu
theorem nums_iff {p : Pq} : numsBPl p = true ↔ pRng p := by
 unfold numsBPl inP pRng; simp only [Bool.and_eq_true, decide_eq_true_eq]; omega
theorem pRight_four (p : Pq) : pRight p = (numsBPl p && (heapB p && (mutsB p && picksB p))) := by
 rw [Bool.eq_iff_iff, pRight_iff]; simp only [Bool.and_eq_true, nums_iff, heapB, mutsB, picksB, inP, decide_eq_true_eq, List.all_eq_true]; exact ⟨fun h => ⟨h.rng, ⟨h.hp, h.most, h.und⟩, ⟨h.lens, h.muts⟩, h.len, h.picks⟩, fun ⟨a, ⟨b, c, d⟩, ⟨e, f⟩, g, h⟩ => ⟨a, b, c, d, e, f, g, h⟩⟩
theorem zip_at {α β : Type} {a : List α} {b : List β} {i : Nat} (h : i < a.length) (h2 : i < b.length) : (a.zip b)[i]'(by rw [List.length_zip]; omega) = (a[i], b[i]) := List.getElem_zip
theorem muts_take {n : Nat} {sl : Int} {a : Rws} {b : List (List Oq)} {i : Nat} (h : i < a.length) (h2 : i < b.length) (ha : ((a.zip b).take i).all (mutF n sl) = true) (hx : mutF n sl (a[i], b[i]) = true) : ((a.zip b).take (i + 1)).all (mutF n sl) = true := by
 rw [List.take_succ_eq_append_getElem (by rw [List.length_zip]; omega), List.all_append, ha, zip_at h h2]; simp [hx]
theorem muts_stop {n : Nat} {sl : Int} {a : Rws} {b : List (List Oq)} {i : Nat} (h : i < a.length) (h2 : i < b.length) (hx : mutF n sl (a[i], b[i]) = false) : (a.zip b).all (mutF n sl) = false := by
 rw [Bool.eq_false_iff]; intro e; have := List.all_eq_true.1 e _ (List.getElem_mem (l := a.zip b) (n := i) (by rw [List.length_zip]; omega)); rw [zip_at h h2, hx] at this; cases this
theorem muts_end {n : Nat} {sl : Int} {a : Rws} {b : List (List Oq)} (hl : a.length = b.length) (ha : ((a.zip b).take a.length).all (mutF n sl) = true) : (a.zip b).all (mutF n sl) = true := by
 rwa [List.take_of_length_le (by rw [List.length_zip]; omega)] at ha
open Go.Lib (atoiAll)
def sepC (c : UInt8) : B8 → B8 × B8
 | [] => ([], [])
 | b :: t => if b = c then ([], t) else (b :: (sepC c t).1, (sepC c t).2)
theorem sepC_none {c : UInt8} : ∀ {t : B8}, c ∉ t → sepC c t = (t, [])
 | [], _ => rfl
 | b :: t, h => by
   have hb : b ≠ c := fun e => h (by simp [e])
   rw [sepC, if_neg hb, sepC_none fun hm => h (List.mem_cons_of_mem _ hm)]
theorem sepC_some {c : UInt8} : ∀ {p r : B8}, c ∉ p → sepC c (p ++ c :: r) = (p, r)
 | [], _, _ => by simp [sepC]
 | b :: p, r, h => by
   have hb : b ≠ c := fun e => h (by simp [e])
   rw [List.cons_append, sepC, if_neg hb, sepC_some fun hm => h (List.mem_cons_of_mem _ hm)]
theorem split_at {c : UInt8} : ∀ {t : B8}, c ∈ t → ∃ p r, t = p ++ c :: r ∧ c ∉ p
 | [], h => by cases h
 | b :: t, h => by
   by_cases hb : b = c
   · subst hb; exact ⟨[], t, rfl, by simp⟩
   · obtain ⟨p, r, rfl, hp⟩ := split_at (t := t) (by rcases List.mem_cons.1 h with h | h; exact absurd h.symm hb; exact h)
     refine ⟨b :: p, r, rfl, fun hm => ?_⟩; rcases List.mem_cons.1 hm with h | h
     · exact hb h.symm
     · exact hp h
theorem cut_one {c : UInt8} {t : B8} (h : c ∉ t) : cut c t = [t] := cut_all _ _ h
theorem cut_memPl {c d : UInt8} (hd : d ≠ c) : ∀ {t : B8}, d ∈ t → ∃ p ∈ cut c t, d ∈ p
 | [], h => by cases h
 | b :: t, h => by
   rw [cut]; by_cases hb : b = c
   · rw [if_pos hb]
     have hm : d ∈ t := by rcases List.mem_cons.1 h with h | h; exact absurd (h.trans hb) hd; exact h
     obtain ⟨p, hp, hdp⟩ := cut_memPl hd hm; exact ⟨p, List.mem_cons_of_mem _ hp, hdp⟩
   · rw [if_neg hb]
     cases hc : cut c t with
     | nil => exact absurd hc (cut_ne c t)
     | cons p r =>
       simp only
       rcases List.mem_cons.1 h with h | h
       · exact ⟨b :: p, by simp, by simp [h]⟩
       · obtain ⟨q, hq, hdq⟩ := cut_memPl hd h
         rw [hc] at hq; rcases List.mem_cons.1 hq with rfl | hq
         · exact ⟨b :: q, by simp, by simp [hdq]⟩
         · exact ⟨q, by simp [hq], hdq⟩
theorem cParse_sp {b : B8} (h : (32 : UInt8) ∈ b) : cParse b = ([], 2) := by
 unfold cParse; rw [if_neg (by intro e; subst e; simp at h)]; cases hc : cOps (cut 59 b) with
 | none => rfl
 | some l =>
   obtain ⟨e1, e2⟩ := cOps_some hc; obtain ⟨p, hp, h32⟩ := cut_memPl (c := 59) (by decide) h; rw [← e1] at hp; obtain ⟨o, ho, rfl⟩ := List.mem_map.1 hp; exact absurd h32 (all_noPl o (mem_all.2 (e2 o ho))).2
theorem cParse_nil : cParse [] = ([], 2) := by decide +kernel
def mutS (s : B8) : Except Int (List Int × List Oq) :=
 match listFPl 44 (sepC 32 s).1 with
 | none => .error 2
 | some l => if (cParse (sepC 32 s).2).2 = 0 then .ok (l, (cParse (sepC 32 s).2).1) else .error (cParse (sepC 32 s).2).2
theorem mutP_none {a : B8} (h : afterF mutW a = none) : mutP a = .error 2 := by unfold mutP; rw [h]
theorem cut_two {c : UInt8} {t : B8} (h : c ∈ t) : ∃ p q r, cut c t = p :: q :: r := by
 obtain ⟨p, r, rfl, hp⟩ := split_at h; rw [cut_pre _ _ _ hp]; cases hc : cut c r with
 | nil => exact absurd hc (cut_ne c r)
 | cons q s => exact ⟨p, q, s, rfl⟩
theorem mutP_some {a s : B8} (h : afterF mutW a = some s) : mutP a = mutS s := by
 unfold mutP mutS; rw [h]; simp only
 by_cases hm : (32 : UInt8) ∈ s
 · obtain ⟨p, r, rfl, hp⟩ := split_at hm
   rw [cut_pre _ _ _ hp, sepC_some hp]; simp only
   by_cases hr : (32 : UInt8) ∈ r
   · obtain ⟨x, y, z, hc⟩ := cut_two hr
     rw [hc, cParse_sp hr]; simp only
     cases listFPl 44 p <;> rfl
   · rw [cut_one hr]
     simp only
     cases listFPl 44 p <;> rfl
 · rw [cut_one hm, sepC_none hm, cParse_nil]
   simp only
   cases listFPl 44 s <;> rfl
def lineF (w : B8) : List B8 → Option (B8 × List B8)
 | l :: q :: r => match afterF w l with | some t => some (t, q :: r) | none => none
 | _ => none
theorem lineF_cons {w l : B8} {r : List B8} (h : r ≠ []) : lineF w (l :: r) = match afterF w l with | some t => some (t, r) | none => none := by
 cases r with
 | nil => exact absurd rfl h
 | cons q r => rfl
theorem engP_none {s : B8} (h : afterF engW s = none) : engP s = none := by unfold engP; rw [h]; rfl
theorem engP_list {s t : B8} (h : afterF engW s = some t) (hl : listFPl 32 t = none) : engP s = none := by unfold engP; rw [h, Option.bind_some, hl]
theorem engP_len {s t : B8} {n : List Int} (h : afterF engW s = some t) (hl : listFPl 32 t = some n) (hn : n.length ≠ 8) : engP s = none := by
 unfold engP; rw [h, Option.bind_some, hl]; match n, hn with
 | [], _ => rfl
 | [_], _ => rfl
 | [_, _], _ => rfl
 | [_, _, _], _ => rfl
 | [_, _, _, _], _ => rfl
 | [_, _, _, _, _], _ => rfl
 | [_, _, _, _, _, _], _ => rfl
 | [_, _, _, _, _, _, _], _ => rfl
 | [_, _, _, _, _, _, _, _], h => exact absurd rfl h
 | _ :: _ :: _ :: _ :: _ :: _ :: _ :: _ :: _ :: _, _ => rfl
theorem engP_some {s t : B8} {a b c d e f g h : Int} (ha : afterF engW s = some t) (hl : listFPl 32 t = some [a, b, c, d, e, f, g, h]) : engP s = some (a, b, c, d, e, f, g, h) := by
 unfold engP; rw [ha, Option.bind_some, hl]
theorem linesP_1 {L : List B8} (h : lineF engW L = none) : linesP L = .error 2 := by
 match L, h with
 | [], _ => exact linesP_first (engP_none (after_nil _))
 | [x], _ =>
   cases he : engP x with
   | none => exact linesP_first he
   | some p =>
     obtain ⟨a, b, c, d, e, f, g, k⟩ := p; refine linesP_len (L := [x]) he fun h => ?_
     have h1 := h.1; simp at h1
     unfold engP at he; cases ha : afterF engW x with
     | none => rw [ha] at he; cases he
     | some t =>
       rw [ha, Option.bind_some] at he; cases hl : listFPl 32 t with
       | none => rw [hl] at he; cases he
       | some n =>
         have hp := (list_back hl).2.1; rw [hl] at he; match n, he, hp with
         | [a', b', c', d', e', f', g', h'], he, hp =>
           simp only [Option.some.injEq, Prod.mk.injEq] at he; have := hp b' (by simp); have h2 := this.1; omega
 | x :: q :: r, h =>
   cases ha : afterF engW x with
   | none => exact linesP_first (engP_none ha)
   | some t => rw [lineF_cons (by simp), ha] at h; cases h
theorem linesP_2 {l : B8} {r : List B8} (h : engP l = none) : linesP (l :: r) = .error 2 := linesP_first h
theorem linesP_3 {l : B8} {r : List B8} {a b c d e f g k : Int} (h : engP l = some (a, b, c, d, e, f, g, k)) (hr : r ≠ []) (hn : ¬ ((r.length : Int) = b + 4 ∧ r.getLast? = some [])) : linesP (l :: r) = .error 2 := by
 refine linesP_len (L := l :: r) h fun ⟨h1, h2⟩ => hn ⟨by simp at h1; omega, ?_⟩
 cases r with
 | nil => exact absurd rfl hr
 | cons q r => simpa using h2
theorem linesP_4 {l : B8} {r : List B8} {a b c d e f g k : Int} (h : engP l = some (a, b, c, d, e, f, g, k)) (hr : r ≠ []) (hn : (r.length : Int) = b + 4 ∧ r.getLast? = some []) :
 linesP (l :: r) = match restP b.toNat (l :: r) with | .error e => .error e | .ok (m, ls, s, xs, ps) => .ok ⟨a, b, c, d, e, f, g, k, m, ls, s, xs.map (·.1), xs.map (·.2), ps⟩ := by
 unfold linesP; rw [List.headD_cons, h]; have hl : (((l :: r).length : Nat) : Int) = b + 5 ∧ (l :: r).getLast? = some [] := by
  refine ⟨by have := hn.1; simp; omega, ?_⟩; cases r with
  | nil => exact absurd rfl hr
  | cons q r => exact (List.getLast?_cons_cons).trans hn.2
 simp only
 rw [if_pos hl]; cases restP b.toNat (l :: r) <;> rfl
theorem restP_1 {n : Nat} {l0 l1 : B8} {r : List B8} (h : (afterF heapW l1).bind heapF = none) : restP n (l0 :: l1 :: r) = .error 2 := by
 unfold restP; rw [show (l0 :: l1 :: r).getD 1 [] = l1 from rfl, h]
theorem restP_2 {n : Nat} {l0 l1 l2 : B8} {r : List B8} (h : afterF rootsW l2 = none) : restP n (l0 :: l1 :: l2 :: r) = .error 2 := by
 unfold restP; rw [show (l0 :: l1 :: l2 :: r).getD 2 [] = l2 from rfl, h, Option.bind_none]; split
 · rename_i h1 h2; cases h2
 · rfl
theorem restP_2p {n : Nat} {l0 l1 l2 t : B8} {r : List B8} (h : afterF rootsW l2 = some t) (h2 : (parseFSt t).2 ≠ 0) : restP n (l0 :: l1 :: l2 :: r) = .error 2 := by
 unfold restP; rw [show (l0 :: l1 :: l2 :: r).getD 2 [] = l2 from rfl, h, Option.bind_some, if_neg h2]; split
 · rename_i h1 h2; cases h2
 · rfl
theorem restP_3 {n : Nat} {l0 l1 l2 t : B8} {r : List B8} {m : Int} {ls : Rws} (h1 : (afterF heapW l1).bind heapF = some (m, ls)) (h : afterF rootsW l2 = some t) (h2 : (parseFSt t).2 = 0) :
 restP n (l0 :: l1 :: l2 :: r) = match mutsP (r.take n) with
 | .error e => .error e
 | .ok xs =>
   match afterF pickW (r.getD n []) with
   | none => .error 2
   | some u => if (parseFPk ⟨u.toArray⟩).2 = 0 then .ok (m, ls, (parseFSt t).1, xs, (parseFPk ⟨u.toArray⟩).1) else .error (parseFPk ⟨u.toArray⟩).2 := by
 unfold restP; rw [show (l0 :: l1 :: l2 :: r).getD 2 [] = l2 from rfl, show (l0 :: l1 :: l2 :: r).getD 1 [] = l1 from rfl, h1, h, Option.bind_some, if_pos h2]; simp only
 rw [show (l0 :: l1 :: l2 :: r).drop 3 = r from rfl]; have e : (l0 :: l1 :: l2 :: r).getD (3 + n) [] = r.getD n [] := by
  rw [show 3 + n = ((n + 1) + 1) + 1 by omega]; simp [List.getD_eq_getElem?_getD]
 rw [e]; cases mutsP (r.take n) with
 | error e => rfl
 | ok xs => cases afterF pickW (r.getD n []) <;> rfl
theorem mutsP_snoc {a : B8} {x : List Int × List Oq} : ∀ {L : List B8} {xs : List (List Int × List Oq)}, mutsP L = .ok xs → mutP a = .ok x → mutsP (L ++ [a]) = .ok (xs ++ [x])
 | [], xs, h, hx => by
   rw [mutsP] at h; injection h with h; subst h; simp [mutsP, hx]
 | b :: L, xs, h, hx => by
   rw [mutsP] at h; cases h1 : mutP b with
   | error e => rw [h1] at h; cases h
   | ok y =>
     cases h2 : mutsP L with
     | error e => rw [h1, h2] at h; cases h
     | ok ys =>
       rw [h1, h2] at h; injection h with h; subst h; rw [List.cons_append, mutsP, h1, mutsP_snoc h2 hx]; rfl
theorem mutsP_dead {a : B8} {e : Int} {R : List B8} : ∀ {L : List B8} {xs : List (List Int × List Oq)}, mutsP L = .ok xs → mutP a = .error e → mutsP (L ++ a :: R) = .error e
 | [], xs, h, hx => by simp [mutsP, hx]
 | b :: L, xs, h, hx => by
   rw [mutsP] at h; cases h1 : mutP b with
   | error e => rw [h1] at h; cases h
   | ok y =>
     cases h2 : mutsP L with
     | error e => rw [h1, h2] at h; cases h
     | ok ys => rw [List.cons_append, mutsP, h1, mutsP_dead h2 hx]
theorem mutsP_take {r : List B8} {k : Nat} {xs : List (List Int × List Oq)} {x : List Int × List Oq} (h : mutsP (r.take k) = .ok xs) (hk : k < r.length) (hx : mutP r[k] = .ok x) : mutsP (r.take (k + 1)) = .ok (xs ++ [x]) := by
 rw [List.take_succ_eq_append_getElem hk]; exact mutsP_snoc h hx
theorem mutsP_stop {r : List B8} {k n : Nat} {xs : List (List Int × List Oq)} {e : Int} (h : mutsP (r.take k) = .ok xs) (hk : k < r.length) (hkn : k < n) (hx : mutP r[k] = .error e) : mutsP (r.take n) = .error e := by
 have : r.take n = r.take k ++ r[k] :: (r.take n).drop (k + 1) := by
  have h1 := List.take_append_drop k (r.take n); rw [List.take_take, Nat.min_eq_left (by omega), List.drop_eq_getElem_cons (by rw [List.length_take]; omega), List.getElem_take] at h1; exact h1.symm
 rw [this]; exact mutsP_dead h hx
theorem cut_count (c : UInt8) : ∀ t : B8, (cut c t).length = t.count c + 1
 | [] => rfl
 | b :: t => by
   rw [cut]; by_cases hb : b = c
   · subst hb; rw [if_pos rfl, List.length_cons, cut_count b t, List.count_cons_self]
   · rw [if_neg hb, List.count_cons_of_ne hb]
     have ih := cut_count c t; cases hc : cut c t with
     | nil => exact absurd hc (cut_ne c t)
     | cons p r => rw [hc] at ih; simpa using ih
theorem cut_last (c : UInt8) : ∀ t : B8, ((cut c t).getLast? = some [] ∧ 2 ≤ (cut c t).length) ↔ t.getLast? = some c
 | [] => by simp [cut]
 | b :: t => by
   have ih := cut_last c t; rw [cut]; by_cases hb : b = c
   · subst hb
     rw [if_pos rfl]; cases t with
     | nil => simp [cut]
     | cons x t =>
       rw [show (b :: x :: t).getLast? = (x :: t).getLast? by simp [List.getLast?_cons], ← ih]; have hn := cut_ne b (x :: t); cases hc : cut b (x :: t) with
       | nil => exact absurd hc hn
       | cons p r =>
         cases r with
         | nil =>
           have hm : b ∉ x :: t := by
            intro hm; obtain ⟨p', q', r', h'⟩ := cut_two hm; rw [h'] at hc; simp at hc
           have := cut_all _ _ hm; rw [this] at hc; simp at hc
           simp [← hc]
         | cons q r => simp
   · rw [if_neg hb]
     cases hc : cut c t with
     | nil => exact absurd hc (cut_ne c t)
     | cons p r =>
       rw [hc] at ih; cases t with
       | nil => simp [cut] at hc; obtain ⟨rfl, rfl⟩ := hc; simp [hb]
       | cons x t =>
         rw [show (b :: x :: t).getLast? = (x :: t).getLast? by simp [List.getLast?_cons], ← ih]; cases r with
         | nil => simp
         | cons q r => simp
theorem suffix_last (c : UInt8) (t : B8) : Go.Lib.hasSuffix t [c] = true ↔ t.getLast? = some c := by
 unfold Go.Lib.hasSuffix; rw [List.isSuffixOf_iff_suffix]; constructor
 · rintro ⟨p, rfl⟩; simp
 · intro h
   obtain ⟨hne, h⟩ := List.getLast?_eq_some_iff.1 h; exact ⟨_, h.symm⟩
theorem valD_ge : ∀ (l : B8) (acc : Nat), l.all dgt = true → (acc : Int) ≤ valD acc l
 | [], acc, _ => by rw [valD]; omega
 | b :: l, acc, h => by
   rw [List.all_cons, Bool.and_eq_true] at h; have hb := dgt_lt h.1; have := valD_ge l (acc * 10 + (b.toNat - 48)) h.2; rw [valD, show (acc : Int) * 10 + ((b.toNat : Int) - 48) = ((acc * 10 + (b.toNat - 48) : Nat) : Int) by omega]; omega
theorem pu_val : ∀ (l : B8) (acc : Nat), l.all dgt = true → valD acc l ≤ 1000000 → Go.Lib.parseUint10 acc l = .ok (valD acc l).toNat
 | [], acc, _, _ => by rw [valD, Int.toNat_natCast]; rfl
 | b :: l, acc, h, hv => by
   rw [List.all_cons, Bool.and_eq_true] at h; have hb := dgt_lt h.1; have h1 := valD_ge l (acc * 10 + (b.toNat - 48)) h.2; rw [valD, show (acc : Int) * 10 + ((b.toNat : Int) - 48) = ((acc * 10 + (b.toNat - 48) : Nat) : Int) by omega] at hv ⊢; rw [Go.Lib.parseUint10, if_pos hb, if_neg (by omega), if_neg (by omega), pu_val l _ h.2 hv]
theorem atoi_dec {n : Int} (h0 : 0 ≤ n) (h1 : n ≤ 1000000) : atoiAll (dec n) = .ok n := by
 obtain ⟨h2, h3, h4⟩ := dec_facts n.toNat; show atoiAll (Go.Lib.decDigits n.toNat) = _
 have h5 := pu_val _ 0 h2 (by rw [show ((0 : Nat) : Int) = 0 from rfl, h4]; omega); rw [show ((0 : Nat) : Int) = 0 from rfl, h4] at h5; cases hd : Go.Lib.decDigits n.toNat with
 | nil => exact absurd hd h3
 | cons c r =>
   rw [hd] at h2 h5; rw [List.all_cons, Bool.and_eq_true] at h2; have hc := dgt_lt h2.1; rw [Go.Lib.atoiAll_plain c r (by omega) (by omega), Go.Lib.parseMag, if_neg (by simp), h5]; unfold Go.Lib.signless; simp only
   rw [if_neg (by omega)]; congr 1
   omega
theorem num_prog {s : B8} : (∃ n, atoiAll s = .ok n ∧ ¬ n < 0 ∧ ¬ 1000000 < n ∧ dec n = s ∧ numN s = n) ∨ (numN s < 0 ∧ ∀ n, atoiAll s = .ok n → n < 0 ∨ 1000000 < n ∨ dec n ≠ s) := by
 by_cases h : numN s < 0
 · right
   refine ⟨h, fun n hn => ?_⟩; by_cases h2 : 0 ≤ n ∧ n ≤ 1000000
   · right; right
     intro e; have := dec_num h2; rw [e] at this; omega
   · omega
 · left
   obtain ⟨h1, h2⟩ := numN_dec (rfl : numN s = numN s) (by omega); refine ⟨numN s, ?_, by omega, by omega, h1, rfl⟩; have := atoi_dec (n := numN s) (by omega) (by omega); rw [h1] at this; exact this
end Go.Proofs.YtjbaiibbgplljaaGreatDoor
namespace Go.Proofs.YtjbaiibbgplljaaGreatDoor
theorem grey_fold_lt : ∀ (l : Rws) {s : Nat}, s < 18446744073709551616 → l.foldl (fun s l => s ||| ofF l) s < 18446744073709551616
 | [], _, h => h
 | r :: l, s, h => by rw [List.foldl_cons]; exact grey_fold_lt l (lor_lt h (ofF_lt r))
theorem zip_mem {α β : Type} : ∀ {a : List α} {b : List β}, a.length = b.length → ∀ x ∈ a, ∃ y, (x, y) ∈ a.zip b
 | [], _, _, x, h => by cases h
 | _ :: _, [], h, _, _ => by cases h
 | z :: a, y :: b, h, x, hx => by
   rcases List.mem_cons.1 hx with rfl | hx
   · exact ⟨y, by simp⟩
   · obtain ⟨y', hy⟩ := zip_mem (a := a) (b := b) (by simpa using h) x hx
     exact ⟨y', by simp [hy]⟩
theorem regs_of {p : Pq} (h : PRt p) {r : List Int} (hr : r ∈ p.rg) : (∀ x ∈ r, 0 ≤ x ∧ x ≤ (p.ob.length : Int)) ∧ 1 ≤ r.length ∧ r.length ≤ 4 := by
 obtain ⟨y, hy⟩ := zip_mem (a := p.rg) (b := p.pg) (by have := h.lens; omega) r hr; have := h.muts _ hy; unfold mutF at this; rw [Bool.and_eq_true] at this; exact regs_ok this.1
def byteG (l : List Int) (i : Nat) : Int := l.getD i 0
def regG (g : Nat → Int) (n : Int) : Nat → Nat → Int → List Int × Nat
 | 0, i, _ => ([], i)
 | f + 1, i, k => if k < 1 + g i % 3 then (g (i + 1) % (n + 1) :: (regG g n f (i + 2) (k + 1)).1, (regG g n f (i + 2) (k + 1)).2) else ([], i + 1)
def kindT (b : Int) : Int := [1, 1, 2, 2, 2, 3, 4, 5].getD (b % 8).toNat 0
def opG (g : Nat → Int) (regs slots : Int) (i : Nat) : Oq × Nat :=
 if kindT (g i) < 3 then (⟨kindT (g i), g (i + 1) % regs, g (i + 2) % regs, g (i + 3) % slots⟩, i + 4)
 else if kindT (g i) = 4 then (⟨4, g (i + 1) % regs, g (i + 2) % regs, 0⟩, i + 3) else (⟨kindT (g i), g (i + 1) % regs, 0, 0⟩, i + 2)
def opsG (g : Nat → Int) (regs slots : Int) : Nat → Nat → List Oq × Nat
 | 0, i => ([], i)
 | k + 1, i => ((opG g regs slots i).1 :: (opsG g regs slots k (opG g regs slots i).2).1, (opsG g regs slots k (opG g regs slots i).2).2)
def mutG (g : Nat → Int) (n slots : Int) (i : Nat) : (List Int × List Oq) × Nat :=
 (((regG g n 4 i 0).1, (opsG g (regG g n 4 i 0).1.length slots (g (regG g n 4 i 0).2 % 8).toNat ((regG g n 4 i 0).2 + 1)).1), (opsG g (regG g n 4 i 0).1.length slots (g (regG g n 4 i 0).2 % 8).toNat ((regG g n 4 i 0).2 + 1)).2)
def mutsG (g : Nat → Int) (n slots : Int) : Nat → Nat → List (List Int × List Oq) × Nat
 | 0, i => ([], i)
 | k + 1, i => ((mutG g n slots i).1 :: (mutsG g n slots k (mutG g n slots i).2).1, (mutsG g n slots k (mutG g n slots i).2).2)
def objG (g : Nat → Int) (n : Int) (s i : Nat) : List Int := (List.range s).map fun k => g (i + k) % (n + 1)
def objsG (g : Nat → Int) (n : Int) (s : Nat) : Nat → Nat → Rws
 | 0, _ => []
 | k + 1, i => objG g n s i :: objsG g n s k (i + s)
def nG (g : Nat → Int) : Int := 1 + g 8 % 6
def slG (g : Nat → Int) : Int := 1 + g 7 % 2
def rootI (g : Nat → Int) : Nat := 10 + (nG g).toNat * (slG g).toNat
def musG (g : Nat → Int) : List (List Int × List Oq) := (mutsG g (nG g) (slG g) (g 1 % 3).toNat (rootI g + 1)).1
def madeG (g : Nat → Int) : Pq :=
 ⟨1 + g 0 % 3, g 1 % 3, 1 + g 2 % 3, 1 + g 3 % 2, 1 + g 4 % 3, nG g + g 9 % 4, g 5 % 4, g 6 % 4, slG g, objsG g (nG g) (slG g).toNat (nG g).toNat 10, addF 0 (g (rootI g) % (nG g + 1)),
  (musG g).map (·.1), (musG g).map (·.2), []⟩
theorem regG_ok (g : Nat → Int) {n : Int} (hn : 0 ≤ n) : ∀ (f i : Nat) (k : Int), ∀ x ∈ (regG g n f i k).1, 0 ≤ x ∧ x ≤ n
 | 0, i, k, x, h => by cases h
 | f + 1, i, k, x, h => by
   rw [regG] at h; split at h
   · rcases List.mem_cons.1 h with rfl | h
     · have h1 := Int.emod_nonneg (g (i + 1)) (show n + 1 ≠ 0 by omega)
       have h2 := Int.emod_lt_of_pos (g (i + 1)) (show 0 < n + 1 by omega); omega
     · exact regG_ok g hn f _ _ x h
   · cases h
theorem regG_len (g : Nat → Int) (n : Int) (i : Nat) : 1 ≤ (regG g n 4 i 0).1.length ∧ (regG g n 4 i 0).1.length ≤ 3 := by
 have h : ∀ j, 0 ≤ g j % 3 ∧ g j % 3 < 3 := fun j => ⟨Int.emod_nonneg _ (by decide), Int.emod_lt_of_pos _ (by decide)⟩
 have h0 := h i; have h1 := h (i + 2); have h2 := h (i + 2 + 2); have h3 := h (i + 2 + 2 + 2); simp only [regG]; rw [if_pos (by omega)]; refine ⟨by simp, ?_⟩; split
 · split
   · rw [if_neg (by omega)]; simp
   · simp
 · simp
theorem kind_rng (b : Int) : kindT b = 1 ∨ kindT b = 2 ∨ kindT b = 3 ∨ kindT b = 4 ∨ kindT b = 5 := by
 have h1 := Int.emod_nonneg b (show (8 : Int) ≠ 0 by decide); have h2 := Int.emod_lt_of_pos b (show (0 : Int) < 8 by decide); have : ∀ k : Fin 8, [1, 1, 2, 2, 2, 3, 4, 5].getD k.val (0 : Int) = 1 ∨ [1, 1, 2, 2, 2, 3, 4, 5].getD k.val (0 : Int) = 2 ∨ [1, 1, 2, 2, 2, 3, 4, 5].getD k.val (0 : Int) = 3 ∨ [1, 1, 2, 2, 2, 3, 4, 5].getD k.val (0 : Int) = 4 ∨ [1, 1, 2, 2, 2, 3, 4, 5].getD k.val (0 : Int) = 5 := by decide
 exact this ⟨(b % 8).toNat, by omega⟩
theorem opG_ok (g : Nat → Int) {regs slots : Int} (hr : 1 ≤ regs ∧ regs ≤ 4) (hs : 1 ≤ slots ∧ slots ≤ 4) (i : Nat) : cRight (opG g regs slots i).1 regs slots = true := by
 have hm : ∀ j, 0 ≤ g j % regs ∧ g j % regs < regs := fun j => ⟨Int.emod_nonneg _ (by omega), Int.emod_lt_of_pos _ (by omega)⟩
 have hm2 : ∀ j, 0 ≤ g j % slots ∧ g j % slots < slots := fun j => ⟨Int.emod_nonneg _ (by omega), Int.emod_lt_of_pos _ (by omega)⟩
 have h1 := hm (i + 1); have h2 := hm (i + 2); have h3 := hm2 (i + 3); have hmin : min regs 4 = regs := by omega
 have hmin2 : min slots 4 = slots := by omega
 unfold opG; split
 · rename_i hk
   unfold cRight; simp only
   rw [hmin, hmin2, Bool.and_eq_true, decide_eq_true_eq]; refine ⟨by omega, ?_⟩; rw [if_pos (by have := kind_rng (g i); omega), decide_eq_true_eq]; omega
 · rename_i hk
   split
   · unfold cRight
     simp only
     rw [hmin, hmin2, Bool.and_eq_true, decide_eq_true_eq]; refine ⟨by omega, ?_⟩; rw [if_neg (by omega), if_neg (by omega)]; simp; omega
   · rename_i hk4
     unfold cRight; simp only
     rw [hmin, hmin2, Bool.and_eq_true, decide_eq_true_eq]; refine ⟨by omega, ?_⟩; rw [if_neg (by omega), if_pos (by have := kind_rng (g i); omega)]; simp
theorem opsG_ok (g : Nat → Int) {regs slots : Int} (hr : 1 ≤ regs ∧ regs ≤ 4) (hs : 1 ≤ slots ∧ slots ≤ 4) : ∀ (k i : Nat), (∀ o ∈ (opsG g regs slots k i).1, cRight o regs slots = true) ∧ (opsG g regs slots k i).1.length = k
 | 0, i => ⟨fun _ h => (List.not_mem_nil h).elim, rfl⟩
 | k + 1, i => by
   have ih := opsG_ok g hr hs k (opG g regs slots i).2; rw [opsG]; refine ⟨fun o h => ?_, by rw [List.length_cons, ih.2]⟩; rcases List.mem_cons.1 h with rfl | h
   · exact opG_ok g hr hs i
   · exact ih.1 o h
theorem mutG_ok (g : Nat → Int) {n : Nat} {slots : Int} (hs : 1 ≤ slots ∧ slots ≤ 4) (i : Nat) : mutF n slots (mutG g n slots i).1 = true := by
 have hl := regG_len g n i; have ho := opsG_ok g (regs := ((regG g n 4 i 0).1.length : Int)) (by omega) hs (g (regG g n 4 i 0).2 % 8).toNat ((regG g n 4 i 0).2 + 1); unfold mutF regsF cFits mutG; simp only [Bool.and_eq_true, List.all_eq_true, decide_eq_true_eq]; refine ⟨⟨fun x hx => regG_ok g (by omega) 4 i 0 x hx, by omega⟩, ho.1, ?_⟩; rw [ho.2]; have h2 := Int.emod_lt_of_pos (g (regG g n 4 i 0).2) (show (0 : Int) < 8 by decide); omega
theorem mutsG_ok (g : Nat → Int) {n : Nat} {slots : Int} (hs : 1 ≤ slots ∧ slots ≤ 4) : ∀ (k i : Nat), (∀ x ∈ (mutsG g n slots k i).1, mutF n slots x = true) ∧ (mutsG g n slots k i).1.length = k
 | 0, i => ⟨fun _ h => (List.not_mem_nil h).elim, rfl⟩
 | k + 1, i => by
   have ih := mutsG_ok g (n := n) hs k (mutG g n slots i).2; rw [mutsG]; refine ⟨fun o h => ?_, by rw [List.length_cons, ih.2]⟩; rcases List.mem_cons.1 h with rfl | h
   · exact mutG_ok g hs i
   · exact ih.1 o h
theorem objsG_ok (g : Nat → Int) {n : Int} (hn : 0 ≤ n) (s : Nat) : ∀ (k i : Nat), (∀ l ∈ objsG g n s k i, (l.length : Int) = s ∧ ∀ v ∈ l, 0 ≤ v ∧ v ≤ n) ∧ (objsG g n s k i).length = k
 | 0, i => ⟨fun _ h => (List.not_mem_nil h).elim, rfl⟩
 | k + 1, i => by
   have ih := objsG_ok g hn s k (i + s); rw [objsG]; refine ⟨fun l h => ?_, by rw [List.length_cons, ih.2]⟩; rcases List.mem_cons.1 h with rfl | h
   · refine ⟨by simp [objG], fun v hv => ?_⟩
     obtain ⟨j, _, rfl⟩ := List.mem_map.1 hv; have h1 := Int.emod_nonneg (g (i + j)) (show n + 1 ≠ 0 by omega); have h2 := Int.emod_lt_of_pos (g (i + j)) (show 0 < n + 1 by omega); omega
   · exact ih.1 l h
theorem mG (g : Nat → Int) (j : Nat) (k : Int) (hk : 0 < k) : 0 ≤ g j % k ∧ g j % k < k := ⟨Int.emod_nonneg _ (by omega), Int.emod_lt_of_pos _ hk⟩
theorem zip_maps {α β : Type} (l : List (α × β)) : (l.map (·.1)).zip (l.map (·.2)) = l := by
 induction l with
 | nil => rfl
 | cons x l ih => simp [ih]
theorem made_right (g : Nat → Int) {ps : List (Int × Int)} (hp : ps.length ≤ 100000) (ht : ∀ x ∈ ps, there x (1 + g 0 % 3) (g 1 % 3) = true) : PRt { madeG g with pk := ps } := by
 have h0 := mG g 0 3 (by decide); have h1 := mG g 1 3 (by decide); have h2 := mG g 2 3 (by decide); have h3 := mG g 3 2 (by decide); have h4 := mG g 4 3 (by decide); have h5 := mG g 5 4 (by decide); have h6 := mG g 6 4 (by decide); have h7 := mG g 7 2 (by decide); have h8 := mG g 8 6 (by decide); have h9 := mG g 9 4 (by decide); have hn : 1 ≤ nG g ∧ nG g ≤ 6 := by unfold nG; omega
 have hs : 1 ≤ slG g ∧ slG g ≤ 2 := by unfold slG; omega
 have hob := objsG_ok g (n := nG g) (by omega) (slG g).toNat (nG g).toNat 10; have hm := mutsG_ok g (n := (nG g).toNat) (slots := slG g) (by omega) (g 1 % 3).toNat (rootI g + 1); rw [show (((nG g).toNat : Nat) : Int) = nG g by omega] at hm; have hr := mG g (rootI g) (nG g + 1) (by omega); refine ⟨?_, ?_, ?_, ?_, ?_, ?_, hp, ht⟩
 · unfold pRng madeG; simp only; omega
 · show rightF (slG g) (objsG g (nG g) (slG g).toNat (nG g).toNat 10) = true
   refine right_of ⟨by omega, by omega, by rw [hob.2]; omega⟩ fun l hl => ?_
   have := hob.1 l hl; exact ⟨by omega, fun v hv => by rw [hob.2]; have := this.2 v hv; omega⟩
 · show (((objsG g (nG g) (slG g).toNat (nG g).toNat 10).length : Nat) : Int) ≤ nG g + g 9 % 4 ∧ nG g + g 9 % 4 ≤ 64
   rw [hob.2]; omega
 · show underF (addF 0 (g (rootI g) % (nG g + 1))) (firstF (((objsG g (nG g) (slG g).toNat (nG g).toNat 10).length : Nat) : Int)) = true
   rw [hob.2, under_hasRc (add_lt (by decide) _) (first_lt _)]; intro x hx; rw [has_first, decide_eq_true_eq]; have h64 := has_rng hx; have h1 : x = g (rootI g) % (nG g + 1) := by
    have := has_bit (addF 0 (g (rootI g) % (nG g + 1))) (x - 1).toNat (by omega); rw [show (((x - 1).toNat : Nat) : Int) + 1 = x by omega, hx, testBit_add] at this; simp at this
    omega
   omega
 · show ((((musG g).map (·.1)).length : Nat) : Int) = g 1 % 3 ∧ ((((musG g).map (·.2)).length : Nat) : Int) = g 1 % 3
   rw [List.length_map, List.length_map]; unfold musG; rw [hm.2]; omega
 · show ∀ x ∈ ((musG g).map (·.1)).zip ((musG g).map (·.2)), mutF (objsG g (nG g) (slG g).toNat (nG g).toNat 10).length (slG g) x = true
   rw [zip_maps, hob.2]; exact hm.1
theorem not_right {p : Pq} (h : ¬ PRt p) : pRight p = false := by rw [Bool.eq_false_iff]; exact fun e => h (pRight_iff.1 e)
theorem made_small (g : Nat → Int) : (madeG g).wk < 16 ∧ (madeG g).ob.length < 64 ∧ (madeG g).ro < 18446744073709551616 := by
 have h0 := mG g 0 3 (by decide); have h8 := mG g 8 6 (by decide); refine ⟨?_, ?_, add_lt (by decide) _⟩
 · show 1 + g 0 % 3 < 16; omega
 · show (objsG g (nG g) (slG g).toNat (nG g).toNat 10).length < 64
   have hn : 1 ≤ nG g ∧ nG g ≤ 6 := by unfold nG; omega
   rw [(objsG_ok g (by omega) _ _ _).2]; omega
