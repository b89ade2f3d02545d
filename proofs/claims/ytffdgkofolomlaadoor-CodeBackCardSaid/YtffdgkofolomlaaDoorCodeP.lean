/- Layer code: what the chapter asks, as plain functions, and what follows. No program in this text. -/
import Derived.Test.YtffdgkofolomlaaDoorSetT
namespace Go.Proofs.YtffdgkofolomlaaDoor

structure Oq where
  kind : Int
  r : Int
  a : Int
  s : Int
deriving DecidableEq
def cRight (o : Oq) (regs slots : Int) : Bool :=
  decide (0 ≤ o.r ∧ o.r < min regs 4 ∧ 0 ≤ o.a ∧ 0 ≤ o.s) &&
    (if o.kind = 1 ∨ o.kind = 2 then decide (o.a < min regs 4 ∧ o.s < min slots 4) else if o.kind = 3 ∨ o.kind = 5 then decide (o.a = 0 ∧ o.s = 0) else if o.kind = 4 then decide (o.a < min regs 4 ∧ o.s = 0) else false)
def cLet (r : Int) : UInt8 := UInt8.ofNat (65 + r.toNat)
def cDig (s : Int) : UInt8 := UInt8.ofNat (48 + s.toNat)
def cText (o : Oq) : List UInt8 :=
  if cRight o 4 4 = true then
    (if o.kind = 1 then [cLet o.r, 61, cLet o.a, 46, cDig o.s] else if o.kind = 2 then [cLet o.a, 46, cDig o.s, 61, cLet o.r] else if o.kind = 3 then [cLet o.r, 61, 110, 101, 119] else if o.kind = 4 then [cLet o.r, 61, cLet o.a] else [cLet o.r, 61, 48])
  else [63]
/-- all right ops -/
def cAll : List Oq := ((List.range 6).flatMap fun (k : Nat) => (List.range 4).flatMap fun (r : Nat) => (List.range 4).flatMap fun (a : Nat) => (List.range 4).map fun (s : Nat) => (⟨(k : Int), (r : Int), (a : Int), (s : Int)⟩ : Oq)).filter fun o => cRight o 4 4
def cOne (t : List UInt8) : Option Oq := cAll.find? fun o => cText o == t
def joinS : List (List UInt8) → List UInt8
  | [] => []
  | [p] => p
  | p :: q :: l => p ++ 59 :: joinS (q :: l)
def cPrint (l : List Oq) : List UInt8 := if l = [] then [45] else joinS (l.map cText)
def cOps : List (List UInt8) → Option (List Oq)
  | [] => some []
  | p :: l => match cOne p, cOps l with | some o, some r => some (o :: r) | _, _ => none
def cParse (t : List UInt8) : List Oq × Int :=
  if t = [45] then ([], 0) else match cOps (cut 59 t) with | none => ([], 2) | some l => if 64 < l.length then ([], 3) else (l, 0)
def cFits (l : List Oq) (regs slots : Int) : Bool := l.all (fun o => cRight o regs slots) && decide (l.length ≤ 64)
def cWrites (l : List Oq) : Nat := l.countP fun o => o.kind == 2
/-- a right op, by a byte -/
def cSome (b : Int) : Oq :=
  ⟨1 + b % 5, b / 5 % 4, if 1 + b % 5 = 1 ∨ 1 + b % 5 = 2 ∨ 1 + b % 5 = 4 then b / 20 % 4 else 0, if 1 + b % 5 = 1 ∨ 1 + b % 5 = 2 then b / 64 % 4 else 0⟩

theorem mem_all {o : Oq} : o ∈ cAll ↔ cRight o 4 4 = true := by
  unfold cAll
  rw [List.mem_filter]
  refine ⟨fun h => h.2, fun h => ⟨?_, h⟩⟩
  obtain ⟨k, r, a, s⟩ := o
  have hb : (0 ≤ k ∧ k ≤ 5) ∧ (0 ≤ r ∧ r < 4) ∧ (0 ≤ a ∧ a < 4) ∧ (0 ≤ s ∧ s < 4) := by
    unfold cRight at h
    rw [Bool.and_eq_true, decide_eq_true_eq] at h
    obtain ⟨h1, h2⟩ := h
    simp only at h1 h2
    split at h2
    · rw [decide_eq_true_eq] at h2; omega
    · split at h2
      · rw [decide_eq_true_eq] at h2; omega
      · split at h2
        · rw [decide_eq_true_eq] at h2; omega
        · cases h2
  simp only [List.mem_flatMap, List.mem_map, List.mem_range, Oq.mk.injEq]
  exact ⟨k.toNat, by omega, r.toNat, by omega, a.toNat, by omega, s.toNat, by omega, by omega, by omega, by omega, by omega⟩
theorem all_inj : ∀ x ∈ cAll, ∀ y ∈ cAll, cText x = cText y → x = y := by decide +kernel
theorem all_text : ∀ x ∈ cAll, 59 ∉ cText x ∧ cText x ≠ [] ∧ cText x ≠ [45] ∧ cText x ≠ [63] ∧ (cText x).length ≤ 5 := by decide +kernel
theorem text_inj {x y : Oq} (hx : cRight x 4 4 = true) (hy : cRight y 4 4 = true) : cText x = cText y ↔ x = y := ⟨all_inj _ (mem_all.2 hx) _ (mem_all.2 hy), fun h => by rw [h]⟩
theorem text_no (o : Oq) : cText o = [63] ↔ cRight o 4 4 = false := by
  constructor
  · intro h
    cases hr : cRight o 4 4 with
    | false => rfl
    | true => exact absurd h (all_text _ (mem_all.2 hr)).2.2.2.1
  · intro h; unfold cText; rw [h]; rfl
theorem one_text {o : Oq} (h : cRight o 4 4 = true) : cOne (cText o) = some o := by
  unfold cOne
  cases hf : cAll.find? fun x => cText x == cText o with
  | none =>
    rw [List.find?_eq_none] at hf
    exact absurd (by simp) (hf o (mem_all.2 h))
  | some x =>
    have h1 := List.find?_some hf
    have h2 := List.mem_of_find?_eq_some hf
    rw [beq_iff_eq] at h1
    rw [all_inj x h2 o (mem_all.2 h) h1]
theorem one_some {t : List UInt8} {o : Oq} (h : cOne t = some o) : cRight o 4 4 = true ∧ cText o = t := by
  unfold cOne at h
  have h1 := List.find?_some h
  rw [beq_iff_eq] at h1
  exact ⟨mem_all.1 (List.mem_of_find?_eq_some h), h1⟩
theorem cut_joinS : ∀ (l : List (List UInt8)), l ≠ [] → (∀ p ∈ l, 59 ∉ p) → cut 59 (joinS l) = l
  | [], h, _ => absurd rfl h
  | [p], _, h => by rw [joinS, cut_all _ _ (h p (by simp))]
  | p :: q :: l, _, h => by
    rw [joinS, cut_pre _ _ _ (h p (by simp)), cut_joinS (q :: l) (by simp) fun x hx => h x (by simp [hx])]
theorem joinS_cut : ∀ (t : List UInt8), joinS (cut 59 t) = t
  | [] => rfl
  | b :: t => by
    have ih := joinS_cut t
    rw [cut]
    split
    · rename_i hb
      subst hb
      cases hc : cut 59 t with
      | nil => exact absurd hc (cut_ne _ _)
      | cons p r => rw [hc] at ih; rw [joinS, ih]; rfl
    · cases hc : cut 59 t with
      | nil => exact absurd hc (cut_ne _ _)
      | cons p r =>
        rw [hc] at ih
        cases r with
        | nil => simp only [joinS] at *; rw [ih]
        | cons q r => simp only [joinS, List.cons_append] at *; rw [ih]
theorem cOps_text : ∀ (l : List Oq), (∀ o ∈ l, cRight o 4 4 = true) → cOps (l.map cText) = some l
  | [], _ => rfl
  | o :: l, h => by
    rw [List.map_cons, cOps, one_text (h o (by simp)), cOps_text l fun x hx => h x (by simp [hx])]
theorem cOps_some : ∀ {ps : List (List UInt8)} {l : List Oq}, cOps ps = some l → l.map cText = ps ∧ ∀ o ∈ l, cRight o 4 4 = true
  | [], l, h => by
    simp only [cOps, Option.some.injEq] at h
    subst h; simp
  | p :: ps, l, h => by
    rw [cOps] at h
    cases h1 : cOne p with
    | none => rw [h1] at h; cases h
    | some o =>
      cases h2 : cOps ps with
      | none => rw [h1, h2] at h; cases h
      | some r =>
        rw [h1, h2] at h
        simp only [Option.some.injEq] at h
        subst h
        obtain ⟨e1, e2⟩ := cOps_some h2
        obtain ⟨e3, e4⟩ := one_some h1
        refine ⟨by rw [List.map_cons, e4, e1], fun x hx => ?_⟩
        rcases List.mem_cons.1 hx with rfl | hx
        · exact e3
        · exact e2 x hx
theorem cPrint_ne {l : List Oq} (h : l ≠ []) (hr : ∀ o ∈ l, cRight o 4 4 = true) : cPrint l ≠ [45] := by
  unfold cPrint
  rw [if_neg h]
  cases l with
  | nil => exact absurd rfl h
  | cons o l =>
    have ho := all_text _ (mem_all.2 (hr o (by simp)))
    cases l with
    | nil => simpa [joinS] using ho.2.2.1
    | cons p l =>
      rw [List.map_cons, List.map_cons, joinS]
      intro e
      have e2 := congrArg List.length e
      have hp : 0 < (cText o).length := List.length_pos_iff.2 ho.2.1
      simp at e2
      omega
/-- what is printed of right ops is parsed as them, if they are not too many -/
theorem parse_print {l : List Oq} (hr : ∀ o ∈ l, cRight o 4 4 = true) : cParse (cPrint l) = if 64 < l.length then ([], 3) else (l, 0) := by
  by_cases h : l = []
  · subst h; rfl
  · have hc : cOps (cut 59 (cPrint l)) = some l := by
      unfold cPrint
      rw [if_neg h, cut_joinS _ (by simpa using h) (fun p hp => by obtain ⟨o, ho, rfl⟩ := List.mem_map.1 hp; exact (all_text _ (mem_all.2 (hr o ho))).1), cOps_text l hr]
    unfold cParse
    rw [if_neg (cPrint_ne h hr), hc]
/-- what is parsed is right, and printed it is the text -/
theorem print_parse {t : List UInt8} {l : List Oq} (h : cParse t = (l, 0)) : cPrint l = t ∧ (∀ o ∈ l, cRight o 4 4 = true) ∧ l.length ≤ 64 := by
  unfold cParse at h
  split at h
  · rename_i ht
    simp only [Prod.mk.injEq, and_true] at h
    subst h; subst ht
    exact ⟨rfl, by simp, by simp⟩
  · split at h
    · simp at h
    · rename_i r hr
      split at h
      · simp at h
      · rename_i hl
        simp only [Prod.mk.injEq, and_true] at h
        subst h
        obtain ⟨e1, e2⟩ := cOps_some hr
        have hne : r ≠ [] := fun e => by rw [e] at e1; exact cut_ne _ _ e1.symm
        refine ⟨?_, e2, by omega⟩
        unfold cPrint
        rw [if_neg hne, e1, joinS_cut]
theorem parse_err {t : List UInt8} {l : List Oq} {e : Int} (h : cParse t = (l, e)) (he : e ≠ 0) : l = [] ∧ (e = 2 ∨ e = 3) := by
  unfold cParse at h
  split at h
  · simp only [Prod.mk.injEq] at h; exact absurd h.2.symm he
  · split at h
    · simp only [Prod.mk.injEq] at h; exact ⟨h.1.symm, .inl h.2.symm⟩
    · split at h
      · simp only [Prod.mk.injEq] at h; exact ⟨h.1.symm, .inr h.2.symm⟩
      · simp only [Prod.mk.injEq] at h; exact absurd h.2.symm he
theorem some_right : ∀ b : Fin 256, cRight (cSome (b.val : Int)) 4 4 = true := by decide +kernel
theorem some_rightI {b : Int} (h : 0 ≤ b ∧ b ≤ 255) : cRight (cSome b) 4 4 = true := by
  have := some_right ⟨b.toNat, by omega⟩
  rwa [show ((b.toNat : Nat) : Int) = b by omega] at this
theorem right_mono {o : Oq} {n m n' m' : Int} (hn : n ≤ n') (hm : m ≤ m') (h : cRight o n m = true) : cRight o n' m' = true := by
  unfold cRight at *
  rw [Bool.and_eq_true, decide_eq_true_eq] at *
  obtain ⟨h1, h2⟩ := h
  refine ⟨by omega, ?_⟩
  split
  · rename_i hk; rw [if_pos hk, decide_eq_true_eq] at h2; rw [decide_eq_true_eq]; omega
  · rename_i hk
    rw [if_neg hk] at h2
    split
    · rename_i hk2; rw [if_pos hk2] at h2; exact h2
    · rename_i hk2
      rw [if_neg hk2] at h2
      split
      · rename_i hk3; rw [if_pos hk3, decide_eq_true_eq] at h2; rw [decide_eq_true_eq]; omega
      · rename_i hk3; rw [if_neg hk3] at h2; exact h2
theorem right_cap (o : Oq) {n m : Int} (hn : 4 ≤ n) (hm : 4 ≤ m) : cRight o n m = cRight o 4 4 := by
  unfold cRight
  rw [show min n 4 = 4 by omega, show min m 4 = 4 by omega]; rfl
theorem fits_mono {l : List Oq} {n m n' m' : Int} (hn : n ≤ n') (hm : m ≤ m') (h : cFits l n m = true) : cFits l n' m' = true := by
  unfold cFits at *
  rw [Bool.and_eq_true, List.all_eq_true] at *
  exact ⟨fun o ho => right_mono hn hm (h.1 o ho), h.2⟩
theorem fits_cap (l : List Oq) {n m : Int} (hn : 4 ≤ n) (hm : 4 ≤ m) : cFits l n m = cFits l 4 4 := by
  unfold cFits
  congr 2
  funext o; exact right_cap o hn hm
theorem writes_app (a b : List Oq) : cWrites (a ++ b) = cWrites a + cWrites b := by unfold cWrites; exact List.countP_append
theorem writes_le (l : List Oq) : cWrites l ≤ l.length := List.countP_le_length
end Go.Proofs.YtffdgkofolomlaaDoor
