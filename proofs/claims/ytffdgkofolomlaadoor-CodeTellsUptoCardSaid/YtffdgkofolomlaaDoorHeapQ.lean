/- Layer heap: texts of heaps, and how they are read, as plain functions on lists. -/
import Derived.Test.YtffdgkofolomlaaDoorHeapP
namespace Go.Proofs.YtffdgkofolomlaaDoor

abbrev B8 := List UInt8
def dec (n : Int) : B8 := Go.Lib.decDigits n.toNat
def isD (b : UInt8) : Bool := [48, 49, 50, 51, 52, 53, 54, 55, 56, 57].contains b
inductive Prt where
  | num (n : Int)
  | mrk (m : B8)
def hFirstF (l : B8) : Option Prt :=
  if l.takeWhile isD = [] then some (.mrk (l.take 1)) else
    match Go.Lib.atoiAll (l.takeWhile isD) with
    | .ok n => if dec n = l.takeWhile isD then some (.num n) else none
    | _ => none
def numF (l : B8) : Option (Int × B8) :=
  match hFirstF l with
  | some (.num n) => some (n, l.drop (dec n).length)
  | _ => none
def passF (c : UInt8) (l : B8) : Option B8 :=
  match hFirstF l with
  | some (.mrk m) => if m = [c] then some (l.drop 1) else none
  | _ => none
def aheadF (s : Nat) : UInt8 := if s = 0 then 124 else 44
def slotsF : Nat → Nat → B8 → Option (List Int × B8)
  | 0, _, l => some ([], l)
  | k + 1, s, l =>
    match passF (aheadF s) l with
    | none => none
    | some l1 =>
      match numF l1 with
      | none => none
      | some (v, l2) => (slotsF k (s + 1) l2).map fun x => (v :: x.1, x.2)
def objsF (n : Nat) : Nat → B8 → Option (Rws × B8)
  | 0, l => some ([], l)
  | f + 1, l =>
    if l = [] then some ([], l) else
      match slotsF n 0 l with
      | none => none
      | some (r, l1) => (objsF n f l1).map fun x => (r :: x.1, x.2)
def heapF (l : B8) : Option (Int × Rws) :=
  match numF l with
  | none => none
  | some (n, l1) =>
    if rightF n [] then
      match objsF n.toNat 65 l1 with
      | none => none
      | some (ls, _) => if rightF n ls then some (n, ls) else none
    else none
/-- what stands behind slot s, with it -/
def slotsT : Nat → List Int → B8
  | _, [] => []
  | s, v :: r => aheadF s :: dec v ++ slotsT (s + 1) r
def hTextF (n : Int) (ls : Rws) : B8 := if rightF n ls then dec n ++ ls.flatMap (slotsT 0) else [63]

/-! ### what is read is the text -/
theorem take_drop_while (l : B8) : l = l.takeWhile isD ++ l.dropWhile isD := List.takeWhile_append_dropWhile.symm
theorem drop_take : ∀ l : B8, l.drop (l.takeWhile isD).length = l.dropWhile isD
  | [] => rfl
  | b :: l => by
    rw [List.takeWhile_cons, List.dropWhile_cons]
    by_cases h : isD b = true
    · rw [if_pos h, if_pos h]; simpa using drop_take l
    · rw [if_neg h, if_neg h]; rfl
theorem numF_eq {l l1 : B8} {n : Int} (h : numF l = some (n, l1)) : l = dec n ++ l1 := by
  unfold numF hFirstF at h
  split at h
  · rename_i m he
    split at he
    · cases he
    · split at he
      · split at he
        · rename_i hd
          cases he; cases h
          conv => lhs; rw [take_drop_while l]
          rw [hd]
          rw [drop_take]
        · cases he
      · cases he
  · cases h
theorem passF_eq {c : UInt8} {l l1 : B8} (h : passF c l = some l1) : l = c :: l1 := by
  unfold passF hFirstF at h
  split at h
  · rename_i m he
    split at he
    · cases he
      split at h
      · rename_i hm
        cases h
        cases l with
        | nil => simp at hm
        | cons b r => simp at hm; simp [hm]
      · cases h
    · split at he
      · split at he <;> cases he
      · cases he
  · cases h
theorem slotsF_eq : ∀ (k s : Nat) {l l1 : B8} {r : List Int}, slotsF k s l = some (r, l1) → l = slotsT s r ++ l1 ∧ r.length = k
  | 0, s, l, l1, r, h => by unfold slotsF at h; cases h; simp [slotsT]
  | k + 1, s, l, l1, r, h => by
    unfold slotsF at h
    split at h
    · cases h
    · rename_i l2 hp
      split at h
      · cases h
      · rename_i v l3 hn
        rcases hs : slotsF k (s + 1) l3 with _ | ⟨r', l4⟩
        · rw [hs] at h; cases h
        · rw [hs] at h; cases h
          obtain ⟨h1, h2⟩ := slotsF_eq k (s + 1) hs
          refine ⟨?_, by simp [h2]⟩
          rw [passF_eq hp, numF_eq hn, h1]
          simp [slotsT]
theorem objsF_eq (n : Nat) : ∀ (f : Nat) {l l1 : B8} {ls : Rws}, objsF n f l = some (ls, l1) → l = ls.flatMap (slotsT 0) ++ l1 ∧ (l1 = [] ∨ ls.length = f)
  | 0, l, l1, ls, h => by unfold objsF at h; cases h; simp
  | f + 1, l, l1, ls, h => by
    unfold objsF at h
    split at h
    · rename_i hl; cases h; simp [hl]
    · split at h
      · cases h
      · rename_i r l2 hs
        rcases ho : objsF n f l2 with _ | ⟨r', l4⟩
        · rw [ho] at h; cases h
        · rw [ho] at h; cases h
          obtain ⟨h1, h2⟩ := objsF_eq n f ho
          obtain ⟨h3, _⟩ := slotsF_eq n 0 hs
          refine ⟨by rw [h3, h1]; simp, ?_⟩
          rcases h2 with h2 | h2
          · exact .inl h2
          · exact .inr (by simp [h2])
/-- (B) -/
theorem heapF_text {t : B8} {n : Int} {ls : Rws} (h : heapF t = some (n, ls)) : rightF n ls = true ∧ hTextF n ls = t := by
  unfold heapF at h
  split at h
  · cases h
  · rename_i m l1 hn
    split at h
    · split at h
      · cases h
      · rename_i ls' l2 ho
        split at h
        · rename_i hr
          cases h
          refine ⟨hr, ?_⟩
          obtain ⟨h1, h2⟩ := objsF_eq _ _ ho
          have hl := right_len hr
          have h3 : l2 = [] := by
            rcases h2 with h2 | h2
            · exact h2
            · omega
          unfold hTextF
          rw [if_pos hr, numF_eq hn, h1, h3, List.append_nil]
        · cases h
    · cases h

/-! ### the text is read -/
def dg (n : Nat) : B8 := if n < 10 then [(48 + n).toUInt8] else [(48 + n / 10).toUInt8, (48 + n % 10).toUInt8]
theorem dec_dg {n : Nat} (h : n < 100) : Go.Lib.decDigits n = dg n := by
  unfold dg
  rw [Go.Lib.decDigits]
  split
  · rfl
  · rename_i h1
    rw [Go.Lib.decDigits, dif_pos (by omega)]
    rfl
theorem dg_digits : ∀ n : Fin 65, (dg n.val).all isD = true ∧ dg n.val ≠ [] ∧ Go.Lib.atoiAll (dg n.val) = .ok (n.val : Int) := by decide +kernel
/-- no digit first -/
def noD (l : B8) : Prop := ∀ b r, l = b :: r → isD b = false
theorem take_all {p : UInt8 → Bool} : ∀ (a l : B8), a.all p = true → (∀ b r, l = b :: r → p b = false) → (a ++ l).takeWhile p = a
  | [], l, _, h => by
    cases l with
    | nil => rfl
    | cons b r => simp [h b r rfl]
  | x :: a, l, ha, h => by
    rw [List.all_cons, Bool.and_eq_true] at ha
    rw [List.cons_append, List.takeWhile_cons, if_pos ha.1, take_all a l ha.2 h]
theorem numF_dec {v : Int} (h0 : 0 ≤ v) (h1 : v ≤ 64) {l : B8} (hl : noD l) : numF (dec v ++ l) = some (v, l) := by
  obtain ⟨k, rfl⟩ : ∃ k : Nat, v = k := ⟨v.toNat, by omega⟩
  obtain ⟨a, b, c⟩ := dg_digits ⟨k, by omega⟩
  have e : dec (k : Int) = dg k := by unfold dec; rw [Int.toNat_natCast]; exact dec_dg (by omega)
  have ht : (dg k ++ l).takeWhile isD = dg k := take_all _ _ a hl
  unfold numF hFirstF
  rw [e, ht, if_neg b]
  simp only [] at c
  rw [c]
  simp only
  rw [if_pos e]
  simp only
  rw [e, List.drop_left]
theorem passF_cons {c : UInt8} (hc : isD c = false) (l : B8) : passF c (c :: l) = some l := by
  unfold passF hFirstF
  rw [List.takeWhile_cons, hc]
  simp
theorem ahead_noD (s : Nat) : isD (aheadF s) = false := by unfold aheadF; split <;> decide
theorem slotsT_noD (s : Nat) (r : List Int) {l : B8} (hl : noD l) : noD (slotsT s r ++ l) := by
  cases r with
  | nil => exact hl
  | cons v r =>
    intro b q h
    simp only [slotsT, List.cons_append, List.cons.injEq] at h
    rw [← h.1]; exact ahead_noD s
theorem slotsF_text : ∀ (r : List Int) (s : Nat) {l : B8}, noD l → (∀ v ∈ r, 0 ≤ v ∧ v ≤ 64) → slotsF r.length s (slotsT s r ++ l) = some (r, l)
  | [], s, l, _, _ => rfl
  | v :: r, s, l, hl, hr => by
    have hv := hr v (List.mem_cons_self ..)
    rw [List.length_cons]
    unfold slotsF slotsT
    rw [List.append_assoc, List.cons_append, passF_cons (ahead_noD s)]
    simp only
    rw [numF_dec hv.1 hv.2 (slotsT_noD (s + 1) r hl)]
    simp only
    rw [slotsF_text r (s + 1) hl (fun v h => hr v (List.mem_cons_of_mem _ h))]
    rfl
theorem noD_nil : noD [] := by intro b r h; cases h
theorem objs_noD : ∀ ls : Rws, noD (ls.flatMap (slotsT 0))
  | [] => noD_nil
  | r :: ls => by rw [List.flatMap_cons]; exact slotsT_noD 0 r (objs_noD ls)
theorem objsF_text (n : Nat) (hn : 0 < n) : ∀ (ls : Rws) (f : Nat), ls.length < f → (∀ r ∈ ls, r.length = n ∧ ∀ v ∈ r, 0 ≤ v ∧ v ≤ (64 : Int)) → objsF n f (ls.flatMap (slotsT 0)) = some (ls, [])
  | [], f, hf, _ => by
    cases f with
    | zero => omega
    | succ f => rfl
  | r :: ls, f, hf, h => by
    cases f with
    | zero => simp at hf
    | succ f =>
      have hr := h r (List.mem_cons_self ..)
      unfold objsF
      rw [List.flatMap_cons]
      have hne : ¬ (slotsT 0 r ++ ls.flatMap (slotsT 0) = []) := by
        cases r with
        | nil => simp at hr; omega
        | cons v r => simp [slotsT]
      have hs := slotsF_text r 0 (objs_noD ls) hr.2
      rw [hr.1] at hs
      rw [if_neg hne, hs]
      simp only
      rw [objsF_text n hn ls f (by simpa using hf) (fun r h' => h r (List.mem_cons_of_mem _ h'))]
      rfl
/-- (A) -/
theorem heapF_of {n : Int} {ls : Rws} (h : rightF n ls = true) : heapF (hTextF n ls) = some (n, ls) := by
  have hl := right_len h
  have hr := right_rows h
  unfold heapF hTextF
  rw [if_pos h, numF_dec (by omega) (by omega) (objs_noD ls)]
  simp only
  rw [if_pos (right_of (by simp; omega) (by simp))]
  rw [objsF_text n.toNat (by omega) ls 65 (by omega) (fun r hr' => ⟨by have := (hr r hr').1; omega, fun v hv => by have := (hr r hr').2 v hv; omega⟩)]
  simp only
  rw [if_pos h]
/-- of what is not right nothing -/
theorem heapF_wrong : heapF [63] = none := by decide +kernel
end Go.Proofs.YtffdgkofolomlaaDoor
