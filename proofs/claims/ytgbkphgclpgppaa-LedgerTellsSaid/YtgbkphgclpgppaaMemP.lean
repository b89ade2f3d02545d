/- Layer mem: what the chapter asks, as plain functions on lists of numbers. -/
import Derived.Test.YtgbkphgclpgppaaCore3
namespace Go.Proofs.Ytgbkphgclpgppaa

/-- a deed -/
structure Dd where
  k : Int
  t : Int
  a : Int
  b : Int

/-- numbers of 64 bits -/
def U (x : Int) : Prop := 0 ≤ x ∧ x ≤ 18446744073709551615
def AllU (l : List Int) : Prop := ∀ x ∈ l, U x
def DdU (o : Dd) : Prop := U o.a ∧ U o.b ∧ (-9223372036854775808 ≤ o.k ∧ o.k ≤ 9223372036854775807) ∧ -9223372036854775808 ≤ o.t ∧ o.t ≤ 9223372036854775807
/-- a sum, modulo 2^64 -/
def addU (v a : Int) : Int := (v + a) % 18446744073709551616

def kindF (o : Dd) : Bool := decide (1 ≤ o.k ∧ o.k ≤ 4)
def placeF (m : List Int) (o : Dd) : Bool := decide (0 ≤ o.t ∧ o.t < (m.length : Int))
def atF (m : List Int) (o : Dd) : Bool := kindF o && placeF m o
def wasF (m : List Int) (o : Dd) : Int := m.getD o.t.toNat 0
def vF (m : List Int) (o : Dd) : Int := if atF m o then wasF m o else 0
def okF (m : List Int) (o : Dd) : Bool := atF m o && (o.k != 3 || wasF m o == o.a)
def newF (v : Int) (o : Dd) : Int := if o.k = 2 then o.a else if o.k = 3 then (if v = o.a then o.b else v) else if o.k = 4 then addU v o.a else v
def mF (m : List Int) (o : Dd) : List Int := if atF m o then m.set o.t.toNat (newF (wasF m o) o) else m

/-- all of a list, one behind another -/
def allM : List Int → List Dd → List Int
  | m, [] => m
  | m, o :: l => allM (mF m o) l
def allV : List Int → List Dd → List Int
  | _, [] => []
  | m, o :: l => vF m o :: allV (mF m o) l
def allN : List Int → List Dd → Nat
  | _, [] => 0
  | m, o :: l => (if okF m o then 1 else 0) + allN (mF m o) l

theorem mF_len (m : List Int) (o : Dd) : (mF m o).length = m.length := by unfold mF; split <;> simp
theorem allM_len : ∀ (l : List Dd) (m : List Int), (allM m l).length = m.length
  | [], _ => rfl
  | o :: l, m => by rw [allM, allM_len l, mF_len]
theorem allV_len : ∀ (l : List Dd) (m : List Int), (allV m l).length = l.length
  | [], _ => rfl
  | o :: l, m => by rw [allV, List.length_cons, allV_len l]; rfl
theorem allN_le : ∀ (l : List Dd) (m : List Int), allN m l ≤ l.length
  | [], _ => Nat.le_refl _
  | o :: l, m => by rw [allN, List.length_cons]; have := allN_le l (mF m o); split <;> omega
theorem allM_app : ∀ (a b : List Dd) (m : List Int), allM m (a ++ b) = allM (allM m a) b
  | [], _, _ => rfl
  | o :: a, b, m => by rw [List.cons_append, allM, allM, allM_app a b]
theorem allV_app : ∀ (a b : List Dd) (m : List Int), allV m (a ++ b) = allV m a ++ allV (allM m a) b
  | [], _, _ => rfl
  | o :: a, b, m => by rw [List.cons_append, allV, allV, allM, allV_app a b, List.cons_append]
theorem allN_app : ∀ (a b : List Dd) (m : List Int), allN m (a ++ b) = allN m a + allN (allM m a) b
  | [], _, _ => by simp [allN, allM]
  | o :: a, b, m => by rw [List.cons_append, allN, allN, allM, allN_app a b, Nat.add_assoc]
theorem allM_snoc (m : List Int) (l : List Dd) (o : Dd) : allM m (l ++ [o]) = mF (allM m l) o := by rw [allM_app]; rfl
theorem allV_snoc (m : List Int) (l : List Dd) (o : Dd) : allV m (l ++ [o]) = allV m l ++ [vF (allM m l) o] := by rw [allV_app]; rfl
theorem allN_snoc (m : List Int) (l : List Dd) (o : Dd) : allN m (l ++ [o]) = allN m l + (if okF (allM m l) o then 1 else 0) := by rw [allN_app]; rfl

theorem addU_U (v a : Int) : U (addU v a) := by unfold addU U; omega
theorem wasF_U {m : List Int} (h : AllU m) (o : Dd) : U (wasF m o) := by
  unfold wasF
  rw [List.getD_eq_getElem?_getD]
  cases e : m[o.t.toNat]? with
  | none => simp [U]
  | some x => exact h x (List.mem_of_getElem? e)
theorem vF_U {m : List Int} (h : AllU m) (o : Dd) : U (vF m o) := by
  unfold vF; split
  · exact wasF_U h o
  · simp [U]
theorem newF_U {v : Int} (h : U v) {o : Dd} (ho : DdU o) : U (newF v o) := by
  unfold newF
  split
  · exact ho.1
  · split
    · split
      · exact ho.2.1
      · exact h
    · split
      · exact addU_U _ _
      · exact h
theorem mF_U {m : List Int} (h : AllU m) {o : Dd} (ho : DdU o) : AllU (mF m o) := by
  unfold mF
  split
  · intro x hx
    rcases List.mem_or_eq_of_mem_set hx with hx | rfl
    · exact h x hx
    · exact newF_U (wasF_U h o) ho
  · exact h
theorem allM_U : ∀ (l : List Dd) (m : List Int), AllU m → (∀ o ∈ l, DdU o) → AllU (allM m l)
  | [], _, h, _ => h
  | o :: l, m, h, hl => allM_U l _ (mF_U h (hl o (by simp))) (fun x hx => hl x (by simp [hx]))

theorem atF_iff {m : List Int} {o : Dd} : atF m o = true ↔ (1 ≤ o.k ∧ o.k ≤ 4) ∧ 0 ≤ o.t ∧ o.t < (m.length : Int) := by
  unfold atF kindF placeF; rw [Bool.and_eq_true, decide_eq_true_eq, decide_eq_true_eq]
theorem at_off {m : List Int} {o : Dd} (h : ¬ ((1 ≤ o.k ∧ o.k ≤ 4) ∧ 0 ≤ o.t ∧ o.t < (m.length : Int))) : vF m o = 0 ∧ okF m o = false ∧ mF m o = m := by
  have h0 : atF m o = false := by
    cases e : atF m o with
    | false => rfl
    | true => exact absurd (atF_iff.1 e) h
  unfold vF okF mF
  simp [h0]
theorem at_on {m : List Int} {o : Dd} (h : (1 ≤ o.k ∧ o.k ≤ 4) ∧ 0 ≤ o.t ∧ o.t < (m.length : Int)) : vF m o = wasF m o ∧ okF m o = (o.k != 3 || wasF m o == o.a) ∧ mF m o = m.set o.t.toNat (newF (wasF m o) o) := by
  have h0 : atF m o = true := atF_iff.2 h
  unfold vF okF mF
  simp [h0]
theorem was_get {m : List Int} {o : Dd} (h : o.t.toNat < m.length) : wasF m o = m[o.t.toNat] := by
  unfold wasF; rw [List.getD_eq_getElem?_getD, List.getElem?_eq_getElem h]; rfl
theorem set_self {m : List Int} {o : Dd} : m.set o.t.toNat (wasF m o) = m := by
  by_cases h : o.t.toNat < m.length
  · rw [was_get h]; exact List.set_getElem_self h
  · exact List.set_eq_of_length_le (by omega)
end Go.Proofs.Ytgbkphgclpgppaa
