/- Layer bag: each call's contract, with named values. -/
import Derived.Test.YtggfckednjojgaaBagOnce
namespace Go.Proofs.Ytggfckednjojgaa
open Go.RowKit

theorem allK_of {l : List Int} (h : l.all (fun x => decide (-9223372036854775808 ≤ x ∧ x ≤ 9223372036854775807)) = true) : AllK l := fun x hx => by
  have := List.all_eq_true.1 h x hx
  simpa [Kw] using this
theorem lit_ints {w : World} (l : List Int) (n : Nat) (hn : l.length = n) (hl : n ≤ maxLen) : ∃ w1, w.alloc (.cells (l.flatMap ic).toArray 3) = w1 ∧ Below w.heap.size w w1 ∧ Ints w1 (.slice (some ⟨w.heap.size, 0, none⟩) n n) l := by
  subst hn
  exact ⟨_, rfl, bal _ _, Sl.of_own ic_len (own_new w w.heap.size (l.flatMap ic) 3 1 l.length (Nat.le_refl _) (flatMap_len ic_len l) hl)⟩
theorem own_c {w0 w w' : World} {v : Value} {l r : List Int} {n : Nat} (hr : l = r) (hn : r.length = n) (h : w'.ownsRow w0.heap.size 3 1 v l.length (l.flatMap ic)) (hb : Below w.heap.size w w') :
    ∃ A c, v = .slice A n c ∧ (n ≤ c ∧ c ≤ 2 ^ 63 - 1) ∧ Ints w' (.slice A n c) r ∧ Below w.heap.size w w' := by
  subst hr hn
  have hi := own_ints h
  obtain ⟨A, c, rfl, h1, h2⟩ := sl_form hi
  exact ⟨A, c, rfl, ⟨h1, h2⟩, hi, hb⟩
theorem keepc {w w' : World} {p : Addr} {u : Value} (hb : Below w.heap.size w w') (h : w.cell? p = some u) : w'.cell? p = some u := (hb.cell (World.block_lt_of_cell? w _ h)).trans h
theorem ints_pair {w : World} {A : Option Addr} {n c k : Nat} {l : List Int} (h : Ints w (.slice A n c) l) (hk : k + 1 < l.length) :
    ∃ b off, A = some ⟨b, off, none⟩ ∧ w.cell? ⟨b, off + k, none⟩ = some (.int .i64 l[k]) ∧ w.cell? ⟨b, off + (k + 1), none⟩ = some (.int .i64 l[k + 1]) := by
  obtain ⟨b, off, rfl, -, h0⟩ := ints_at h (k := k) (by omega)
  obtain ⟨b', off', e, -, h1⟩ := ints_at h hk
  injection e with e; injection e with e1 e2; subst e1; subst e2
  exact ⟨b, off, rfl, h0, h1⟩
theorem Norm_c (v : Value) (b : List Int) (w : World) (h : Ints w v b) (hk : AllK b) (hb : b.length ≤ 17592186044416) (r : List Int) (hr : normB b = r) (n : Nat) (hn : r.length = n) :
    Calls Try.prog 17 #[v] w fun e w' => ∃ A c, e = .returned (.slice A n c) ∧ (n ≤ c ∧ c ≤ 2 ^ 63 - 1) ∧ Ints w' (.slice A n c) r ∧ Below w.heap.size w w' := by
  refine (bNorm_any v b w h hk hb).mono ?_
  rintro e w' ⟨v', rfl, ho, hbl⟩
  obtain ⟨A, c, rfl, h1, h2, h3⟩ := own_c hr hn ho hbl
  exact ⟨A, c, rfl, h1, h2, h3⟩
theorem Add_c (v : Value) (b : List Int) (o n : Int) (w : World) (h : Ints w v b) (hk : AllK b) (ho : Kw o) (hn : Kw n) (hb : b.length < 17592186044416) (r : List Int) (hr : addB b o n = r) (hb2 : r.length ≤ 17592186044416) (m : Nat) (hm : r.length = m) :
    Calls Try.prog 15 #[v, .int .i64 o, .int .i64 n] w fun e w' => ∃ A c, e = .returned (.slice A m c) ∧ (m ≤ c ∧ c ≤ 2 ^ 63 - 1) ∧ Ints w' (.slice A m c) r ∧ Below w.heap.size w w' := by
  refine (bAdd_any v b o n w h hk ho hn hb (by rw [hr]; exact hb2)).mono ?_
  rintro e w' ⟨v', rfl, ho, hbl⟩
  obtain ⟨A, c, rfl, h1, h2, h3⟩ := own_c hr hm ho hbl
  exact ⟨A, c, rfl, h1, h2, h3⟩
theorem Sum_c (v u : Value) (a b : List Int) (w : World) (h : Ints w v a) (h' : Ints w u b) (hk : AllK a) (hk' : AllK b) (hb : a.length + b.length ≤ 17592186044416) (r : List Int) (hr : sumB a b = r) (m : Nat) (hm : r.length = m) :
    Calls Try.prog 21 #[v, u] w fun e w' => ∃ A c, e = .returned (.slice A m c) ∧ (m ≤ c ∧ c ≤ 2 ^ 63 - 1) ∧ Ints w' (.slice A m c) r ∧ Below w.heap.size w w' := by
  refine (bSum_any v u a b w h h' hk hk' hb).mono ?_
  rintro e w' ⟨v', rfl, ho, hbl⟩
  obtain ⟨A, c, rfl, h1, h2, h3⟩ := own_c hr hm ho hbl
  exact ⟨A, c, rfl, h1, h2, h3⟩
theorem Less_c (v u : Value) (a b : List Int) (w : World) (h : Ints w v a) (h' : Ints w u b) (hk : AllK a) (hk' : AllK b) (hb : a.length ≤ 17592186044416) (r : List Int) (hr : lessL a b = r) (t : Bool) (ht : (lessB a b).isSome = t) (m : Nat) (hm : r.length = m) :
    Calls Try.prog 10 #[v, u] w fun e w' => ∃ A c, e = .returned (.tuple #[.slice A m c, .bool t]) ∧ (m ≤ c ∧ c ≤ 2 ^ 63 - 1) ∧ Ints w' (.slice A m c) r ∧ Below w.heap.size w w' := by
  subst ht
  refine (bLess_any v u a b w h h' hk hk' hb).mono ?_
  rintro e w' ⟨v', rfl, ho, hbl⟩
  obtain ⟨A, c, rfl, h1, h2, h3⟩ := own_c hr hm ho hbl
  exact ⟨A, c, rfl, h1, h2, h3⟩
theorem Count_c (v : Value) (b : List Int) (o : Int) (w : World) (h : Ints w v b) (hk : AllK b) (ho : Kw o) (hb : b.length ≤ 40000000000000) (k : Int) (hr : ((b.count o : Nat) : Int) = k) :
    Calls Try.prog 19 #[v, .int .i64 o] w fun e w' => e = .returned (.int .i64 k) ∧ Below w.heap.size w w' := by
  subst hr
  exact bCount_any v b o w h hk ho hb
theorem Same_c (va vb : Value) (a b : List Int) (w : World) (ha : Ints w va a) (hb : Ints w vb b) (hka : AllK a) (hkb : AllK b) (hla : a.length ≤ 17592186044416) (hlb : b.length ≤ 17592186044416) (t : Bool) (hr : sameB a b = t) :
    Calls Try.prog 23 #[va, vb] w fun e w' => e = .returned (.bool t) ∧ Below w.heap.size w w' := by
  subst hr
  exact bSame_any va vb a b w ha hb hka hkb hla hlb
theorem Once_c (v : Value) (b : List Int) (w : World) (h : Ints w v b) (hk : AllK b) (s : Int) (hs : ((onceV b : Nat) : Int) = s) (t : Bool) (ht : onceB b = t) :
    Calls Try.prog 12 #[v] w fun e w' => e = .returned (.tuple #[.int .u64 s, .bool t]) ∧ Below w.heap.size w w' := by
  subst hs ht
  refine (bOnce_any v b w h hk).mono ?_
  rintro e w' ⟨rfl, rfl⟩
  exact ⟨rfl, Below.refl _ _⟩
end Go.Proofs.Ytggfckednjojgaa
