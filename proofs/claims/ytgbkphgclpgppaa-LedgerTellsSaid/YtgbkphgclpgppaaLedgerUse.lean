/- Layer ledger: each call's contract, with named values. -/
import Derived.Test.YtgbkphgclpgppaaLedgerDo
namespace Go.Proofs.Ytgbkphgclpgppaa
open Go.RowKit

theorem own_use {base : Nat} {w : World} {v : Value} {l : List Int} (h : OwnB base w v l) {N : Nat} (hN : l.length = N) : ∃ A c, v = .slice A N c ∧ (N ≤ c ∧ c ≤ 9223372036854775807) ∧ Ints w (.slice A N c) l := by
  subst hN
  obtain ⟨A, c, rfl, h1, h2⟩ := own_form h
  exact ⟨A, c, rfl, ⟨h1, by unfold maxLen at h2; omega⟩, h.ints⟩
theorem ints_two {w : World} {A : Option Addr} {c : Nat} {x y : Int} (h : Ints w (.slice A 2 c) [x, y]) : ∃ b off, A = some ⟨b, off, none⟩ ∧ w.cell? ⟨b, off, none⟩ = some (.int .i64 x) ∧ w.cell? ⟨b, off + 1, none⟩ = some (.int .i64 y) := by
  obtain ⟨b, off, rfl, -, h0⟩ := ints_at h (k := 0) (by simp)
  obtain ⟨b', off', e, -, h1⟩ := ints_at h (k := 1) (by simp)
  injection e with e; injection e with e1 e2; subst e1; subst e2
  exact ⟨b, off, rfl, h0, h1⟩
theorem field_bal (A : Option Addr) (n c : Nat) (w : World) : (Instr.field 24 (.agg #[.int .i64 0, .int .i64 0, .int .i64 0, .slice A n c]) 3).run Try.prog w = .ok (.slice A n c) w := by
  have h0 := Try.underlying24
  simp [Instr.field, run_underlying h0, asAgg, part, Try.isAgg22, Try.sizeOf22]
theorem New_c (m : Int) (r : List Int) (N : Nat) (hr : (lNew m).bal = r) (hN : r.length = N) (w : World) :
    Calls Try.prog 25 #[.int .i64 m] w fun e w' => ∃ A c, e = .returned (lv 0 0 0 (.slice A N c)) ∧ (N ≤ c ∧ c ≤ 9223372036854775807) ∧ Ints w' (.slice A N c) r ∧ Below w.heap.size w w' := by
  subst hr
  refine (New_any m w).mono ?_
  rintro e w' ⟨v', rfl, ho, hb⟩
  obtain ⟨A, c, rfl, h1, h2⟩ := own_use ho hN
  exact ⟨A, c, rfl, h1, h2, hb⟩
theorem Earn_c (a b c : Int) (v : Value) (l : List Int) (who : Int) (w : World) (h : Ints w v l) (hbig : l.length * 8 ≤ 140737488351232) (a1 b1 c1 : Int) (l1 : List Int) (N : Nat) (hR : lEarn ⟨a, b, c, l⟩ who = ⟨a1, b1, c1, l1⟩) (hN : l1.length = N) :
    Calls Try.prog 16 #[lv a b c v, .int .i64 who] w fun e w' => ∃ A m, e = .returned (lv a1 b1 c1 (.slice A N m)) ∧ (N ≤ m ∧ m ≤ 9223372036854775807) ∧ Ints w' (.slice A N m) l1 ∧ Below w.heap.size w w' := by
  refine (Earn_any a b c v l who w h hbig ⟨a1, b1, c1, l1⟩ hR).mono ?_
  rintro e w' ⟨v', rfl, ho, hb⟩
  obtain ⟨A, m, rfl, h1, h2⟩ := own_use ho hN
  exact ⟨A, m, rfl, h1, h2, hb⟩
theorem Take_c (a b c : Int) (v : Value) (l : List Int) (who want : Int) (w : World) (h : Ints w v l) (hbig : l.length * 8 ≤ 140737488351232) (a1 b1 c1 : Int) (l1 : List Int) (N : Nat) (t : Int) (hR : lTake ⟨a, b, c, l⟩ who want = ⟨a1, b1, c1, l1⟩) (ht : lTook ⟨a, b, c, l⟩ who want = t) (hN : l1.length = N) :
    Calls Try.prog 11 #[lv a b c v, .int .i64 who, .int .i64 want] w fun e w' => ∃ A m, e = .returned (.tuple #[lv a1 b1 c1 (.slice A N m), .int .i64 t]) ∧ (N ≤ m ∧ m ≤ 9223372036854775807) ∧ Ints w' (.slice A N m) l1 ∧ Below w.heap.size w w' := by
  refine (Take_any a b c v l who want w h hbig ⟨a1, b1, c1, l1⟩ t hR ht).mono ?_
  rintro e w' ⟨v', rfl, ho, hb⟩
  obtain ⟨A, m, rfl, h1, h2⟩ := own_use ho hN
  exact ⟨A, m, rfl, h1, h2, hb⟩
theorem Spend_c (a b c : Int) (v : Value) (l : List Int) (who p q : Int) (w : World) (h : Ints w v l) (hbig : l.length * 8 ≤ 140737488351232) (a1 b1 c1 : Int) (l1 : List Int) (N : Nat) (d : Bool) (hR : lSpend ⟨a, b, c, l⟩ who p q = ⟨a1, b1, c1, l1⟩) (hd : lMay ⟨a, b, c, l⟩ who p q = d) (hN : l1.length = N) :
    Calls Try.prog 13 #[lv a b c v, .int .i64 who, .int .i64 p, .int .i64 q] w fun e w' => ∃ A m, e = .returned (.tuple #[lv a1 b1 c1 (.slice A N m), .bool d]) ∧ (N ≤ m ∧ m ≤ 9223372036854775807) ∧ Ints w' (.slice A N m) l1 ∧ Below w.heap.size w w' := by
  refine (Spend_any a b c v l who p q w h hbig ⟨a1, b1, c1, l1⟩ d hR hd).mono ?_
  rintro e w' ⟨v', rfl, ho, hb⟩
  obtain ⟨A, m, rfl, h1, h2⟩ := own_use ho hN
  exact ⟨A, m, rfl, h1, h2, hb⟩
theorem do_c (k x n q : Int) (hk : U8 k) (hx : U8 x) (hn : U8 n) (hq : U8 q) (a b c : Int) (v : Value) (l : List Int) (w : World) (h : Ints w v l) (hbig : l.length * 8 ≤ 140737488351232) (a1 b1 c1 : Int) (l1 : List Int) (N : Nat) (hR : lDo ⟨a, b, c, l⟩ k x n q = ⟨a1, b1, c1, l1⟩) (hN : l1.length = N) :
    Calls Try.prog 27 #[dv k x n q, lv a b c v] w fun e w' => ∃ A m, e = .returned (lv a1 b1 c1 (.slice A N m)) ∧ (N ≤ m ∧ m ≤ 9223372036854775807) ∧ Ints w' (.slice A N m) l1 ∧ Below w.heap.size w w' := by
  refine (do_any k x n q hk hx hn hq a b c v l w h hbig ⟨a1, b1, c1, l1⟩ hR).mono ?_
  rintro e w' ⟨v', rfl, ho, hb⟩
  obtain ⟨A, m, rfl, h1, h2⟩ := own_use ho hN
  exact ⟨A, m, rfl, h1, h2, hb⟩
theorem Right_c (a b c : Int) (v : Value) (l : List Int) (w : World) (h : Ints w v l) (r : Bool) (hr : lRight ⟨a, b, c, l⟩ = r) :
    Calls Try.prog 18 #[lv a b c v] w fun e w' => e = .returned (.bool r) ∧ Below w.heap.size w w' := by
  subst hr; exact Right_any a b c v l w h
theorem May_c (a b c : Int) (v : Value) (l : List Int) (who p q : Int) (w : World) (h : Ints w v l) (r : Bool) (hr : lMay ⟨a, b, c, l⟩ who p q = r) :
    Calls Try.prog 20 #[lv a b c v, .int .i64 who, .int .i64 p, .int .i64 q] w fun e w' => e = .returned (.bool r) ∧ Below w.heap.size w w' := by
  subst hr; exact May_any a b c v l who p q w h
theorem Lacks_c (a b c : Int) (v : Value) (l : List Int) (who p q : Int) (w : World) (h : Ints w v l) (r : Int) (hr : lLacks ⟨a, b, c, l⟩ who p q = r) :
    Calls Try.prog 22 #[lv a b c v, .int .i64 who, .int .i64 p, .int .i64 q] w fun e w' => e = .returned (.int .i64 r) ∧ Below w.heap.size w w' := by
  subst hr; exact Lacks_any a b c v l who p q w h
theorem Same_c (a b c : Int) (v : Value) (l : List Int) (a' b' c' : Int) (v' : Value) (l' : List Int) (w : World) (h1 : Ints w v l) (h2 : Ints w v' l') (r : Bool) (hr : lSame ⟨a, b, c, l⟩ ⟨a', b', c', l'⟩ = r) :
    Calls Try.prog 24 #[lv a b c v, lv a' b' c' v'] w fun e w' => e = .returned (.bool r) ∧ Below w.heap.size w w' := by
  subst hr; exact Same_any a b c v l a' b' c' v' l' w h1 h2
end Go.Proofs.Ytgbkphgclpgppaa
