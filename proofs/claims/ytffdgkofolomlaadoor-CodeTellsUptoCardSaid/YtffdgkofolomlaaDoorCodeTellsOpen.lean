/- Layer code: what CodeTells stands on: the document's side, named. -/
import Derived.Test.YtffdgkofolomlaaDoorCodeSomeOpen
import Derived.Test.YtffdgkofolomlaaDoorCodeRefs
import Derived.Deep.DeepHandedRow
namespace Go.Proofs.YtffdgkofolomlaaDoor
open Go.RowKit Go.Shelf Go.Proofs

theorem rParse_c (t : List UInt8) (L : List Oq) (e : Int) (N : Nat) (hp : cParse t = (L, e)) (hN : L.length = N) (s : ByteArray) (hs : s.data.toList = t) (hb : s.size ≤ 1048576) (w : World) :
    Calls Tryd.prog 11 #[.string s] w fun en w' => ∃ A c, en = .returned (.tuple #[.slice A N c, .int .i64 e]) ∧ (N ≤ c ∧ c ≤ 9223372036854775807) ∧ Oqs w' (.slice A N c) L ∧ Below w.heap.size w w' := by
  subst hs hN
  refine (rcParse_any s w hb).mono ?_
  rintro en w' ⟨v, rfl, ho, hB⟩
  rw [hp] at ho ⊢
  obtain ⟨A, c, rfl, h1, h2, -⟩ := id ho
  exact ⟨A, c, rfl, ⟨h1, by unfold maxLen at h2; omega⟩, ho, hB⟩
theorem rRight_c (k r a s p q : Int) (b : Bool) (hR : cRight ⟨k, r, a, s⟩ p q = b) (w : World) : Calls Tryd.prog 15 #[qv k r a s, .int .i64 p, .int .i64 q] w fun e w' => e = .returned (.bool b) ∧ Below w.heap.size w w' := by
  subst hR
  exact rcRight_any k r a s p q w
theorem rFits_c (l : List Oq) (N : Nat) (p q : Int) (b : Bool) (A : Option Addr) (c : Nat) (hN : l.length = N) (hF : cFits l p q = b) (w : World) (h : Oqs w (.slice A N c) l) :
    Calls Tryd.prog 17 #[.slice A N c, .int .i64 p, .int .i64 q] w fun e w' => e = .returned (.bool b) ∧ Below w.heap.size w w' := by
  subst hN hF
  exact rcFits_any _ l p q w h
theorem rWrites_c (l : List Oq) (N n : Nat) (A : Option Addr) (c : Nat) (hN : l.length = N) (hW : cWrites l = n) (w : World) (h : Oqs w (.slice A N c) l) :
    Calls Tryd.prog 19 #[.slice A N c] w fun e w' => e = .returned (.int .i64 n) ∧ Below w.heap.size w w' := by
  subst hN hW
  refine (rcWrites_any _ l w h).mono ?_
  rintro e w' ⟨rfl, rfl⟩
  exact ⟨rfl, Below.refl _ _⟩
theorem rText_s (k r a z : Int) (T : ByteArray) (hT : (⟨(cText ⟨k, r, a, z⟩).toArray⟩ : ByteArray) = T) (w : World) : Calls Tryd.prog 21 #[qv k r a z] w fun e w' => e = .returned (.string T) ∧ Below w.heap.size w w' := by
  subst hT
  exact rcText_any k r a z w
theorem Print_s (l : List Oq) (T : ByteArray) (N : Nat) (A : Option Addr) (c : Nat) (hN : l.length = N) (hT : (⟨(cPrint l).toArray⟩ : ByteArray) = T) (w : World) (h : Oqs w (.slice A N c) l) (hbig : N * 32 ≤ 140737488351232) :
    Calls Tryd.prog 22 #[.slice A N c] w fun e w' => e = .returned (.string T) ∧ Below w.heap.size w w' := by
  subst hN hT
  exact Print_any _ l w h hbig
theorem rPrint_s (l : List Oq) (T : ByteArray) (N : Nat) (A : Option Addr) (c : Nat) (hN : l.length = N) (hT : (⟨(cPrint l).toArray⟩ : ByteArray) = T) (w : World) (h : Oqs w (.slice A N c) l) (hbig : N * 32 ≤ 140737488351232) :
    Calls Tryd.prog 23 #[.slice A N c] w fun e w' => e = .returned (.string T) ∧ Below w.heap.size w w' := by
  subst hN hT
  exact rcPrint_any _ l w h hbig
theorem lit_op (w : World) (k r a z : Int) : ∃ w1, w.alloc (.cells #[.int .i64 k, .int .i64 r, .int .i64 a, .int .i64 z] 24) = w1 ∧ Below w.heap.size w w1 ∧ Oqs w1 (.slice (some ⟨w.heap.size, 0, none⟩) 1 1) [⟨k, r, a, z⟩] :=
  ⟨_, rfl, cbal _ _, Sl.of_own oq_len (own_new w 0 [.int .i64 k, .int .i64 r, .int .i64 a, .int .i64 z] 24 4 1 (Nat.zero_le _) rfl (by decide))⟩
end Go.Proofs.YtffdgkofolomlaaDoor
