/- Layer code: named values; a slice of ops that is known. -/
import Derived.Test.YtffdgkofolomlaaDoorCodeParse
import Derived.Test.YtffdgkofolomlaaDoorCodePrint
namespace Go.Proofs.YtffdgkofolomlaaDoor
open Go.RowKit Go.Shelf Go.Proofs

theorem Parse_c (bs : List UInt8) (L : List Oq) (e : Int) (N : Nat) (hp : cParse bs = (L, e)) (hN : L.length = N) (s : ByteArray) (hs : s.data.toList = bs) (hb : s.size ≤ 9223372036854775807) (w : World) :
    Calls Tryd.prog 10 #[.string s] w fun en w' => ∃ A c, en = .returned (.tuple #[.slice A N c, .int .i64 e]) ∧ (N ≤ c ∧ c ≤ 9223372036854775807) ∧ Oqs w' (.slice A N c) L ∧ Below w.heap.size w w' := by
  refine (Parse_any s w hb).mono ?_
  rintro en w' ⟨v, rfl, ho, hB⟩
  rw [hs, hp] at ho ⊢
  subst hN
  have hS : Oqs w' v L := Sl.of_own oq_len ho
  obtain ⟨A, c, rfl, h1, h2⟩ := own_form ho
  exact ⟨A, c, rfl, ⟨h1, by unfold maxLen at h2; omega⟩, hS, hB⟩
theorem Print_c (l : List Oq) (T : List UInt8) (N : Nat) (A : Option Addr) (c : Nat) (hN : l.length = N) (hT : cPrint l = T) (w : World) (h : Oqs w (.slice A N c) l) (hbig : N * 32 ≤ 140737488351232) :
    Calls Tryd.prog 22 #[.slice A N c] w fun e w' => e = .returned (.string ⟨T.toArray⟩) ∧ Below w.heap.size w w' := by
  subst hN hT
  exact Print_any _ l w h hbig
theorem Print_nil (w : World) : Calls Tryd.prog 22 #[.slice none 0 0] w fun e w' => e = .returned (.string ⟨#[45]⟩) ∧ Below w.heap.size w w' := Print_any (.slice none 0 0) [] w Sl.nil_ (by simp)
theorem Text_c (k r a z : Int) (T : List UInt8) (hT : cText ⟨k, r, a, z⟩ = T) (w : World) : Calls Tryd.prog 20 #[qv k r a z] w fun e w' => e = .returned (.string ⟨T.toArray⟩) ∧ Below w.heap.size w w' := by
  subst hT
  exact Text_any k r a z w
theorem Writes_c (l : List Oq) (N n : Nat) (A : Option Addr) (c : Nat) (hN : l.length = N) (hW : cWrites l = n) (w : World) (h : Oqs w (.slice A N c) l) :
    Calls Tryd.prog 18 #[.slice A N c] w fun e w' => e = .returned (.int .i64 n) ∧ Below w.heap.size w w' := by
  subst hN hW
  exact Writes_any _ l w h
theorem Fits_c (l : List Oq) (N : Nat) (p q : Int) (b : Bool) (A : Option Addr) (c : Nat) (hN : l.length = N) (hF : cFits l p q = b) (w : World) (h : Oqs w (.slice A N c) l) :
    Calls Tryd.prog 16 #[.slice A N c, .int .i64 p, .int .i64 q] w fun e w' => e = .returned (.bool b) ∧ Below w.heap.size w w' := by
  subst hN hF
  exact Fits_any _ l p q w h
theorem Right_c (k r a s p q : Int) (b : Bool) (hR : cRight ⟨k, r, a, s⟩ p q = b) (w : World) : Calls Tryd.prog 14 #[qv k r a s, .int .i64 p, .int .i64 q] w fun e w' => e = .returned (.bool b) ∧ Below w.heap.size w w' := by
  subst hR
  exact Right_any k r a s p q w
/-- the cells of a slice of ops at place i, whatever its name -/
theorem oq_cells {w : World} {A : Option Addr} {N c : Nat} {l : List Oq} (h : Oqs w (.slice A N c) l) (hN : l.length = N) {i : Nat} {k r a z : Int} (hi : l[i]? = some ⟨k, r, a, z⟩) {g off : Nat} (hA : A = some ⟨g, off, none⟩) :
    w.cell? ⟨g, off + i * 4, none⟩ = some (.int .i64 k) ∧ w.cell? ⟨g, off + i * 4 + 1, none⟩ = some (.int .i64 r) ∧ w.cell? ⟨g, off + i * 4 + 2, none⟩ = some (.int .i64 a) ∧ w.cell? ⟨g, off + i * 4 + 3, none⟩ = some (.int .i64 z) := by
  subst hN
  obtain ⟨hlt, he⟩ := List.getElem?_eq_some_iff.1 hi
  obtain ⟨g', off', e, -, d0, d1, d2, d3⟩ := oq_at h hlt he
  rw [hA] at e
  injection e with e
  injection e with e1 e2
  subst e1 e2
  exact ⟨d0, d1, d2, d3⟩
theorem oq_addr {w : World} {A : Option Addr} {N c : Nat} {l : List Oq} (h : Oqs w (.slice A N c) l) (hN : l.length = N) (h0 : 0 < N) : ∃ g off, A = some ⟨g, off, none⟩ := by
  subst hN
  obtain ⟨k, r, a, z⟩ : Oq := l[0]
  obtain ⟨g, off, e, -⟩ := oq_at h h0 (show l[0] = ⟨l[0].kind, l[0].r, l[0].a, l[0].s⟩ from rfl)
  exact ⟨g, off, e⟩
end Go.Proofs.YtffdgkofolomlaaDoor
