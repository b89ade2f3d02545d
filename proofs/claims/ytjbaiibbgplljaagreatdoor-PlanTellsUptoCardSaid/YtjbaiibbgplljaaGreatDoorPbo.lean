import Derived.Test.YtjbaiibbgplljaaGreatDoorTie
import Derived.Test.YtjbaiibbgplljaaGreatDoorCards
import Derived.HandedShaped
import Derived.LaidMore
import Derived.Lay
import Derived.SevenTiedAt
import Derived.Stop.LaidErr
import Derived.Stop.Joined
import Derived.Lib.LaidTab
import Derived.Test.YtjbaiibbgplljaaGreatDoorPaj
import Derived.Test.YtjbaiibbgplljaaGreatDoorPbc
namespace Go.Proofs.YtjbaiibbgplljaaGreatDoor
open Go.RowKit Go.Shelf Go.Proofs
theorem Fits_c (l : List Oq) (N : Nat) (p q : Int) (b : Bool) (A : Option Addr) (c : Nat) (hN : l.length = N) (hF : cFits l p q = b) (w : World) (h : Oqs w (.slice A N c) l) :
 Calls Tryz.prog 86 #[.slice A N c, .int .i64 p, .int .i64 q] w fun e w' => e = .returned (.bool b) ∧ Below w.heap.size w w' := by
 subst hN hF; exact Fits_any _ l p q w h
theorem oq_cells {w : World} {A : Option Addr} {N c : Nat} {l : List Oq} (h : Oqs w (.slice A N c) l) (hN : l.length = N) {i : Nat} {k r a z : Int} (hi : l[i]? = some ⟨k, r, a, z⟩) {g off : Nat} (hA : A = some ⟨g, off, none⟩) :
 w.cell? ⟨g, off + i * 4, none⟩ = some (.int .i64 k) ∧ w.cell? ⟨g, off + i * 4 + 1, none⟩ = some (.int .i64 r) ∧ w.cell? ⟨g, off + i * 4 + 2, none⟩ = some (.int .i64 a) ∧ w.cell? ⟨g, off + i * 4 + 3, none⟩ = some (.int .i64 z) := by
 subst hN; obtain ⟨hlt, he⟩ := List.getElem?_eq_some_iff.1 hi; obtain ⟨g', off', e, -, d0, d1, d2, d3⟩ := oq_at h hlt he; rw [hA] at e; injection e with e; injection e with e1 e2; subst e1 e2; exact ⟨d0, d1, d2, d3⟩
theorem fieldsCop : Tryz.prog.underlying 96 = some (.struct (Tryz.prog.fieldsOf 96)) := by kernel_rfl
theorem eqIn_cop (a b c d a' b' c' d' : Int) (w : World) : (Op.equalIn 10000 96 (qv a b c d) (qv a' b' c' d')).run Tryz.prog w = .ok (decide ((⟨a, b, c, d⟩ : Oq) = ⟨a', b', c', d'⟩)) w := by
 rw [run_equalIn_agg w 9999 _ _ _ fieldsCop Tryz.stoodInHeld96]; have hf : (Tryz.prog.fieldsOf 96).toList = [⟨ "Kind", 3, 0, false, "", "", 0⟩, ⟨ "R", 3, 1, false, "", "", 8⟩, ⟨ "A", 3, 2, false, "", "", 16⟩, ⟨ "S", 3, 3, false, "", "", 24⟩] := by kernel_rfl
 rw [hf]; by_cases h : a = a' <;> by_cases h1 : b = b' <;> by_cases h2 : c = c' <;> by_cases h3 : d = d' <;> simp [Op.eqFields, go_sem, h, h1, h2, h3]
theorem neq_cop (a b c d a' b' c' d' : Int) (w : World) : (binOp .neq 96 (qv a b c d) (qv a' b' c' d')).run Tryz.prog w = .ok (.bool (!decide ((⟨a, b, c, d⟩ : Oq) = ⟨a', b', c', d'⟩))) w := by
 rw [run_neq_struct, eqIn_cop]; rfl
theorem print_len (p : List Oq) : (cPrint p).length ≤ 6 * p.length + 1 := by
 unfold cPrint; split
 · simp
 · have := join_len p p.length (Nat.le_refl _)
   rw [List.take_length] at this; omega
end Go.Proofs.YtjbaiibbgplljaaGreatDoor
namespace Go.Proofs.YtjbaiibbgplljaaGreatDoor
open Go.RowKit Go.WideShapes Go.ChangeShapes Go.ChangeAt Go.Deep
def I64Cd (x : Int) : Prop := -9223372036854775808 ≤ x ∧ x ≤ 9223372036854775807
