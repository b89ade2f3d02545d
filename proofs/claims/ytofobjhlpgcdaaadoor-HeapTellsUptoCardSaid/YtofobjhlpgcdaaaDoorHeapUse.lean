/- Layer heap: the calls, as statements meet them: what is answered bears names. -/
import Derived.Test.YtofobjhlpgcdaaaDoorHeapTop
import Derived.Test.YtofobjhlpgcdaaaDoorHeapUse0
import Derived.Test.YtofobjhlpgcdaaaDoorHeapExP
namespace Go.Proofs.YtofobjhlpgcdaaaDoor
open Go.RowKit Go.Shelf Go.Proofs

theorem Alloc_c (n : Int) (v : Value) (ls : Rws) (m : Int) (w : World) (h : Grid w v ls) (hf : Fit ls) (R : Rws) (hR : allocF n ls m = R) (k : Nat) (hk : R.length = k) (a : Int) (ha : allocN n ls m = a) (b : Int) (hb : allocE n ls m = b) :
    Calls Tryd.prog 10 #[hv n v, .int .i64 m] w fun e w' => ∃ A c, e = .returned (.tuple #[hv n (.slice A k c), .int .i64 a, .int .i64 b]) ∧ k ≤ c ∧ c ≤ 9223372036854775807 ∧ Hid (OwnR w.heap.size w' (.slice A k c) R) ∧ Below w.heap.size w w' := by
  refine (Alloc_any n v ls m w h hf).mono ?_
  rintro e w' ⟨v', rfl, hO, hB⟩
  rw [hR] at hO
  obtain ⟨A, c, rfl, h1, h2⟩ := own_slice hO
  rw [hk] at h1 hO ⊢
  rw [ha, hb]
  exact ⟨A, c, rfl, h1, h2, hide hO, hB⟩
theorem Text_c (n : Int) (v : Value) (ls : Rws) (w : World) (h : Grid w v ls) (t : ByteArray) (ht : textF n ls = t.data.toList) :
    Calls Tryd.prog 19 #[hv n v] w fun e w' => e = .returned (.string t) ∧ Below w.heap.size w w' := by
  refine (Text_any n v ls w h).mono ?_
  rintro e w' ⟨rfl, hB⟩
  exact ⟨by rw [ht], hB⟩
theorem Same_c (n m : Int) (va vb : Value) (a b : Rws) (w : World) (ha : Grid w va a) (hb : Grid w vb b) (r : Bool) (hr : sameF n a m b = r) :
    Calls Tryd.prog 17 #[hv n va, hv m vb] w fun e w' => e = .returned (.bool r) ∧ Below w.heap.size w w' := by
  subst hr; exact Same_any n m va vb a b w ha hb
theorem Parse_c (t : ByteArray) (w : World) (hl : t.size ≤ 140737488351232) (hE : EnvH w) (n : Int) (R : Rws) (x : Int) (hx : (heapF t.data.toList = some (n, R) ∧ x = 0) ∨ (heapF t.data.toList = none ∧ n = 0 ∧ R = [] ∧ x = 2)) (k : Nat) (hk : R.length = k) :
    Calls Tryd.prog 12 #[.string t] w fun e w' => ∃ A c, e = .returned (.tuple #[hv n (.slice A k c), .int .i64 x]) ∧ k ≤ c ∧ c ≤ 9223372036854775807 ∧ Hid (OwnR w.heap.size w' (.slice A k c) R) ∧ Below w.heap.size w w' := by
  have hP := Parse_any t.data.toList w (by rw [Array.length_toList]; exact hl) hE
  rw [show (⟨t.data.toList.toArray⟩ : ByteArray) = t from rfl] at hP
  rcases hx with ⟨h1, rfl⟩ | ⟨h1, rfl, rfl, rfl⟩
  · rw [h1] at hP
    refine hP.mono ?_
    rintro e w' ⟨⟨v, rfl, hO⟩, hB⟩
    have hO : OwnR w.heap.size w' v R := hO
    obtain ⟨A, c, rfl, h2, h3⟩ := own_slice hO
    rw [hk] at h2 hO ⊢
    exact ⟨A, c, rfl, h2, h3, hide hO, hB⟩
  · rw [h1] at hP
    subst hk
    refine hP.mono ?_
    rintro e w' ⟨rfl, hB⟩
    exact ⟨none, 0, rfl, Nat.le_refl _, by omega, hide OwnRows.nil_, hB⟩
/-- a boxed heap, stored anew -/
theorem box_store {w : World} {b : Nat} {x y n v : Value} (c0 : w.cell? ⟨b, 0, none⟩ = some x) (c1 : w.cell? ⟨b, 1, none⟩ = some y) (f0 : w.frozen? ⟨b, 0, none⟩ = false) (f1 : w.frozen? ⟨b, 1, none⟩ = false) :
    ∃ ws, (w.setCell ⟨b, 0, none⟩ n).setCell ⟨b, 1, none⟩ v = ws ∧ ws.cell? ⟨b, 0, none⟩ = some n ∧ ws.cell? ⟨b, 1, none⟩ = some v ∧ ws.frozen? ⟨b, 0, none⟩ = false ∧ ws.frozen? ⟨b, 1, none⟩ = false ∧ Below b w ws ∧ ws.heap.size = w.heap.size := by
  refine ⟨_, rfl, by simp [go_sem, c0], by simp [go_sem, c1], by simp [go_sem, f0], by simp [go_sem, f1], (((Below.refl b w).setCell (p := ⟨b, 0, none⟩) (Nat.le_refl b) n).setCell (p := ⟨b, 1, none⟩) (Nat.le_refl b) v), by simp [World.setCell]⟩
end Go.Proofs.YtofobjhlpgcdaaaDoor
