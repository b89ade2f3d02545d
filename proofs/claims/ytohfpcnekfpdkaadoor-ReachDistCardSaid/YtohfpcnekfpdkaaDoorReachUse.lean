/- Layer reach: the calls, as statements meet them: what is answered bears names. -/
import Derived.Test.YtohfpcnekfpdkaaDoorReachF
namespace Go.Proofs.YtohfpcnekfpdkaaDoor
open Go.RowKit

theorem From_c (n : Int) (v : Value) (ls : Rws) (r : Nat) (w : World) (hr : r < 18446744073709551616) (hG : Grid w v ls) (hE : EnvT w) (x : Int) (hx : ((r : Nat) : Int) = x) (s : Int) (hs : ((fromF ls r : Nat) : Int) = s) :
    Calls Tryd.prog 31 #[hv n v, .int .u64 x] w fun e w' => e = .returned (.int .u64 s) ∧ Below w.heap.size w w' := by
  subst hs; subst hx; exact From_any n v ls r w hr hG hE
theorem Via_c (n : Int) (v : Value) (ls : Rws) (r o : Nat) (w : World) (hr : r < 18446744073709551616) (ho : o < 18446744073709551616) (hG : Grid w v ls) (hE : EnvT w) (x y : Int) (hx : ((r : Nat) : Int) = x) (hy : ((o : Nat) : Int) = y) (s : Int) (hs : ((viaF ls r o : Nat) : Int) = s) :
    Calls Tryd.prog 33 #[hv n v, .int .u64 x, .int .u64 y] w fun e w' => e = .returned (.int .u64 s) ∧ Below w.heap.size w w' := by
  subst hs; subst hx; subst hy; exact Via_any n v ls r o w hr ho hG hE
theorem Dist_c (n : Int) (v : Value) (ls : Rws) (r : Nat) (w : World) (hr : r < 18446744073709551616) (hG : Grid w v ls) (hE : EnvT w) (x : Int) (hx : ((r : Nat) : Int) = x) (D : List Int) (hD : distF ls r = D) (k : Nat) (hk : D.length = k) :
    Calls Tryd.prog 29 #[hv n v, .int .u64 x] w fun e w' => ∃ A c, e = .returned (.slice A k c) ∧ k ≤ c ∧ c ≤ 9223372036854775807 ∧ Hid (Ints w' (.slice A k c) D) ∧ Below w.heap.size w w' := by
  subst hx
  refine (Dist_any n v ls r w hr hG hE).mono ?_
  rintro e w' ⟨v', rfl, hO, hB⟩
  rw [hD] at hO
  have hI := Sl.of_own ic_len hO
  obtain ⟨A, c, rfl, h1, h2, -⟩ := id hI
  unfold maxLen at h2
  rw [hk] at h1 hI ⊢
  exact ⟨A, c, rfl, h1, by omega, hide hI, hB⟩
end Go.Proofs.YtohfpcnekfpdkaaDoor
