/- Layer deque: what is in the deque, place by place. No program in this text. -/
import Derived.Test.YthjdjkcdlknhbaaDequeStepU
namespace Go.Proofs.Ythjdjkcdlknhbaa

/-- the place of the k-th one -/
def plF (fr base size : Int) (k : Nat) : Int := s64 (base + 2 + w64 (fr + (k : Nat)) % max size 1)
def plL (fr base size : Int) (n : Nat) : List Int := (List.range n).map (plF fr base size)
theorem plL_succ (fr base size : Int) (n : Nat) : plL fr base size (n + 1) = plL fr base size n ++ [plF fr base size n] := by unfold plL; rw [List.range_succ, List.map_append]; rfl
theorem plL_len (fr base size : Int) (n : Nat) : (plL fr base size n).length = n := by unfold plL; simp
theorem items_big {m : List Int} {base size : Int} {o : Mc} {fr T d : Int} (hf : loadF m base = fr) (hT : endF m base o = T) (hd : w64 (T - fr) = d) (h : min (max size 1) 64 < d) : itemsF m base size o = [] := by
  unfold itemsF
  simp only [hf, hT, hd]
  rw [if_pos (.inr h)]
theorem items_fit {m : List Int} {base size : Int} {o : Mc} {fr T d : Int} (hf : loadF m base = fr) (hT : endF m base o = T) (hd : w64 (T - fr) = d) (h : d ≤ min (max size 1) 64) (D : Nat) (hD : d = D) : itemsF m base size o = ((plL fr base size D).map (loadF m)).map s64 := by
  have h64 : d ≤ 64 := by omega
  have h0 : 0 ≤ d := by rw [← hd]; unfold w64; omega
  have hs : s64 (T - fr) = d := by unfold w64 at hd; unfold s64; omega
  unfold itemsF
  simp only [hf, hT, hd, hs]
  by_cases hz : d ≤ 0
  · have : D = 0 := by omega
    subst this
    rw [if_pos (.inl hz)]
    rfl
  · rw [if_neg (by omega)]
    unfold plL
    rw [List.map_map, List.map_map]
    rw [show d.toNat = D by omega]
    rfl
/-- going on from fr, so often, leads to T -/
theorem go_end {fr T d : Int} (hT : U T) (hd : w64 (T - fr) = d) (D : Nat) (hD : d = D) : w64 (fr + (D : Nat)) = T := by
  unfold w64 at *; unfold U at hT; omega
theorem go_ne {fr T d : Int} (_hT : U T) (hd : w64 (T - fr) = d) {D j : Nat} (hD : d = D) (h64 : D ≤ 64) (hj : j < D) : w64 (fr + (j : Nat)) ≠ T := by
  unfold w64 at *; omega
theorem go_next (fr : Int) (j : Nat) : w64 (w64 (fr + (j : Nat)) + 1) = w64 (fr + ((j + 1 : Nat) : Int)) := by unfold w64; omega
theorem go_left {fr T d : Int} (hT : U T) (hd : w64 (T - fr) = d) {D j : Nat} (hD : d = D) (hj : j ≤ D) (h64 : D ≤ 64) : (w64 (T - w64 (fr + (j : Nat)))).toNat = D - j := by
  unfold w64 at *; unfold U at hT; omega
theorem end_yes {m : List Int} {base : Int} {o : Mc} {q to : Int} (hq : s64 (base + 1) = q) (ht : loadF m q = to) (ho : extF o = true) : endF m base o = w64 (to + 1) := by unfold endF; rw [hq, ht, ho]; rfl
theorem end_no {m : List Int} {base : Int} {o : Mc} {q to : Int} (hq : s64 (base + 1) = q) (ht : loadF m q = to) (hu : U to) (ho : extF o = false) : endF m base o = to := by
  unfold endF; rw [hq, ht, ho]; unfold U at hu; unfold w64; simp; omega
end Go.Proofs.Ythjdjkcdlknhbaa
