/- Layer heap: Put, Get, Right, as later layers meet them: what is answered bears names. -/
import Derived.Test.YtofobjhlpgcdaaaDoorHeapPut
namespace Go.Proofs.YtofobjhlpgcdaaaDoor
open Go.RowKit

abbrev OwnR (base : Nat) (w : World) (v : Value) (ls : Rws) : Prop := OwnRows 53 3 base w v ls
theorem own_slice {base : Nat} {w : World} {v : Value} {ls : Rws} (h : OwnR base w v ls) : ∃ A c, v = .slice A ls.length c ∧ ls.length ≤ c ∧ c ≤ 9223372036854775807 := by
  obtain ⟨A, c, e, h1, h2⟩ := h.form
  unfold maxLen at h2
  exact ⟨A, c, e, h1, by omega⟩
theorem Put_c (n : Int) (v : Value) (ls : Rws) (o s x : Int) (w : World) (h : Grid w v ls) (hf : Fit ls) (k : Nat) (hk : ls.length = k) (R : Rws) (hR : putF ls o s x = R) (b : Bool) (hb : putOk ls o s x = b) :
    Calls Tryd.prog 8 #[hv n v, .int .i64 o, .int .i64 s, .int .i64 x] w fun e w' => ∃ A c, e = .returned (.tuple #[hv n (.slice A k c), .bool b]) ∧ k ≤ c ∧ c ≤ 9223372036854775807 ∧ Hid (OwnR w.heap.size w' (.slice A k c) R) ∧ Below w.heap.size w w' := by
  refine (Put_any n v ls o s x w h hf).mono ?_
  rintro e w' ⟨v', rfl, hO, hB⟩
  obtain ⟨A, c, rfl, h1, h2⟩ := own_slice hO
  rw [hb, putF_len, hk] at *
  rw [hR] at hO
  exact ⟨A, c, rfl, h1, h2, hide hO, hB⟩
theorem Get_c (n : Int) (v : Value) (ls : Rws) (o s : Int) (w : World) (h : Grid w v ls) (x : Int) (hx : getF ls o s = x) (b : Bool) (hb : hasS ls o s = b) :
    Calls Tryd.prog 6 #[hv n v, .int .i64 o, .int .i64 s] w fun e w' => e = .returned (.tuple #[.int .i64 x, .bool b]) ∧ Below w.heap.size w w' := by
  subst hx; subst hb; exact Get_any n v ls o s w h
theorem Right_c (n : Int) (v : Value) (ls : Rws) (w : World) (h : Grid w v ls) (b : Bool) (hb : rightF n ls = b) :
    Calls Tryd.prog 15 #[hv n v] w fun e w' => e = .returned (.bool b) ∧ Below w.heap.size w w' := by
  subst hb; exact Right_any n v ls w h
end Go.Proofs.YtofobjhlpgcdaaaDoor
