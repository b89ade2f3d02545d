/- Layer plan: the law PlanTurns: what its last two cases want. Written by tools/genplanturns.py. -/
import Derived.Test.YtjnokhaojpijhaaGreatDoorPPlanTurns0
import Derived.Test.YtjnokhaojpijhaaGreatDoorPai
import Derived.Test.YtjnokhaojpijhaaGreatDoorPExtra
namespace Go.Proofs.YtjnokhaojpijhaaGreatDoor
open Go.RowKit Go.Shelf Go.Proofs Go.Joins
theorem lit_intsPl {w : World} {C : Nat} (h : Bk w C (.cells #[.int .i64 0] 3)) : Ints w (.slice (some ⟨C, 0, none⟩) 1 1) [0] :=
  Sl.of_own (l := [(0 : Int)]) ic_len (base := 0) (e := 3) ⟨rfl, .inr ⟨C, 1, #[.int .i64 0], rfl, Nat.zero_le _, h, Nat.le_refl _, by simp [maxLen], rfl, rfl⟩⟩
theorem grid_cons {w : World} {base : Nat} {lr : Rws} {vs : List Value} {u0 v' : Value} (hv : vs.length = lr.length) (hrow : ∀ (i : Nat) (u : Value) (l : List Int), vs[i]? = some u → lr[i]? = some l → Ints w u l) (h0 : Ints w u0 [0]) (ho : w.ownsRow base 63 1 v' (1 + vs.length) ([u0] ++ vs)) : Grid w v' ([0] :: lr) := by
  refine ⟨u0 :: vs, Sl.of_own (enc := one) (size := 1) one_len (by rw [flat_one, List.length_cons, Nat.add_comm]; exact ho), by simp [hv], fun i u l hu hl => ?_⟩
  cases i with
  | zero => cases hu; cases hl; exact h0
  | succ i => exact hrow i u l (by simpa using hu) (by simpa using hl)
theorem Bp.of_bel {t : TypeId} {w w' : World} {B m : Nat} {a b c d e f g h n : Int} {ob : Value} {s : Nat} {rg pg pk : Value} (k : Bp t w B a b c d e f g h n ob s rg pg pk) (hb : Below m w w') (hlt : B < m) : Bp t w' B a b c d e f g h n ob s rg pg pk := ⟨(hb.block B hlt).trans k.blk⟩
theorem lit_byte (w : World) (x : Int) : ∃ Z, w.alloc (.cells #[.int .u8 x] 5) = Z ∧ Below w.heap.size w Z ∧ Bytes Z (.slice (some ⟨w.heap.size, 0, none⟩) 1 1) [x] :=
  ⟨_, rfl, balHp _ _, Sl.of_own (l := [x]) (enc := bc) (size := 1) (fun _ => rfl) (own_new w 0 [.int .u8 x] 5 1 1 (Nat.zero_le _) rfl (by simp [maxLen]))⟩
theorem picks_9 (a b c d e f g h n : Int) (ob : Value) (s : Nat) (rg pg pk : Value) (v : Value) (l : List Int) (w : World) (hl : Bytes w v l) (hr : ∀ b ∈ l, 0 ≤ b ∧ b ≤ 255) (ha : 0 ≤ a ∧ a ≤ 16) (hb : 0 ≤ b ∧ b ≤ 16) (q : List PP) (hq : picksG a b l 9 = q) :
    Calls Tryz.prog 28 #[planV a b c d e f g h n ob s rg pg pk, v, .int .i64 9] w fun x w' => ∃ A3 c3, x = .returned (.slice A3 q.length c3) ∧ w'.ownsRow w.heap.size 108 2 (.slice A3 q.length c3) q.length (q.flatMap pc) ∧ Below w.heap.size w w' :=
  picks_any a b c d e f g h n ob s rg pg pk v l 9 w hl hr ha hb (by decide) q hq
theorem picks_16 (v : Value) (l : List Int) (w : World) (hl : Bytes w v l) (hr : ∀ b ∈ l, 0 ≤ b ∧ b ≤ 255) (q : List PP) (hq : picksG 16 0 l 1 = q) :
    Calls Tryz.prog 28 #[.agg #[.int .i64 16, .int .i64 0, .int .i64 0, .int .i64 0, .int .i64 0, .int .i64 0, .int .i64 0, .int .i64 0, .int .i64 0, .slice none 0 0, .int .u64 0, .slice none 0 0, .slice none 0 0, .slice none 0 0], v, .int .i64 1] w fun x w' => ∃ A3 c3, x = .returned (.slice A3 q.length c3) ∧ w'.ownsRow w.heap.size 108 2 (.slice A3 q.length c3) q.length (q.flatMap pc) ∧ Below w.heap.size w w' :=
  picks_any 16 0 0 0 0 0 0 0 0 (.slice none 0 0) 0 (.slice none 0 0) (.slice none 0 0) (.slice none 0 0) v l 1 w hl hr (by decide) (by decide) (by decide) q hq
end Go.Proofs.YtjnokhaojpijhaaGreatDoor
