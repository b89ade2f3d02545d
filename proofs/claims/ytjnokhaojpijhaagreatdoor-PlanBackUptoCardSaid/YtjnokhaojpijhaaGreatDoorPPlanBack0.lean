/- Layer plan: the law PlanBack. Written by tools/genplanback.py. -/
import Derived.Test.YtjnokhaojpijhaaGreatDoorPPlanMadeU
import Derived.Test.YtjnokhaojpijhaaGreatDoorPPlanPicks
import Derived.Test.YtjnokhaojpijhaaGreatDoorPExtraB
namespace Go.Proofs.YtjnokhaojpijhaaGreatDoor
open Go.RowKit Go.Shelf Go.Proofs Go.Joins
theorem Same_zero (a b c d e f g h n : Int) (ob : Value) (s : Nat) (rg pg pk : Value) (lo lr : Rws) (lp : List (List Oq)) (lk : List PP) (w : World) (hp : PlanR w ob rg pg pk ⟨a, b, c, d, e, f, g, h, n, lo, s, lr, lp, lk⟩) (hq : (⟨a, b, c, d, e, f, g, h, n, lo, s, lr, lp, lk⟩ : Pq) = zeroQ) :
    Calls Tryz.prog 14 #[planV a b c d e f g h n ob s rg pg pk, .agg #[.int .i64 0, .int .i64 0, .int .i64 0, .int .i64 0, .int .i64 0, .int .i64 0, .int .i64 0, .int .i64 0, .int .i64 0, .slice none 0 0, .int .u64 0, .slice none 0 0, .slice none 0 0, .slice none 0 0]] w fun x w' => x = .returned (.bool true) ∧ Below w.heap.size w w' :=
  pSame_c a b c d e f g h n ob s rg pg pk lo lr lp lk 0 0 0 0 0 0 0 0 0 (.slice none 0 0) 0 (.slice none 0 0) (.slice none 0 0) (.slice none 0 0) [] [] [] [] w hp (planR_zero w) true (decide_eq_true hq)
theorem bk_mk (X : World) (o : Obj) : ∃ Z, X.alloc o = Z ∧ Below X.heap.size X Z ∧ Bk Z X.heap.size o := ⟨_, rfl, balHp _ _, Bk.new _ _⟩
theorem picks_200 (a b c d e f g h n : Int) (ob : Value) (s : Nat) (rg pg pk : Value) (v : Value) (l : List Int) (w : World) (hl : Bytes w v l) (hr : ∀ b ∈ l, 0 ≤ b ∧ b ≤ 255) (ha : 0 ≤ a ∧ a ≤ 16) (hb : 0 ≤ b ∧ b ≤ 16) (q : List PP) (hq : picksG a b l 200 = q) :
    Calls Tryz.prog 28 #[planV a b c d e f g h n ob s rg pg pk, v, .int .i64 200] w fun x w' => ∃ A3 c3, x = .returned (.slice A3 q.length c3) ∧ w'.ownsRow w.heap.size 108 2 (.slice A3 q.length c3) q.length (q.flatMap pc) ∧ Below w.heap.size w w' :=
  picks_any a b c d e f g h n ob s rg pg pk v l 200 w hl hr ha hb (by decide) q hq
end Go.Proofs.YtjnokhaojpijhaaGreatDoor
