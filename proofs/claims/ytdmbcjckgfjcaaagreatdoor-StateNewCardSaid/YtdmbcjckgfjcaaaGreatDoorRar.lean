/- Maps of counts whose keys are ints, in a block of the call's own; an entry of 0 may be there. -/
import Derived.Maps.OwnSet
import Derived.Maps.OwnOps
import Derived.WideKeyEntry
import Derived.DeepKeys4
import Derived.Lib.SlKeysI
import Derived.Test.YtdmbcjckgfjcaaaGreatDoorRab
namespace Go.Proofs.YtdmbcjckgfjcaaaGreatDoor
open Go.RowKit Go.Maps Go.ChangeMaps Go.WideElems Go.ChangeShapes Go.WideShapes Go.MapKept
/-- a number of 64 bits -/
def Kw (x : Int) : Prop := -9223372036854775808 ≤ x ∧ x ≤ 9223372036854775807
def AllK (l : List Int) : Prop := ∀ x ∈ l, Kw x
theorem Kw.wf {x : Int} (h : Kw x) : (Lit.int .i64 x).wf = true := WalkArith.wf_i64 h
def iK (x : Int) : Lit := .int .i64 x
theorem iK_inj {x y : Int} (h : iK x = iK y) : x = y := by simpa [iK] using h
theorem iK_lit (x : Int) : WideAt.IsKeyLit (iK x) := by simp [iK, WideAt.IsKeyLit]
theorem keyOf_int {P : Program} {k : TypeId} (hk : P.underlying k = some (.int .i64)) {x : Int} (h : Kw x) : keyOf P k (.int .i64 x) = some (iK x) := by
  simp [keyOf, hk, mapKey, iK, h.wf]
def updI (c : Int → Nat) (x : Int) (n : Nat) : Int → Nat := fun y => if y = x then n else c y
/-- block B is a map of counts; at most n entries; each key that is counted at all is there -/
def Tal (P : Program) (t : TypeId) (w : World) (B n : Nat) (c : Int → Nat) : Prop :=
  ∃ D : DataW Unit, w.ownsMap P t (plainElem P t) B n D ∧ (∀ x, Kw x → D.atKey (iK x) (.lit (.int .i64 0)) = .lit (.int .i64 (c x : Nat))) ∧ ∀ x, Kw x → 0 < c x → Maps.has D (iK x) = true
section
variable {P : Program} {t m : TypeId} {w w' : World} {B n : Nat} {c : Int → Nat}
theorem tal_new (w : World) : Tal P t (w.alloc (.map #[] 0)) w.heap.size 0 (fun _ => 0) :=
  ⟨.map [], World.ownsMap_made _ _ _ _, fun _ _ => rfl, fun _ _ h => absurd h (Nat.lt_irrefl 0)⟩
theorem Tal.below (h : Tal P t w B n c) (hb : Below w.heap.size w w') : Tal P t w' B n c := by
  obtain ⟨D, h1, h2⟩ := h
  exact ⟨D, h1.kept (grown_of_below hb none) (by simp), h2⟩
theorem Tal.same (h : Tal P t w B n c) {c' : Int → Nat} (e : ∀ x, c' x = c x) : Tal P t w B n c' := by
  obtain rfl : c' = c := funext e
  exact h
/-- behind a write at x -/
theorem tal_put {D : DataW Unit} {x : Int} {v : Nat} (hown : w.ownsMap P t (plainElem P t) B n (D.put (iK x) (.lit (.int .i64 (v : Nat))))) (hD : IsMap D)
    (h1 : ∀ x, Kw x → D.atKey (iK x) (.lit (.int .i64 0)) = .lit (.int .i64 (c x : Nat))) (h2 : ∀ x, Kw x → 0 < c x → Maps.has D (iK x) = true) : Tal P t w B n (updI c x v) := by
  refine ⟨_, hown, fun y hy => ?_, fun y hy h0 => ?_⟩
  · unfold updI
    by_cases e : y = x
    · subst e; rw [if_pos rfl]; exact Maps.atKey_put_same hD (iK_lit y) _ _
    · rw [if_neg e, Maps.atKey_put_other (fun e' => e (iK_inj e')), h1 y hy]
  · unfold updI at h0
    by_cases e : y = x
    · subst e; exact Maps.has_put_same hD (iK_lit y) _
    · rw [if_neg e] at h0
      rw [Maps.has_put_other (fun e' => e (iK_inj e'))]; exact h2 y hy h0
/-- 'm[x]' -/
theorem tal_look (h : Tal P t w B n c) (hk : P.underlying t = some (.int .i64)) (hm : P.underlying m = some (.map t t)) (hz : ∀ u : World, (zeroValue t).run P u = .ok (.int .i64 0) u) {x : Int} (hx : Kw x) :
    (Instr.lookup m (.map (some B)) (.int .i64 x) false).run P w = .ok (.int .i64 (c x : Nat)) w := by
  obtain ⟨D, hown, h1, h2⟩ := h
  obtain ⟨c0, hrun, hat, _⟩ := hown.lookup_int (int_keyed hk) hm hk (hz w) (keyOf_int hk hx)
  obtain rfl : ((c x : Nat) : Int) = c0 := (by rw [h1 x hx] at hat; injection hat with h; injection h)
  exact hrun
theorem ownsMap_shrink {D : DataW Unit} {R : Value → Option (DataW Unit × List MemPlace)} {n' : Nat} (hown : w.ownsMap P t R B n D) (h : Maps.size D ≤ n') : w.ownsMap P t R B n' D := by
  obtain ⟨es, clock, hb, F, hs, rfl⟩ := hown
  refine ⟨es, clock, hb, F, ?_, rfl⟩
  simpa [Maps.size, length_sorted] using h
/-- 'm[x] = v' -/
theorem tal_store (h : Tal P t w B n c) (hk : P.underlying t = some (.int .i64)) (hm : P.underlying m = some (.map t t)) (hn : n < maxLen) {x : Int} (hx : Kw x) (v : Nat) (v' : Int) (hv : v' = (v : Int)) (hle : v ≤ 9000000000000000000) :
    ∃ w4, (Instr.mapUpdate m (.map (some B)) (.int .i64 x) (.int .i64 v')).run P w = .ok () w4 ∧ Tal P t w4 B (n + 1) (updI c x v) ∧ (0 < c x → Tal P t w4 B n (updI c x v)) ∧ w.grownBy w4 (some B) := by
  subst hv
  obtain ⟨D, hown, h1, h2⟩ := h
  obtain ⟨w4, hst, hown4, hg4⟩ := hown.update (int_keyed hk) hm hn (keyOf_int hk hx) (plainElem_int (H := Unit) hk (WalkArith.wf_i64 (n := (v : Int)) (by omega)))
  refine ⟨w4, hst, tal_put hown4 hown.isMap h1 h2, fun h0 => tal_put (ownsMap_shrink hown4 ?_) hown.isMap h1 h2, hg4⟩
  rw [Maps.size_put (hown.tidy (int_keyed hk)), h2 x hx h0]
  exact hown.size_le
/-- its keys -/
theorem ownsMap_keysI {D : DataW Unit} {R : Value → Option (DataW Unit × List MemPlace)} (hown : w.ownsMap P t R B n D) (hk : P.underlying t = some (.int .i64)) : (intKeys D).Nodup ∧ (∀ x ∈ intKeys D, Kw x) ∧ ∀ x, Maps.has D (iK x) = true → x ∈ intKeys D := by
  have hw := intKeys_wf hown hk
  obtain ⟨es, hD, hpw, _⟩ := hown.entries (int_keyed hk)
  obtain ⟨es', hD', hko⟩ := hown.keysOf
  obtain rfl : es = es' := by rw [hD] at hD'; simpa using hD'
  subst hD
  have hint : ∀ p ∈ es, ∃ x, p.1 = .int .i64 x := fun p hp => by obtain ⟨v, hv⟩ := hko p hp; obtain ⟨x, _, hx, _⟩ := Maps.keyOf_i64 hk hv; exact ⟨x, hx⟩
  refine ⟨?_, fun x hx => ?_, fun x hx => ?_⟩
  · show (es.map fun p => Go.intOf p.1).Nodup
    refine List.pairwise_map.2 (hpw.imp_of_mem fun {p q} hp' hq' hne e => hne ?_)
    obtain ⟨a, ha⟩ := hint p hp'
    obtain ⟨b, hb⟩ := hint q hq'
    rw [ha, hb] at e ⊢
    exact congrArg _ e
  · have := hw x hx
    simpa [Kw, Lit.wf, IntKind.min, IntKind.max, IntKind.signed, IntKind.bits] using this
  · rw [has_eq, List.any_eq_true] at hx
    obtain ⟨p, hp, hs⟩ := hx
    obtain ⟨a, ha⟩ := hint p hp
    rw [ha] at hs
    exact List.mem_map.2 ⟨p, hp, by rw [ha]; simpa [Lit.sameKey, iK, Go.intOf, eq_comm] using hs⟩
/-- the look-up at the operation -/
theorem wpList_tal_look {ops : Array Oper} {rest : List Oper} {o : Oper} {a : Act} {Q : Exit → Act → World → Prop} (hg : o.guard = none) (u v : Operand) (hop : o.op = Op.lookup m u v false)
    (hk : P.underlying t = some (.int .i64)) (hm : P.underlying m = some (.map t t)) (hz : ∀ u : World, (zeroValue t).run P u = .ok (.int .i64 0) u) (hu : a.eval u = .map (some B)) (x : Int) (hv : a.eval v = .int .i64 x) (hx : Kw x) (h : Tal P t w B n c)
    (hK : wpList P ops Q rest (a.put o.dst (.int .i64 (c x : Nat))) w) : wpList P ops Q (o :: rest) a w := by
  refine wpList_plain hg fun K' hK' => ?_
  have hrun := tal_look h hk hm hz hx
  unfold Oper.wp
  simp [execOp, hop, hu, hv, hrun, Result.andThen]
  exact hK' _ _ hK
/-- the write at the operation -/
theorem wpList_tal_store {ops : Array Oper} {rest : List Oper} {o : Oper} {a : Act} {Q : Exit → Act → World → Prop} (hg : o.guard = none) (u v y : Operand) (hop : o.op = Op.mapUpdate m u v y)
    (hk : P.underlying t = some (.int .i64)) (hm : P.underlying m = some (.map t t)) (hu : a.eval u = .map (some B)) (x : Int) (hv : a.eval v = .int .i64 x) (hx : Kw x) (z : Nat) (z' : Int) (hy : a.eval y = .int .i64 z') (hz : z' = (z : Int)) (hle : z ≤ 9000000000000000000) (hn : n < maxLen) (h : Tal P t w B n c)
    (hK : ∀ w4, Tal P t w4 B (n + 1) (updI c x z) → (0 < c x → Tal P t w4 B n (updI c x z)) → w.grownBy w4 (some B) → wpList P ops Q rest (a.put o.dst (.tuple #[])) w4) : wpList P ops Q (o :: rest) a w := by
  refine wpList_plain hg fun K' hK' => ?_
  obtain ⟨w4, hrun, h1, h1', h2⟩ := tal_store h hk hm hn hx z z' hz hle
  unfold Oper.wp
  simp [execOp, hop, hu, hv, hy, hrun, Result.andThen]
  exact hK' _ _ (hK w4 h1 h1' h2)
end
end Go.Proofs.YtdmbcjckgfjcaaaGreatDoor
