import Derived.Test.YtdmbcjckgfjcaaaGreatDoorRows
import Derived.WalkKit
import Derived.ProofKit
import Derived.OpenShut
import Derived.WalkSpells
import Derived.WalkLawsBesides
import Derived.Handy
import Derived.Below
import Derived.ChangeSame
import Derived.Lib.SmallJoins
import Derived.Deep.MidRow
import Derived.Deep.WholeRow
/- Words for memory, for every layer: a slice that reads as a list of rows of cells; steps of 'Below'; the last step of a law's row. -/
namespace Go.Proofs.YtdmbcjckgfjcaaaGreatDoor
open Go.RowKit Go.WideShapes Go.ChangeShapes
theorem ret_bool {a b : Bool} (h : a = b) : Ending.returned (.bool a) = .returned (.bool b) := by rw [h]
theorem ret_int {k : IntKind} {a b : Int} (h : a = b) : Ending.returned (.int k a) = .returned (.int k b) := by rw [h]
theorem hide {p : Prop} (h : p) : Hid p := h
theorem bcell {W w1 : World} (hb : Below W.heap.size W w1) : (∀ b o, b < W.heap.size → w1.cell? ⟨b, o, none⟩ = W.cell? ⟨b, o, none⟩) ∧ (∀ b o, b < W.heap.size → w1.frozen? ⟨b, o, none⟩ = W.frozen? ⟨b, o, none⟩) :=
  ⟨fun b o h => hb.cell (p := ⟨b, o, none⟩) h, fun b o h => hb.frozen (p := ⟨b, o, none⟩) h⟩
theorem btr {B : Nat} {a b c : World} (h : Below B a b) (k : Below b.heap.size b c) (hB : B ≤ a.heap.size) : Below B a c := h.trans (k.mono (Nat.le_trans hB h.size))
theorem bdrewN {B : Nat} {a w : World} (h : Below B a w) (n : Nat) : Below B a (w.drewN n) := ⟨h.os, h.tape, h.output, h.size, h.block⟩
/-- behind a block of its own, a call -/
theorem bcall {a b c : World} (h : Below a.heap.size a b) (k : Below b.heap.size b c) : Below a.heap.size a c := btr h k (Nat.le_refl _)
theorem bcall1 {a b c : World} {o : Obj} (h : Below a.heap.size a b) (k : Below (b.alloc o).heap.size (b.alloc o) c) : Below a.heap.size a c := bcall (h.alloc h.size _) k
/-- the slice value v reads as the list l; each element as the cells 'enc' gives, 'size' of them -/
def Sl {α : Type} (enc : α → List Value) (size : Nat) (w : World) (v : Value) (l : List α) : Prop :=
  ∃ A c, v = .slice A l.length c ∧ l.length ≤ c ∧ c ≤ maxLen ∧
    (0 < l.length → ∃ b off, A = some ⟨b, off, none⟩ ∧ b < w.heap.size ∧ ∀ i p, l[i]? = some p → ∀ j u, (enc p)[j]? = some u → w.cell? ⟨b, off + i * size + j, none⟩ = some u)
section
variable {α : Type} {enc : α → List Value} {size : Nat} {w w' : World} {v : Value} {l : List α}
theorem Sl.keep (h : Sl enc size w v l) (hs : w.heap.size ≤ w'.heap.size) (hk : ∀ b o, b < w.heap.size → w'.cell? ⟨b, o, none⟩ = w.cell? ⟨b, o, none⟩) : Sl enc size w' v l := by
  obtain ⟨A, c, rfl, h1, h2, h3⟩ := h
  refine ⟨A, c, rfl, h1, h2, fun hl => ?_⟩
  obtain ⟨b, off, rfl, hb, hc⟩ := h3 hl
  exact ⟨b, off, rfl, by omega, fun i p hp j u hu => (hk _ _ hb).trans (hc i p hp j u hu)⟩
theorem Sl.below (h : Sl enc size w v l) (hb : Below w.heap.size w w') : Sl enc size w' v l := h.keep hb.size (bcell hb).1
theorem Sl.alloc (h : Sl enc size w v l) (o : Obj) : Sl enc size (w.alloc o) v l := h.below ((Below.refl _ _).alloc (Nat.le_refl _) _)
theorem Sl.nil_ : Sl enc size w (.slice none 0 0) [] := ⟨none, 0, rfl, by simp, by simp [maxLen], by simp⟩
theorem Sl.len (h : Sl enc size w v l) : l.length ≤ maxLen := by obtain ⟨A, c, rfl, h1, h2, h3⟩ := h; omega
theorem flatMap_get {enc : α → List Value} {size : Nat} (hz : ∀ p, (enc p).length = size) : ∀ (l : List α) (i : Nat) (p : α), l[i]? = some p → ∀ j u, (enc p)[j]? = some u → (l.flatMap enc)[i * size + j]? = some u
  | [], i, p, h, _, _, _ => by simp at h
  | x :: l, 0, p, h, j, u, hu => by
    simp at h; subst h
    have hj : j < (enc x).length := (List.getElem?_eq_some_iff.1 hu).1
    rw [List.flatMap_cons, Nat.zero_mul, Nat.zero_add, List.getElem?_append_left hj, hu]
  | x :: l, i + 1, p, h, j, u, hu => by
    have e : (i + 1) * size + j = (enc x).length + (i * size + j) := by rw [hz, Nat.add_mul]; omega
    rw [List.flatMap_cons, e, List.getElem?_append_right (by omega)]
    simp only [Nat.add_sub_cancel_left]
    exact flatMap_get hz l i p (by simpa using h) j u hu
theorem flatMap_len {enc : α → List Value} {size : Nat} (hz : ∀ p, (enc p).length = size) (l : List α) : (l.flatMap enc).length = l.length * size := by
  induction l with
  | nil => simp
  | cons x l ih => simp [List.flatMap_cons, hz, ih, Nat.add_mul]; omega
/-- what is owned reads -/
theorem Sl.of_own {base : Nat} {e : TypeId} (hz : ∀ p, (enc p).length = size) (h : w.ownsRow base e size v l.length (l.flatMap enc)) : Sl enc size w v l := by
  rcases h.2 with ⟨rfl, hn⟩ | ⟨g, cap, cur, rfl, hb, hg, hnc, hcm, hcs, ht⟩
  · have : l = [] := List.eq_nil_of_length_eq_zero hn
    subst this
    exact Sl.nil_
  · refine ⟨_, cap, rfl, hnc, hcm, fun hl => ⟨g, 0, rfl, ?_, fun i p hp j u hu => ?_⟩⟩
    · rcases Nat.lt_or_ge g w.heap.size with hlt | hge
      · exact hlt
      · rw [Array.getElem?_eq_none hge] at hg; cases hg
    · have h1 := flatMap_get hz l i p hp j u hu
      have h2 := h.cells (g := g) rfl _ _ h1
      unfold Addr.add at h2
      by_cases h0 : i * size + j = 0
      · rw [if_pos h0] at h2; rw [show 0 + i * size + j = 0 by omega]; exact h2
      · rw [if_neg h0] at h2; simpa [Nat.add_assoc] using h2
end
theorem add_none (b off j : Nat) : (⟨b, off, none⟩ : Addr).add j = ⟨b, off + j, none⟩ := by
  unfold Addr.add; split
  · subst_vars; rfl
  · rfl
/-- a new block's cells -/
theorem row_new (w : World) (cs : List Value) (t : TypeId) : ∀ j u, cs[j]? = some u → (w.alloc (.cells cs.toArray t)).cell? ((⟨w.heap.size, 0, none⟩ : Addr).add j) = some u := by
  intro j u h
  rw [add_none, cell_of_row _ _ _ cs.toArray t (0, 0) (heap_alloc_new w _)]
  simpa using h
theorem row_at (w : World) (cs : List Value) (t : TypeId) {B : Nat} (hB : w.heap.size = B) : ∀ j u, cs[j]? = some u → (w.alloc (.cells cs.toArray t)).cell? ((⟨B, 0, none⟩ : Addr).add j) = some u := by subst hB; exact row_new w cs t
/-- a literal of one element owns its row -/
theorem own_new (w : World) (base : Nat) (cs : List Value) (t : TypeId) (size n : Nat) (hb : base ≤ w.heap.size) (hs : cs.length = n * size) (hn : n ≤ maxLen) :
    (w.alloc (.cells cs.toArray t)).ownsRow base t size (.slice (some ⟨w.heap.size, 0, none⟩) n n) n cs :=
  ⟨hs, .inr ⟨_, n, cs.toArray, rfl, hb, heap_alloc_new w _, Nat.le_refl _, hn, by simpa using hs, by simp [← hs]⟩⟩
theorem own_form {w : World} {base : Nat} {e : TypeId} {size n : Nat} {v : Value} {xs : List Value} (h : w.ownsRow base e size v n xs) : ∃ A c, v = .slice A n c ∧ n ≤ c ∧ c ≤ maxLen := by
  rcases h.2 with ⟨rfl, rfl⟩ | ⟨g, cap, cur, rfl, hb, hg, hnc, hcm, hcs, ht⟩
  · exact ⟨none, 0, rfl, Nat.le_refl _, by simp [maxLen]⟩
  · exact ⟨_, cap, rfl, hnc, hcm⟩
theorem own_base {w : World} {base b' : Nat} {e : TypeId} {size n : Nat} {v : Value} {xs : List Value} (h : w.ownsRow base e size v n xs) (hb : b' ≤ base) : w.ownsRow b' e size v n xs := by
  refine ⟨h.1, ?_⟩
  rcases h.2 with h0 | ⟨g, cap, cur, hv, hg, hr⟩
  · exact .inl h0
  · exact .inr ⟨g, cap, cur, hv, Nat.le_trans hb hg, hr⟩
theorem own_below {w w' : World} {base : Nat} {e : TypeId} {size n : Nat} {v : Value} {xs : List Value} (h : w.ownsRow base e size v n xs) (hb : Below w.heap.size w w') : w'.ownsRow base e size v n xs := by
  refine ⟨h.1, ?_⟩
  rcases h.2 with h0 | ⟨g, cap, cur, hv, hg, hh, hr⟩
  · exact .inl h0
  · refine .inr ⟨g, cap, cur, hv, hg, (hb.block g ?_).trans hh, hr⟩
    rcases Nat.lt_or_ge g w.heap.size with hlt | hge
    · exact hlt
    · rw [Array.getElem?_eq_none hge] at hh; cases hh
theorem grown_of_below {a w : World} (h : Below a.heap.size a w) (row : Option Nat) : a.grownBy w row := ⟨h.os, h.tape, h.output, h.size, fun i hi _ => h.block i hi⟩
theorem own_ge {w : World} {base : Nat} {e : TypeId} {size n : Nat} {v : Value} {xs : List Value} (h : w.ownsRow base e size v n xs) : ∀ k, v.ownBlock = some k → base ≤ k := fun k hk => (h.lt k hk).1
end Go.Proofs.YtdmbcjckgfjcaaaGreatDoor
/- append of a slice that came in, whatever it is, onto a row of the call's own. -/
namespace Go.Proofs.YtdmbcjckgfjcaaaGreatDoor
open Go.RowKit
section
variable {P : Program}
theorem run_append_none (w : World) (base : Nat) (t ty e : TypeId) (i : TypeInfo) (size : Nat) (ht : P.underlying t = some (.slice e)) (hi : P.info? e = some i)
    (v : Value) (n : Nat) (xs : List Value) (hown : w.ownsRow base e size v n xs) (c : Nat) : (Builtin.append_ #[t, t] ty #[v, .slice none 0 c]).run P w = .ok v w := by
  rcases hown.2 with ⟨rfl, rfl⟩ | ⟨g, cap, cur, rfl, _, _, hnc, _⟩
  · simp [Builtin.append_, run_underlying ht, sizeOf, typeInfo, hi, Builtin.lenOf, Builtin.firstCells]
  · simp [Builtin.append_, run_underlying ht, sizeOf, typeInfo, hi, Builtin.lenOf, Builtin.firstCells, hnc, storeCells]
/-- append(v, x...): v the call's own, x any slice that reads as l, nil or not -/
theorem run_append_sl {α : Type} {enc : α → List Value} (w : World) (base : Nat) (t ty e : TypeId) (i : TypeInfo) (z : Value) (size bytes : Nat) (ht : P.underlying t = some (.slice e)) (hi : P.info? e = some i) (hz : i.zero = some z)
    (hsize : i.size = size) (hby : i.bytes = bytes) (hzs : z.cells.size = size) (hsz : 0 < size)
    (v : Value) (n : Nat) (xs : List Value) (hown : w.ownsRow base e size v n xs) (x : Value) (l : List α) (hx : Sl enc size w x l) (henc : ∀ p, (enc p).length = size) (h1 : ∀ p, ∀ u ∈ enc p, u.oneCell' = true)
    (h63 : n + l.length ≤ maxLen) (hbytes : (n + l.length) * bytes ≤ 140737488355328) (hbase : base ≤ w.heap.size) :
    ∃ v' w', (Builtin.append_ #[t, t] ty #[v, x]).run P w = .ok v' w' ∧ w'.ownsRow base e size v' (n + l.length) (xs ++ l.flatMap enc) ∧ w.grownBy w' v.ownBlock := by
  obtain ⟨A, c, rfl, hc1, hc2, hc3⟩ := hx
  rcases A with _ | ad
  · have hl : l = [] := by
      rcases Nat.eq_zero_or_pos l.length with h0 | h0
      · exact List.eq_nil_of_length_eq_zero h0
      · obtain ⟨b, off, h, _⟩ := hc3 h0; cases h
    subst hl
    exact ⟨v, w, run_append_none w base t ty e i size ht hi v n xs hown c, by simpa using hown, World.grownBy.refl w _⟩
  · have hcells : ∀ j u, (l.flatMap enc)[j]? = some u → w.cell? (ad.add j) = some u := by
      intro j u hu
      have hlt : j < (l.flatMap enc).length := (List.getElem?_eq_some_iff.1 hu).1
      rw [flatMap_len henc] at hlt
      have h0 : 0 < l.length := by
        rcases Nat.eq_zero_or_pos l.length with h0 | h0
        · rw [h0] at hlt; simp at hlt
        · exact h0
      obtain ⟨b, off, h, _, hcl⟩ := hc3 h0
      injection h with h
      subst h
      have hq : j / size < l.length := by rw [Nat.div_lt_iff_lt_mul hsz]; exact hlt
      have hr : j % size < size := Nat.mod_lt _ hsz
      have hp : l[j / size]? = some l[j / size] := List.getElem?_eq_getElem hq
      have hu2 : (enc l[j / size])[j % size]? = some ((enc l[j / size])[j % size]'(by rw [henc]; exact hr)) := List.getElem?_eq_getElem _
      have h2 := flatMap_get henc l _ _ hp _ _ hu2
      have hj : j / size * size + j % size = j := by rw [Nat.mul_comm]; exact Nat.div_add_mod j size
      rw [hj, hu] at h2
      rw [add_none, h2, ← hcl _ _ hp _ _ hu2, Nat.add_assoc, hj]
    obtain ⟨v', w', hrun, h2, h3, _⟩ := run_append_own (P := P) w base t ty e i z size bytes ht hi hz hsize hby hzs hsz v n xs hown ad l.length c (l.flatMap enc) (flatMap_len henc l) hcells
      (fun u hu => by obtain ⟨p, _, hp⟩ := List.mem_flatMap.1 hu; exact h1 p u hp) h63 hbytes hbase
    exact ⟨v', w', hrun, h2, h3⟩
theorem wpList_append_sl {α : Type} {enc : α → List Value} (w : World) {ops : Array Oper} {rest : List Oper} {o : Oper} {a : Act} {Q : Exit → Act → World → Prop} (hgd : o.guard = none) (s y : Operand) (t : TypeId)
    (ho : o.op = .call { callee := .builtin .append, args := #[s, y], argTypes := #[t, t] })
    (base : Nat) (e : TypeId) (i : TypeInfo) (z : Value) (size bytes : Nat) (ht : P.underlying t = some (.slice e)) (hi : P.info? e = some i) (hz : i.zero = some z)
    (hsize : i.size = size) (hby : i.bytes = bytes) (hzs : z.cells.size = size) (hsz : 0 < size)
    (v : Value) (n : Nat) (xs : List Value) (hs : a.eval s = v) (hown : w.ownsRow base e size v n xs) (x : Value) (l : List α) (hy : a.eval y = x) (hx : Sl enc size w x l) (henc : ∀ p, (enc p).length = size) (h1 : ∀ p, ∀ u ∈ enc p, u.oneCell' = true)
    (h63 : n + l.length ≤ maxLen) (hbytes : (n + l.length) * bytes ≤ 140737488355328) (hbase : base ≤ w.heap.size)
    (h : ∀ v' w', w'.ownsRow base e size v' (n + l.length) (xs ++ l.flatMap enc) → Below base w w' → wpList P ops Q rest (a.put o.dst v') w') : wpList P ops Q (o :: rest) a w :=
  wpList_plain hgd fun _ hK => by
    obtain ⟨v', w', hrun, h2, h3⟩ := run_append_sl (P := P) w base t o.type e i z size bytes ht hi hz hsize hby hzs hsz v n xs hown x l hx henc h1 h63 hbytes hbase
    unfold Oper.wp execOp
    simp only [ho, resolve, invoke, builtin, Sem.run_bind, Sem.run_pure, Result.andThen_ok, List.map_toArray, List.map_cons, List.map_nil, hs, hy, hrun]
    exact hK _ _ (h v' w' h2 ((Below.refl _ _).grown h3 hbase (own_ge hown)))
end
section
variable {α : Type} {enc : α → List Value} {size : Nat} {w : World} {l : List α} {A : Option Addr} {n c j : Nat}
theorem sl_len (h : Sl enc size w (.slice A n c) l) : n = l.length := by
  obtain ⟨A', c', e, _⟩ := h; injection e
/-- l[:j] -/
theorem sl_take (h : Sl enc size w (.slice A n c) l) (hj : j ≤ n) : Sl enc size w (.slice A j c) (l.take j) := by
  have hn := sl_len h
  obtain ⟨A', c', e, h1, h2, h3⟩ := h
  injection e with e1 e2 e3
  subst e1; subst e3; subst hn
  have hl : (l.take j).length = j := by rw [List.length_take]; omega
  refine ⟨_, _, by rw [hl], by omega, h2, fun h0 => ?_⟩
  rw [hl] at h0
  obtain ⟨b, off, rfl, hb, hc⟩ := h3 (by omega)
  refine ⟨b, off, rfl, hb, fun i p hp k u hu => ?_⟩
  rw [List.getElem?_take] at hp
  split at hp
  · exact hc i p hp k u hu
  · cases hp
end
/-- append of new cells onto a row of the call's own, in a region that draws its order; what else is as it was -/
theorem step_append_own_g {P : Program} {ops : Array Oper} {o : Oper} {a : Act} {w : World} {K : Act → World → Prop} {Q : Exit → Act → World → Prop} {E : Prop} (hgd : o.guard = none) (s x : Operand) (t : TypeId)
    (ho : o.op = .call { callee := .builtin .append, args := #[s, x], argTypes := #[t, t] })
    (base : Nat) (e : TypeId) (i : TypeInfo) (z : Value) (size bytes : Nat) (ht : P.underlying t = some (.slice e)) (hi : P.info? e = some i) (hz : i.zero = some z)
    (hsize : i.size = size) (hby : i.bytes = bytes) (hzs : z.cells.size = size) (hsz : 0 < size)
    (v : Value) (n : Nat) (xs : List Value) (hs : a.eval s = v) (hown : w.ownsRow base e size v n xs)
    (ad : Addr) (m c : Nat) (news : List Value) (hx : a.eval x = .slice (some ad) m c) (hl : news.length = m * size) (hnews : ∀ j u, news[j]? = some u → w.cell? (ad.add j) = some u) (h1 : ∀ u ∈ news, u.oneCell' = true)
    (h63 : n + m ≤ maxLen) (hbytes : (n + m) * bytes ≤ 140737488355328) (hbase : base ≤ w.heap.size)
    (h : ∀ v' w', w'.ownsRow base e size v' (n + m) (xs ++ news) → w.grownBy w' v.ownBlock → K (a.put o.dst v') w') :
    if Region.wanted o (yielded ops a.tmps) = true then Oper.wp P o a w K Q else E := by
  have hw : Region.wanted o (yielded ops a.tmps) = true := by simp [Region.wanted, hgd]
  rw [if_pos hw]
  exact wp_append_own w s x t ho base e i z size bytes ht hi hz hsize hby hzs hsz v n xs hs hown ad m c news hx hl hnews h1 h63 hbytes hbase fun v' w' h2 h3 _ => h v' w' h2 h3
end Go.Proofs.YtdmbcjckgfjcaaaGreatDoor
/- Layer mem: what the chapter asks, as plain functions on lists of numbers. -/
namespace Go.Proofs.YtdmbcjckgfjcaaaGreatDoor
/-- a deed -/
structure Dd where
  k : Int
  t : Int
  a : Int
  b : Int
/-- a sum, modulo 2^64 -/
def addU (v a : Int) : Int := (v + a) % 18446744073709551616
def kindF (o : Dd) : Bool := decide (1 ≤ o.k ∧ o.k ≤ 4)
def placeF (m : List Int) (o : Dd) : Bool := decide (0 ≤ o.t ∧ o.t < (m.length : Int))
def atF (m : List Int) (o : Dd) : Bool := kindF o && placeF m o
def wasF (m : List Int) (o : Dd) : Int := m.getD o.t.toNat 0
def vF (m : List Int) (o : Dd) : Int := if atF m o then wasF m o else 0
def okF (m : List Int) (o : Dd) : Bool := atF m o && (o.k != 3 || wasF m o == o.a)
def newF (v : Int) (o : Dd) : Int := if o.k = 2 then o.a else if o.k = 3 then (if v = o.a then o.b else v) else if o.k = 4 then addU v o.a else v
def mF (m : List Int) (o : Dd) : List Int := if atF m o then m.set o.t.toNat (newF (wasF m o) o) else m
/-- all of a list, one behind another -/
def allM : List Int → List Dd → List Int
  | m, [] => m
  | m, o :: l => allM (mF m o) l
def allV : List Int → List Dd → List Int
  | _, [] => []
  | m, o :: l => vF m o :: allV (mF m o) l
def allNMe : List Int → List Dd → Nat
  | _, [] => 0
  | m, o :: l => (if okF m o then 1 else 0) + allNMe (mF m o) l
theorem mF_len (m : List Int) (o : Dd) : (mF m o).length = m.length := by unfold mF; split <;> simp
theorem allM_len : ∀ (l : List Dd) (m : List Int), (allM m l).length = m.length
  | [], _ => rfl
  | o :: l, m => by rw [allM, allM_len l, mF_len]
theorem allV_len : ∀ (l : List Dd) (m : List Int), (allV m l).length = l.length
  | [], _ => rfl
  | o :: l, m => by rw [allV, List.length_cons, allV_len l]; rfl
theorem allN_le : ∀ (l : List Dd) (m : List Int), allNMe m l ≤ l.length
  | [], _ => Nat.le_refl _
  | o :: l, m => by rw [allNMe, List.length_cons]; have := allN_le l (mF m o); split <;> omega
theorem allM_app : ∀ (a b : List Dd) (m : List Int), allM m (a ++ b) = allM (allM m a) b
  | [], _, _ => rfl
  | o :: a, b, m => by rw [List.cons_append, allM, allM, allM_app a b]
theorem allV_app : ∀ (a b : List Dd) (m : List Int), allV m (a ++ b) = allV m a ++ allV (allM m a) b
  | [], _, _ => rfl
  | o :: a, b, m => by rw [List.cons_append, allV, allV, allM, allV_app a b, List.cons_append]
theorem allN_app : ∀ (a b : List Dd) (m : List Int), allNMe m (a ++ b) = allNMe m a + allNMe (allM m a) b
  | [], _, _ => by simp [allNMe, allM]
  | o :: a, b, m => by rw [List.cons_append, allNMe, allNMe, allM, allN_app a b, Nat.add_assoc]
theorem allM_snoc (m : List Int) (l : List Dd) (o : Dd) : allM m (l ++ [o]) = mF (allM m l) o := by rw [allM_app]; rfl
theorem allV_snoc (m : List Int) (l : List Dd) (o : Dd) : allV m (l ++ [o]) = allV m l ++ [vF (allM m l) o] := by rw [allV_app]; rfl
theorem allN_snoc (m : List Int) (l : List Dd) (o : Dd) : allNMe m (l ++ [o]) = allNMe m l + (if okF (allM m l) o then 1 else 0) := by rw [allN_app]; rfl
theorem atF_iff {m : List Int} {o : Dd} : atF m o = true ↔ (1 ≤ o.k ∧ o.k ≤ 4) ∧ 0 ≤ o.t ∧ o.t < (m.length : Int) := by
  unfold atF kindF placeF; rw [Bool.and_eq_true, decide_eq_true_eq, decide_eq_true_eq]
theorem at_off {m : List Int} {o : Dd} (h : ¬ ((1 ≤ o.k ∧ o.k ≤ 4) ∧ 0 ≤ o.t ∧ o.t < (m.length : Int))) : vF m o = 0 ∧ okF m o = false ∧ mF m o = m := by
  have h0 : atF m o = false := by
    cases e : atF m o with
    | false => rfl
    | true => exact absurd (atF_iff.1 e) h
  unfold vF okF mF
  simp [h0]
theorem at_on {m : List Int} {o : Dd} (h : (1 ≤ o.k ∧ o.k ≤ 4) ∧ 0 ≤ o.t ∧ o.t < (m.length : Int)) : vF m o = wasF m o ∧ okF m o = (o.k != 3 || wasF m o == o.a) ∧ mF m o = m.set o.t.toNat (newF (wasF m o) o) := by
  have h0 : atF m o = true := atF_iff.2 h
  unfold vF okF mF
  simp [h0]
theorem was_get {m : List Int} {o : Dd} (h : o.t.toNat < m.length) : wasF m o = m[o.t.toNat] := by
  unfold wasF; rw [List.getD_eq_getElem?_getD, List.getElem?_eq_getElem h]; rfl
end Go.Proofs.YtdmbcjckgfjcaaaGreatDoor
/- Layer deque: a step, what is in the deque, as plain functions on lists of numbers. No program in this text. -/
namespace Go.Proofs.YtdmbcjckgfjcaaaGreatDoor
/-- a machine -/
structure Mc where
  kind : Int
  pc : Int
  base : Int
  cap : Int
  b : Int
  t : Int
  x : Int
  out : Int
def w64 (x : Int) : Int := x % 18446744073709551616
def s64 (x : Int) : Int := (x + 9223372036854775808) % 18446744073709551616 - 9223372036854775808
def loadF (m : List Int) (a : Int) : Int := vF m ⟨1, a, 0, 0⟩
def storeF (m : List Int) (a v : Int) : List Int := mF m ⟨2, a, v, 0⟩
def startF (kind base cap x : Int) : Mc := ⟨kind, 0, base, cap, 0, 0, x, 0⟩
def cellsF (n : Int) : List Int := 1 :: 1 :: List.replicate (min (max n 1) 64).toNat 0
theorem w64_small {x : Int} (h0 : 0 ≤ x) (h1 : x ≤ 18446744073709551615) : w64 x = x := by unfold w64; omega
theorem s64_small {x : Int} (h0 : -9223372036854775808 ≤ x) (h1 : x ≤ 9223372036854775807) : s64 x = x := by unfold s64; omega
end Go.Proofs.YtdmbcjckgfjcaaaGreatDoor
/- Layer chain: a step, lists, as plain functions on lists of numbers. No program in this text. -/
namespace Go.Proofs.YtdmbcjckgfjcaaaGreatDoor
/-- a machine -/
structure Cm where
  kind : Int
  pc : Int
  head : Int
  next : Int
  h : Int
  x : Int
  y : Int
  out : Int
def packF (v n : Int) : Int := v % 4294967296 * 4294967296 + n % 4294967296
def nodeF (h : Int) : Int := h % 4294967296
/-- one behind another -/
def layCells (m : List Int) (next : Int) : List Int → List Int
  | [] => m
  | [x] => storeF m (s64 (next + x)) 0
  | x :: y :: l => layCells (storeF m (s64 (next + x)) (w64 y)) next (y :: l)
def layFCh (m : List Int) (head next : Int) (l : List Int) : List Int := storeF (layCells m next l) head (packF 0 (l.headD 0))
/-- at most so many, from x on -/
def listFrom (m : List Int) (next : Int) : Nat → Int → List Int
  | 0, _ => []
  | k + 1, x => if x = 0 then [] else x :: listFrom m next k (s64 (loadF m (s64 (next + x))))
def listFCh (m : List Int) (head next most : Int) : List Int := listFrom m next (min (max most 0) 1000).toNat (nodeF (loadF m head))
theorem pack_node {v n : Int} (h0 : 0 ≤ n) (h1 : n < 4294967296) : nodeF (packF v n) = n := by unfold nodeF packF; omega
section
variable {m : List Int}
theorem load_nat (i : Nat) (h : i < m.length) : loadF m (i : Int) = m.getD i 0 := by
  unfold loadF
  rw [(at_on (by simp only; omega)).1, was_get (by simp only; omega), List.getD_eq_getElem?_getD, List.getElem?_eq_getElem h]
  simp
theorem store_nat (i : Nat) (v : Int) (h : i < m.length) : storeF m (i : Int) v = m.set i v := by
  unfold storeF
  rw [(at_on (by simp only; omega)).2.2]
  simp [newF]
theorem getD_set (i j : Nat) (v : Int) (h : i < m.length) : (m.set i v).getD j 0 = if j = i then v else m.getD j 0 := by
  rw [List.getD_eq_getElem?_getD, List.getD_eq_getElem?_getD]
  by_cases e : j = i
  · subst e; rw [List.getElem?_set_self h, if_pos rfl]; rfl
  · rw [List.getElem?_set_ne (fun h => e h.symm), if_neg e]
end
/-- from x on, through the cells behind nb: just these nodes, none above N -/
def Chained (m : List Int) (nb N : Nat) : Int → List Nat → Prop
  | p, [] => p = 0
  | p, x :: l => p = (x : Int) ∧ 1 ≤ x ∧ x ≤ N ∧ Chained m nb N (m.getD (nb + x) 0) l
/-- the first of it -/
def fstN (l : List Nat) : Nat := l.headD 0
section
variable {m : List Int} {nb N : Nat}
theorem chained_fst : ∀ {p : Int} {l : List Nat}, Chained m nb N p l → p = (fstN l : Nat)
  | _, [], h => h
  | _, _ :: _, h => h.1
theorem chained_le : ∀ {p : Int} {l : List Nat}, Chained m nb N p l → ∀ x ∈ l, 1 ≤ x ∧ x ≤ N
  | _, [], _, _, hx => by simp at hx
  | _, y :: l, h, x, hx => by
    rcases List.mem_cons.1 hx with rfl | hx
    · exact ⟨h.2.1, h.2.2.1⟩
    · exact chained_le h.2.2.2 x hx
/-- what is written elsewhere turns no list -/
theorem chained_set {i : Nat} {v : Int} (hi : i < m.length) : ∀ {p : Int} {l : List Nat}, Chained m nb N p l → (∀ x ∈ l, nb + x ≠ i) → Chained (m.set i v) nb N p l
  | _, [], h, _ => h
  | _, y :: l, h, hne => by
    refine ⟨h.1, h.2.1, h.2.2.1, ?_⟩
    rw [getD_set _ _ _ hi, if_neg (hne y (by simp))]
    exact chained_set hi h.2.2.2 fun x hx => hne x (by simp [hx])
theorem list_chained (hlen : nb + N < m.length) (hs : nb + N ≤ 1000000) : ∀ (k : Nat) {p : Int} {l : List Nat}, Chained m nb N p l → (∀ x ∈ l, (m.getD (nb + x) 0) ≤ 1000000) → listFrom m nb k p = (l.take k).map fun (x : Nat) => (x : Int)
  | 0, _, _, _, _ => by simp [listFrom]
  | k + 1, _, [], h, _ => by
    have h : _ = (0 : Int) := h
    simp [listFrom, h]
  | k + 1, _, x :: l, h, hv => by
    obtain ⟨rfl, h1, h2, h3⟩ := h
    have hp := chained_fst h3
    have e : s64 ((nb : Int) + (x : Nat)) = ((nb + x : Nat) : Int) := by rw [s64_small (by omega) (by omega)]; rfl
    have hle := hv x (by simp)
    rw [listFrom, if_neg (by omega), e, load_nat _ (by omega), s64_small (by omega) (by omega), list_chained hlen hs k h3 fun y hy => hv y (by simp [hy])]
    simp
end
end Go.Proofs.YtdmbcjckgfjcaaaGreatDoor
/- Layer chain: the law's world, step by step. No program in this text. -/
namespace Go.Proofs.YtdmbcjckgfjcaaaGreatDoor
theorem chained_val {m : List Int} {nb N : Nat} : ∀ {p : Int} {l : List Nat}, Chained m nb N p l → ∀ x ∈ l, m.getD (nb + x) 0 ≤ N
  | _, [], _, _, hx => by simp at hx
  | _, y :: l, h, x, hx => by
    rcases List.mem_cons.1 hx with rfl | hx
    · have h3 := h.2.2.2
      cases l with
      | nil => have : m.getD (nb + x) 0 = 0 := h3; omega
      | cons z r => have h4 := h3.1; have := h3.2.2.1; omega
    · exact chained_val h.2.2.2 x hx
end Go.Proofs.YtdmbcjckgfjcaaaGreatDoor
/- Layer chain: a machine that steps alone; a list that is laid. No program in this text. -/
namespace Go.Proofs.YtdmbcjckgfjcaaaGreatDoor
theorem lay_other {nb : Nat} : ∀ (l : List Nat) (m : List Int) (i : Nat), (∀ x ∈ l, nb + x < m.length ∧ x ≤ 1000000) → nb ≤ 1000000 → (∀ x ∈ l, nb + x ≠ i) → (layCells m nb (l.map fun (x : Nat) => (x : Int))).getD i 0 = m.getD i 0 ∧ (layCells m nb (l.map fun (x : Nat) => (x : Int))).length = m.length
  | [], _, _, _, _, _ => ⟨rfl, rfl⟩
  | [x], m, i, h, hnb, hi => by
    have hx := h x (by simp)
    have e : s64 ((nb : Int) + (x : Nat)) = ((nb + x : Nat) : Int) := by rw [s64_small (by omega) (by omega)]; rfl
    simp only [List.map_cons, List.map_nil, layCells, e, store_nat (m := m) (nb + x) _ hx.1]
    have := hi x (by simp)
    exact ⟨by rw [getD_set _ _ _ hx.1, if_neg (by omega)], by simp⟩
  | x :: y :: l, m, i, h, hnb, hi => by
    have hx := h x (by simp)
    have e : s64 ((nb : Int) + (x : Nat)) = ((nb + x : Nat) : Int) := by rw [s64_small (by omega) (by omega)]; rfl
    simp only [List.map_cons, layCells, e, store_nat (m := m) (nb + x) _ hx.1]
    have hne := hi x (by simp)
    have ih := lay_other (y :: l) (m.set (nb + x) (w64 (y : Nat))) i (fun z hz => by rw [List.length_set]; exact h z (by simp at hz ⊢; exact .inr hz)) hnb (fun z hz => hi z (by simp at hz ⊢; exact .inr hz))
    rw [List.map_cons, getD_set _ _ _ hx.1, if_neg (by omega), List.length_set] at ih
    exact ih
theorem lay_chained {nb N : Nat} (hnb : nb ≤ 1000000) (hN : N ≤ 1000000) : ∀ (l : List Nat) (m : List Int), l.Nodup → (∀ x ∈ l, 1 ≤ x ∧ x ≤ N) → nb + N < m.length → Chained (layCells m nb (l.map fun (x : Nat) => (x : Int))) nb N (fstN l : Nat) l
  | [], _, _, _, _ => rfl
  | [x], m, _, h, hl => by
    have hx := h x (by simp)
    have e : s64 ((nb : Int) + (x : Nat)) = ((nb + x : Nat) : Int) := by rw [s64_small (by omega) (by omega)]; rfl
    refine ⟨rfl, hx.1, hx.2, ?_⟩
    simp only [List.map_cons, List.map_nil, layCells, e, store_nat (m := m) (nb + x) _ (show nb + x < m.length by omega)]
    rw [getD_set _ _ _ (by omega), if_pos rfl]
    rfl
  | x :: y :: l, m, hn, h, hl => by
    have hx := h x (by simp)
    have hy := h y (by simp)
    obtain ⟨hn1, hn2⟩ := List.nodup_cons.1 hn
    have e : s64 ((nb : Int) + (x : Nat)) = ((nb + x : Nat) : Int) := by rw [s64_small (by omega) (by omega)]; rfl
    have hw : w64 (y : Nat) = (y : Nat) := w64_small (by omega) (by omega)
    have hh : layCells m nb ((x :: y :: l).map fun (x : Nat) => (x : Int)) = layCells (m.set (nb + x) (y : Nat)) nb ((y :: l).map fun (x : Nat) => (x : Int)) := by
      simp only [List.map_cons, layCells, e, store_nat (m := m) (nb + x) _ (show nb + x < m.length by omega), hw]
    have ih := lay_chained hnb hN (y :: l) (m.set (nb + x) (y : Nat)) hn2 (fun z hz => h z (by simp at hz ⊢; exact .inr hz)) (by rw [List.length_set]; exact hl)
    have ho := lay_other (nb := nb) (y :: l) (m.set (nb + x) (y : Nat)) (nb + x) (fun z hz => by
      have := h z (by simp at hz ⊢; exact .inr hz)
      rw [List.length_set]; omega) hnb (fun z hz e => by
      have e5 : z = x := by omega
      subst e5
      exact hn1 hz)
    rw [hh]
    refine ⟨rfl, hx.1, hx.2, ?_⟩
    rw [ho.1, getD_set _ _ _ (by omega), if_pos rfl]
    exact ih
end Go.Proofs.YtdmbcjckgfjcaaaGreatDoor
/- Layer state: the cells at the start, and what lies in the bins, as plain functions. No program in this text. -/
namespace Go.Proofs.YtdmbcjckgfjcaaaGreatDoor
/-- as lay_list, the head anywhere up to nb (place nb is no node's) -/
theorem lay_two {hd nb N : Nat} (hnb : nb ≤ 400000) (hN : N ≤ 400000) (hh : hd ≤ nb) (l : List Nat) (m : List Int) (hn : l.Nodup) (h : ∀ x ∈ l, 1 ≤ x ∧ x ≤ N) (hl : nb + N < m.length) :
    Chained (layFCh m hd nb (l.map fun (x : Nat) => (x : Int))) nb N (fstN l : Nat) l ∧ (layFCh m hd nb (l.map fun (x : Nat) => (x : Int))).getD hd 0 = packF 0 (fstN l : Nat) ∧ (layFCh m hd nb (l.map fun (x : Nat) => (x : Int))).length = m.length
      ∧ ∀ i, i ≠ hd → (∀ x ∈ l, nb + x ≠ i) → (layFCh m hd nb (l.map fun (x : Nat) => (x : Int))).getD i 0 = m.getD i 0 := by
  have hb : ∀ z ∈ l, nb + z < m.length ∧ z ≤ 1000000 := fun z hz => by have := h z hz; omega
  have hlen := (lay_other (nb := nb) l m hd hb (by omega) (fun z hz => by have := h z hz; omega)).2
  have hc := lay_chained (by omega) (by omega) l m hn h hl
  have e0 : (l.map fun (x : Nat) => (x : Int)).headD 0 = (fstN l : Nat) := by cases l <;> rfl
  have hoth := fun i hi => (lay_other (nb := nb) l m i hb (by omega) hi).1
  unfold layFCh
  rw [e0]
  generalize layCells m nb (l.map fun (x : Nat) => (x : Int)) = M at *
  rw [store_nat (m := M) hd _ (by omega)]
  refine ⟨chained_set (by omega) hc fun z hz => by have := h z hz; omega, by rw [getD_set _ _ _ (by omega), if_pos rfl], by simp; omega, fun i hi hx => ?_⟩
  rw [getD_set _ _ _ (by omega), if_neg hi]
  exact hoth i hx
/-- cells that are alike where it passes -/
theorem chained_same {m m' : List Int} {nb N : Nat} : ∀ {p : Int} {l : List Nat}, Chained m nb N p l → (∀ x ∈ l, m'.getD (nb + x) 0 = m.getD (nb + x) 0) → Chained m' nb N p l
  | _, [], h, _ => h
  | _, y :: l, h, hs => by
    refine ⟨h.1, h.2.1, h.2.2.1, ?_⟩
    rw [hs y (by simp)]
    exact chained_same h.2.2.2 fun x hx => hs x (by simp [hx])
theorem list_is {m : List Int} {hd nb N most : Nat} {l : List Nat} (hs : nb + N ≤ 800000) (hh : hd ≤ nb) (hl : nb + N < m.length) (hc : Chained m nb N (fstN l : Nat) l) (hg : m.getD hd 0 = packF 0 (fstN l : Nat)) (hm : most ≤ 1000) :
    listFCh m hd nb most = (l.take most).map (fun (x : Nat) => (x : Int)) := by
  have hf : fstN l ≤ N := by
    unfold fstN
    cases l with
    | nil => simp
    | cons b r => exact (chained_le hc b (by simp)).2
  unfold listFCh
  rw [load_nat hd (by omega), hg, pack_node (by omega) (by omega)]
  rw [list_chained (nb := nb) (N := N) hl (by omega) (min (max (most : Int) 0) 1000).toNat hc (fun x hx => by have := chained_val hc x hx; omega), show (min (max (most : Int) 0) 1000).toNat = most by omega]
/-- so many empty deques -/
def deqsF (cap : Nat) : Nat → List Int
  | 0 => []
  | w + 1 => deqsF cap w ++ cellsF cap
/-- where all deques end -/
def topM (W cap : Nat) : Nat := W * (cap + 2)
/-- the cells before the lists are laid -/
def bareM (W cap nb : Nat) : List Int := deqsF cap W ++ List.replicate (2 + nb) 0
/-- the cells at the start -/
def newM (W cap nb : Nat) (fu em : List Nat) : List Int :=
  layFCh (layFCh (bareM W cap nb) (topM W cap : Nat) (topM W cap + 1 : Nat) (fu.map fun (x : Nat) => (x : Int))) (topM W cap + 1 : Nat) (topM W cap + 1 : Nat) (em.map fun (x : Nat) => (x : Int))
theorem cells_len {cap : Nat} (h1 : 1 ≤ cap) (h2 : cap ≤ 64) : (cellsF (cap : Int)).length = cap + 2 := by
  unfold cellsF
  simp only [List.length_cons, List.length_replicate]; omega
theorem deqs_len {cap : Nat} (h1 : 1 ≤ cap) (h2 : cap ≤ 64) : ∀ W, (deqsF cap W).length = topM W cap
  | 0 => by unfold topM; simp [deqsF]
  | W + 1 => by
    unfold deqsF
    rw [List.length_append, deqs_len h1 h2 W, cells_len h1 h2]
    unfold topM
    rw [Nat.succ_mul]
theorem bare_len {W cap nb : Nat} (h1 : 1 ≤ cap) (h2 : cap ≤ 64) : (bareM W cap nb).length = topM W cap + 2 + nb := by
  unfold bareM; rw [List.length_append, deqs_len h1 h2, List.length_replicate]; omega
section
variable {W cap nb : Nat} {fu em : List Nat}
/-- what New's cells are asked for: two lists of bins that have no bin in common -/
structure NewM (W cap nb : Nat) (fu em : List Nat) : Prop where
  w : W ≤ 16
  c1 : 1 ≤ cap
  c2 : cap ≤ 64
  bs : nb ≤ 1000
  fn : fu.Nodup
  en : em.Nodup
  fr : ∀ x ∈ fu, 1 ≤ x ∧ x ≤ nb
  er : ∀ x ∈ em, 1 ≤ x ∧ x ≤ nb
  ne : ∀ x ∈ fu, x ∉ em
theorem top_le (h : NewM W cap nb fu em) : topM W cap ≤ 1056 := by
  have h1 : W * (cap + 2) ≤ 16 * (64 + 2) := Nat.mul_le_mul h.w (by have := h.c2; omega)
  unfold topM; omega
theorem newM_all (h : NewM W cap nb fu em) :
    (newM W cap nb fu em).length = topM W cap + 2 + nb ∧ listFCh (newM W cap nb fu em) (topM W cap : Nat) (topM W cap + 1 : Nat) 100 = (fu.take 100).map (fun (x : Nat) => (x : Int)) ∧ listFCh (newM W cap nb fu em) (topM W cap + 1 : Nat) (topM W cap + 1 : Nat) 100 = (em.take 100).map (fun (x : Nat) => (x : Int))
      ∧ ∀ i, i < topM W cap → (newM W cap nb fu em).getD i 0 = (deqsF cap W).getD i 0 := by
  have hT := top_le h
  have hB := bare_len (W := W) (nb := nb) h.c1 h.c2
  have hnb := h.bs
  obtain ⟨a1, a2, a3, a4⟩ := lay_two (hd := topM W cap) (nb := topM W cap + 1) (N := nb) (by omega) (by omega) (by omega) fu (bareM W cap nb) h.fn h.fr (by omega)
  unfold newM
  generalize layFCh (bareM W cap nb) (topM W cap : Nat) (topM W cap + 1 : Nat) (fu.map fun (x : Nat) => (x : Int)) = M1 at *
  obtain ⟨b1, b2, b3, b4⟩ := lay_two (hd := topM W cap + 1) (nb := topM W cap + 1) (N := nb) (by omega) (by omega) (by omega) em M1 h.en h.er (by omega)
  generalize layFCh M1 (topM W cap + 1 : Nat) (topM W cap + 1 : Nat) (em.map fun (x : Nat) => (x : Int)) = M2 at *
  have c1 : Chained M2 (topM W cap + 1) nb (fstN fu : Nat) fu := chained_same a1 fun x hx => b4 _ (by have := h.fr x hx; omega) fun y hy e => by
    have e2 : y = x := by omega
    exact h.ne x hx (e2 ▸ hy)
  have c2 : M2.getD (topM W cap) 0 = packF 0 (fstN fu : Nat) := (b4 _ (by omega) fun y hy => by omega).trans a2
  refine ⟨by omega, list_is (most := 100) (by omega) (by omega) (by omega) c1 c2 (by decide), list_is (most := 100) (by omega) (by omega) (by omega) b1 b2 (by decide), fun i hi => ?_⟩
  rw [b4 i (by omega) fun y hy => by omega, a4 i (by omega) fun y hy => by omega]
  unfold bareM
  rw [List.getD_eq_getElem?_getD, List.getElem?_append_left (by rw [deqs_len h.c1 h.c2]; omega), ← List.getD_eq_getElem?_getD]
end
/-- pieces of k, n of them -/
def chunk {α : Type} (k : Nat) : Nat → List α → List (List α)
  | 0, _ => []
  | n + 1, g => g.take k :: chunk k n (g.drop k)
section
variable {α : Type} {k : Nat}
theorem chunk_len : ∀ (n : Nat) (g : List α), (chunk k n g).length = n
  | 0, _ => rfl
  | n + 1, g => by rw [chunk, List.length_cons, chunk_len n]
theorem chunk_get : ∀ (n : Nat) (g : List α) (i : Nat), i < n → (chunk k n g)[i]? = some ((g.drop (k * i)).take k)
  | 0, _, _, h => by omega
  | n + 1, g, 0, _ => by rw [chunk, List.getElem?_cons_zero, Nat.mul_zero, List.drop_zero]
  | n + 1, g, i + 1, h => by
    rw [chunk, List.getElem?_cons_succ, chunk_get n _ i (by omega), List.drop_drop, Nat.mul_succ, Nat.add_comm k]
theorem chunk_snoc (n : Nat) (g : List α) : chunk k (n + 1) g = chunk k n g ++ [(g.drop (k * n)).take k] := by
  apply List.ext_getElem?
  intro i
  rcases Nat.lt_trichotomy i n with h | h | h
  · rw [chunk_get _ _ _ (by omega), List.getElem?_append_left (by rw [chunk_len]; exact h), chunk_get _ _ _ h]
  · subst h
    rw [chunk_get _ _ _ (by omega), List.getElem?_append_right (by rw [chunk_len]; omega), chunk_len]; simp
  · rw [List.getElem?_eq_none (by rw [chunk_len]; omega), List.getElem?_eq_none (by rw [List.length_append, chunk_len]; simp; omega)]
/-- how many of them hold something -/
def fullN (k n : Nat) : Nat := (n + (k - 1)) / k
theorem full_iff (hk : 0 < k) (n i : Nat) : i < fullN k n ↔ k * i < n := by
  unfold fullN
  rw [Nat.lt_iff_add_one_le, Nat.le_div_iff_mul_le hk, Nat.add_mul, Nat.one_mul, Nat.mul_comm i k]
  omega
theorem full_le (hk : 0 < k) {n b : Nat} (h : n ≤ b) : fullN k n ≤ b := by
  rcases Nat.lt_or_ge b (fullN k n) with hb | hb
  · have h1 := (full_iff hk n b).1 hb
    have h2 : 1 * b ≤ k * b := Nat.mul_le_mul_right b hk
    omega
  · exact hb
theorem chunk_empty (hk : 0 < k) {n : Nat} {g : List α} {i : Nat} (hi : i < n) (hf : fullN k g.length ≤ i) : (chunk k n g)[i]? = some [] := by
  rw [chunk_get n g i hi]
  have h : ¬ k * i < g.length := fun h => by have := (full_iff hk _ _).2 h; omega
  rw [List.drop_eq_nil_of_le (by omega), List.take_nil]
end
/-- the bins from a + 1 on, n of them -/
def binsN (a n : Nat) : List Nat := List.range' (a + 1) n
theorem bins_new {W cap nb f : Nat} (hw : W ≤ 16) (c1 : 1 ≤ cap) (c2 : cap ≤ 64) (hn : nb ≤ 1000) (hf : f ≤ nb) : NewM W cap nb (binsN 0 f) (binsN f (nb - f)) where
  w := hw
  c1 := c1
  c2 := c2
  bs := hn
  fn := List.nodup_range'
  en := List.nodup_range'
  fr := fun x hx => by unfold binsN at hx; rw [List.mem_range'_1] at hx; omega
  er := fun x hx => by unfold binsN at hx; rw [List.mem_range'_1] at hx; omega
  ne := fun x hx h => by unfold binsN at hx h; rw [List.mem_range'_1] at hx h; omega
theorem binsN_snoc (a n : Nat) : binsN a (n + 1) = binsN a n ++ [a + n + 1] := by
  unfold binsN
  rw [List.range'_concat, Nat.one_mul]
  congr 2; omega
end Go.Proofs.YtdmbcjckgfjcaaaGreatDoor
/- Layer pick: the functions on one pick: Right, isThere, read, write. -/
namespace Go.Proofs.YtdmbcjckgfjcaaaGreatDoor
open Go.RowKit
/-- is a pick right? -/
def right (p : Int × Int) : Bool := (p.1 == 0 && p.2 == 0) || ((p.1 == 1 || p.1 == 2) && decide (1 ≤ p.2) && decide (p.2 ≤ 16))
/-- is a pick of one of n workers, m mutators, or the detector? -/
def there (p : Int × Int) (n m : Int) : Bool := right p && (p.1 != 1 || decide (p.2 ≤ n)) && (p.1 != 2 || decide (p.2 ≤ m))
set_option maxRecDepth 100000 in
set_option maxHeartbeats 400000 in
theorem Right_anyPk (k n : Int) (w : World) :
    Calls Tryz.prog 180 #[.agg #[.int .i64 k, .int .i64 n]] w fun e w' => e = .returned (.bool (right (k, n))) ∧ Below w.heap.size w w' := by
  go_enter Tryz.func180, Tryz.ntmps180
  go_wp2
  all_goals go_ret
  all_goals refine ⟨ret_bool ?_, by go_grown⟩
  all_goals simp_all [right]
  all_goals omega
set_option maxRecDepth 100000 in
set_option maxHeartbeats 400000 in
theorem isThere_any (k n a b : Int) (w : World) :
    Calls Tryz.prog 169 #[.agg #[.int .i64 k, .int .i64 n], .int .i64 a, .int .i64 b] w fun e w' => e = .returned (.bool (there (k, n) a b)) ∧ Below w.heap.size w w' := by
  go_enter Tryz.func169, Tryz.ntmps169
  go_wp2_with (go_at_call 180; refine (Right_anyPk _ _ _).mono ?_; rintro e w' ⟨rfl, hb⟩; obtain ⟨hc, hf⟩ := bcell hb)
  all_goals go_ret
  all_goals refine ⟨ret_bool ?_, ?_⟩
  all_goals first | exact (((Below.refl _ _).alloc (Nat.le_refl _) _).trans (hb.mono (by simp))) | (clear hb hc hf; grind [there])
end Go.Proofs.YtdmbcjckgfjcaaaGreatDoor
/- Layer pick: Known. -/
namespace Go.Proofs.YtdmbcjckgfjcaaaGreatDoor
open Go.RowKit
abbrev PP := Int × Int
/-- a pick's cells -/
def pc (p : Int × Int) : List Value := [.int .i64 p.1, .int .i64 p.2]
theorem pc_len (p : Int × Int) : (pc p).length = 2 := rfl
abbrev Picks (w : World) (v : Value) (l : List (Int × Int)) : Prop := Sl pc 2 w v l
theorem picks_at {w : World} {A : Option Addr} {n c : Nat} {l : List (Int × Int)} (h : Picks w (.slice A n c) l) {k : Nat} (hk : k < l.length) :
    ∃ b off, A = some ⟨b, off, none⟩ ∧ b < w.heap.size ∧ w.cell? ⟨b, off + k * 2, none⟩ = some (.int .i64 (l[k]).1) ∧ w.cell? ⟨b, off + k * 2 + 1, none⟩ = some (.int .i64 (l[k]).2) := by
  obtain ⟨A', c', e, h1, h2, h3⟩ := h
  injection e with e1 e2 e3
  subst e1
  obtain ⟨b, off, rfl, hb, hc⟩ := h3 (by omega)
  have := hc k l[k] (List.getElem?_eq_getElem hk)
  exact ⟨b, off, rfl, hb, by simpa using this 0 _ rfl, by simpa using this 1 _ rfl⟩
set_option maxRecDepth 100000 in
set_option maxHeartbeats 1000000 in
theorem Known_any (v : Value) (l : List (Int × Int)) (n m : Int) (w : World) (hl : Picks w v l) :
    Calls Tryz.prog 149 #[v, .int .i64 n, .int .i64 m] w fun e w' => e = .returned (.bool (l.all fun p => there p n m)) ∧ Below w.heap.size w w' := by
  have hlen := hl.len
  have hl' := hl
  obtain ⟨A, c, rfl, h1, h2, -⟩ := hl'
  unfold maxLen at h2 hlen
  have HL := hide hl
  clear hl
  go_enter Tryz.func149, Tryz.ntmps149
  go_wp2
  go_loopw [11] (fun i wr => ∃ k : Nat, k ≤ l.length ∧ i = .int .i64 k ∧ Below w.heap.size w wr ∧ (l.take k).all (fun p => there p n m) = true) (fun i _ => l.length - (intOf i).toNat)
  case atStart => exact ⟨0, Nat.zero_le _, rfl, Below.refl _ _, by simp⟩
  case round =>
    obtain ⟨k, hk, rfl, hb, hall⟩ := hrel
    by_cases hlt : k < l.length
    · obtain ⟨b, off, rfl, hbl, c0, c1⟩ := picks_at (HL.out.below hb) hlt
      have hsn : (l.take (k + 1)).all (fun p => there p n m) = there (l[k].1, l[k].2) n m := by
        rw [List.take_succ_eq_append_getElem hlt, List.all_append, hall]; simp
      have HS := hide hsn
      clear hsn
      cases htb : there (l[k].1, l[k].2) n m
      · go_wp2_with (go_at_call 169; refine (isThere_any _ _ _ _ _).mono ?_; rintro e w' ⟨rfl, hb'⟩; rw [htb])
        go_ret
        refine ⟨ret_bool ?_, ?_⟩
        · rw [htb] at HS
          symm
          rw [← Bool.not_eq_true]
          intro hall'
          have h3 : (l.take (k + 1)).all (fun p => there p n m) = true := List.all_eq_true.2 fun x hx => List.all_eq_true.1 hall' x (List.mem_of_mem_take hx)
          rw [HS.out] at h3; cases h3
        · exact bcall1 hb hb'
      · go_wp2_with (go_at_call 169; refine (isThere_any _ _ _ _ _).mono ?_; rintro e w' ⟨rfl, hb'⟩; rw [htb])
        go_roundw
        case rel => exact ⟨k + 1, by omega, by go_num, bcall1 hb hb', by rw [HS.out, htb]⟩
        case measure => simp [intOf]; omega
    · go_wp2
      go_ret
      refine ⟨ret_bool ?_, hb⟩
      rw [List.take_of_length_le (by omega)] at hall
      exact hall.symm
end Go.Proofs.YtdmbcjckgfjcaaaGreatDoor
/- Layer ledger: what the chapter asks, as plain functions, and what follows. No program in this text. -/
namespace Go.Proofs.YtdmbcjckgfjcaaaGreatDoor
structure Lg where
  scanned : Int
  spent : Int
  pool : Int
  bal : List Int
def lNew (m : Int) : Lg := ⟨0, 0, 0, List.replicate (min (max m 0) 16).toNat 0⟩
def lSame (a b : Lg) : Bool := decide (a.scanned = b.scanned ∧ a.spent = b.spent ∧ a.pool = b.pool ∧ a.bal = b.bal)
end Go.Proofs.YtdmbcjckgfjcaaaGreatDoor
/- A struct of four values in a box: its block known whole. -/
namespace Go.Proofs.YtdmbcjckgfjcaaaGreatDoor
open Go.RowKit Go.Joins
/-- block B has these four -/
structure B4 (t : TypeId) (w : World) (B : Nat) (x y z u : Value) : Prop where
  blk : w.heap[B]? = some (.cells #[x, y, z, u] t)
section
variable {t : TypeId} {w w' : World} {B : Nat} {x y z u : Value}
theorem B4.lt (h : B4 t w B x y z u) : B < w.heap.size := (Array.getElem?_eq_some_iff.1 h.blk).1
theorem B4.below (h : B4 t w B x y z u) (hb : Below w.heap.size w w') : B4 t w' B x y z u := ⟨(hb.block B h.lt).trans h.blk⟩
theorem B4.all (h : B4 t w B x y z u) : w.cell? ⟨B, 0, none⟩ = some x ∧ w.cell? ⟨B, 1, none⟩ = some y ∧ w.cell? ⟨B, 2, none⟩ = some z ∧ w.cell? ⟨B, 3, none⟩ = some u :=
  ⟨cell_of_block h.blk 0, cell_of_block h.blk 1, cell_of_block h.blk 2, cell_of_block h.blk 3⟩
theorem B4.free (h : B4 t w B x y z u) : w.frozen? ⟨B, 0, none⟩ = false ∧ w.frozen? ⟨B, 1, none⟩ = false ∧ w.frozen? ⟨B, 2, none⟩ = false ∧ w.frozen? ⟨B, 3, none⟩ = false :=
  ⟨unfrozen_of_block h.blk 0, unfrozen_of_block h.blk 1, unfrozen_of_block h.blk 2, unfrozen_of_block h.blk 3⟩
theorem B4.other (h : B4 t w B x y z u) {g o : Nat} (v : Value) (hne : B ≠ g) : B4 t (w.setCell ⟨g, o, none⟩ v) B x y z u := ⟨(Below.heap_setCell w ⟨g, o, none⟩ v B hne).trans h.blk⟩
end
theorem b4_new (w : World) (x y z u : Value) (t : TypeId) : ∃ w1, w.alloc (.cells #[x, y, z, u] t) = w1 ∧ Below w.heap.size w w1 ∧ w1.heap.size = w.heap.size + 1 ∧ B4 t w1 w.heap.size x y z u :=
  ⟨_, rfl, (Below.refl _ _).alloc (Nat.le_refl _) _, by simp, ⟨heap_alloc_new w _⟩⟩
end Go.Proofs.YtdmbcjckgfjcaaaGreatDoor
/- Arrays by value that are whole blocks: loaded, stored, handed out. -/
namespace Go.Proofs.YtdmbcjckgfjcaaaGreatDoor
open Go.RowKit
section
variable {P : Program}
theorem wpList_load_row {ops : Array Oper} {rest : List Oper} {op : Oper} {a : Act} {w : World} {Q : Exit → Act → World → Prop} (hgd : op.guard = none) (ty : TypeId) (x : Operand) (ho : op.op = .load ty x)
    (b : Nat) (hx : a.eval x = .pointer (some ⟨b, 0, none⟩)) (cs : Array Value) (t : TypeId) (fr : Nat × Nat) (d : TypeDesc) (hg : w.heap[b]? = some (.cells cs t fr))
    (hu : P.underlying ty = some d) (hd : (match d with | .struct _ | .array _ _ => true | _ => false) = true) (hi : (P.info? ty).map (·.size) = some cs.size)
    (h : wpList P ops Q rest (a.put op.dst (.agg cs)) w) : wpList P ops Q (op :: rest) a w :=
  wpList_plain hgd fun _ hK => by
    unfold Oper.wp execOp
    simp only [ho, hx, Instr.loadAt, Instr.sureAddr, Sem.run_bind, Sem.run_pure, Result.andThen_ok, run_loadVar_row w b t ty cs fr d hg hu hd hi]
    exact hK _ _ h
theorem wpList_store_row {ops : Array Oper} {rest : List Oper} {op : Oper} {a : Act} {w : World} {Q : Exit → Act → World → Prop} (hgd : op.guard = none) (ty : TypeId) (x y : Operand) (ho : op.op = .store ty x y)
    (b : Nat) (hx : a.eval x = .pointer (some ⟨b, 0, none⟩)) (cells : Array Value) (hy : a.eval y = .agg cells) (old : Array Value) (t : TypeId) (hg : w.heap[b]? = some (.cells old t (0, 0)))
    (hi : (P.info? ty).map (·.size) = some cells.size) (hs : old.size = cells.size) (h1 : cells.all (·.oneCell') = true)
    (h : wpList P ops Q rest (a.put op.dst undef) (w.setRow b cells)) : wpList P ops Q (op :: rest) a w :=
  wpList_plain hgd fun _ hK => by
    unfold Oper.wp execOp
    simp only [ho, hx, hy, Instr.storeAt, Instr.sureAddr, Sem.run_bind, Sem.run_pure, Result.andThen_ok, run_storeVar_row w b t ty old cells hg hi hs h1]
    exact hK _ _ h
theorem results_row {fn : Func} {tmps : Array Value} {w : World} {s : Nat} {ty : TypeId} (hr : fn.results = #[.cell s ty]) (b : Nat) (hs : tmps.getD s undef = .pointer (some ⟨b, 0, none⟩)) (cs : Array Value) (t : TypeId) (fr : Nat × Nat) (d : TypeDesc)
    (hg : w.heap[b]? = some (.cells cs t fr)) (hu : P.underlying ty = some d) (hd : (match d with | .struct _ | .array _ _ => true | _ => false) = true) (hi : (P.info? ty).map (·.size) = some cs.size) : (results fn tmps).run P w = .ok (.agg cs) w := by
  have hl := run_loadVar_row (P := P) w b t ty cs fr d hg hu hd hi
  rw [Array.getD_eq_getD_getElem?] at hs
  simp [results, hr, hs, asAddr, hl]
end
theorem below_setRow {B : Nat} {a w : World} (h : Below B a w) {g : Nat} (hg : B ≤ g) (cs : Array Value) : Below B a (w.setRow g cs) :=
  h.trans ⟨rfl, rfl, rfl, by simp, fun k hk => setRow_other w g k cs (by omega)⟩
/-- two new blocks -/
theorem two_new (w : World) (y z : Array Value) (s t : TypeId) : ∃ w1, (w.alloc (.cells y s)).alloc (.cells z t) = w1 ∧ w1.heap[w.heap.size]? = some (.cells y s (0, 0)) ∧ w1.heap[w.heap.size + 1]? = some (.cells z t (0, 0)) ∧ Below w.heap.size w w1 ∧ w1.heap.size = w.heap.size + 2 := by
  have hs : (w.alloc (.cells y s)).heap.size = w.heap.size + 1 := by simp
  refine ⟨_, rfl, ?_, ?_, ((Below.refl _ _).alloc (Nat.le_refl _) _).alloc (by simp) _, by simp⟩
  · rw [Go.heap_alloc_old (h := by omega)]; exact heap_alloc_new w _
  · rw [← hs]; exact heap_alloc_new _ _
end Go.Proofs.YtdmbcjckgfjcaaaGreatDoor
/- A struct of two values in a box: its block known whole; what a store to it leaves alone. -/
namespace Go.Proofs.YtdmbcjckgfjcaaaGreatDoor
open Go.RowKit Go.Joins
/-- block B has these two -/
structure B2 (t : TypeId) (w : World) (B : Nat) (x y : Value) : Prop where
  blk : w.heap[B]? = some (.cells #[x, y] t)
theorem grown_set2 (w : World) (B i : Nat) (x : Value) : w.grownBy (w.setCell ⟨B, i, none⟩ x) (some B) :=
  ⟨rfl, rfl, rfl, by simp [World.setCell], fun k _ hk => Below.heap_setCell w ⟨B, i, none⟩ x k (by intro e; exact hk (by rw [e]))⟩
theorem grown_trans2 {w w1 w2 : World} {row : Option Nat} (h : w.grownBy w1 row) (k : w1.grownBy w2 row) : w.grownBy w2 row :=
  ⟨k.os.trans h.os, k.tape.trans h.tape, k.output.trans h.output, Nat.le_trans h.size k.size, fun i hi hr => (k.block i (Nat.lt_of_lt_of_le hi h.size) hr).trans (h.block i hi hr)⟩
theorem grown_refl2 (w : World) (row : Option Nat) : w.grownBy w row := ⟨rfl, rfl, rfl, Nat.le_refl _, fun _ _ _ => rfl⟩
theorem grown_bel2 {w w' : World} {B n : Nat} (h : w.grownBy w' (some B)) (hn : n ≤ B) (hs : n ≤ w.heap.size) : Below n w w' :=
  ⟨h.os, h.tape, h.output, h.size, fun k hk => h.block k (by omega) (by intro e; injection e with e; omega)⟩
theorem grown_drew2 {w w' : World} {row : Option Nat} (h : w.grownBy w' row) (n : Nat) : w.grownBy (w'.drewN n) row := ⟨h.os, h.tape, h.output, h.size, h.block⟩
theorem grown_from2 {w w' : World} {row : Option Nat} {n : Nat} (h : (w.drewN n).grownBy w' row) : w.grownBy w' row := ⟨h.os, h.tape, h.output, h.size, h.block⟩
section
variable {t : TypeId} {w w' : World} {B : Nat} {x y : Value}
theorem B2.lt (h : B2 t w B x y) : B < w.heap.size := (Array.getElem?_eq_some_iff.1 h.blk).1
theorem B2.below (h : B2 t w B x y) (hb : Below w.heap.size w w') : B2 t w' B x y := ⟨(hb.block B h.lt).trans h.blk⟩
theorem B2.all (h : B2 t w B x y) : w.cell? ⟨B, 0, none⟩ = some x ∧ w.cell? ⟨B, 1, none⟩ = some y := ⟨cell_of_block h.blk 0, cell_of_block h.blk 1⟩
theorem B2.free (h : B2 t w B x y) : w.frozen? ⟨B, 0, none⟩ = false ∧ w.frozen? ⟨B, 1, none⟩ = false := ⟨unfrozen_of_block h.blk 0, unfrozen_of_block h.blk 1⟩
theorem B2.drewN (h : B2 t w B x y) (n : Nat) : B2 t (w.drewN n) B x y := ⟨h.blk⟩
theorem B2.set1 (h : B2 t w B x y) (v : Value) : B2 t (w.setCell ⟨B, 1, none⟩ v) B x v := ⟨by rw [block_setCell h.blk v]; rfl⟩
end
theorem b2_new (w : World) (x y : Value) (t : TypeId) : ∃ w1, w.alloc (.cells #[x, y] t) = w1 ∧ Below w.heap.size w w1 ∧ w1.heap.size = w.heap.size + 1 ∧ B2 t w1 w.heap.size x y :=
  ⟨_, rfl, (Below.refl _ _).alloc (Nat.le_refl _) _, by simp, ⟨heap_alloc_new w _⟩⟩
end Go.Proofs.YtdmbcjckgfjcaaaGreatDoor
