import Derived.Test.YtdmbcjckgfjcaaaGreatDoorRows
import Derived.WalkKit
import Derived.ProofKit
import Derived.OpenShut
import Derived.WalkSpells
import Derived.WalkLawsBesides
import Derived.Handy
import Derived.Below
import Derived.ChangeSame
import Derived.Lib.SmallJoins
import Derived.Deep.MidRow
import Derived.Deep.WholeRow
/- Words for memory, for every layer: a slice that reads as a list of rows of cells; steps of 'Below'; the last step of a law's row. -/
namespace Go.Proofs.YtdmbcjckgfjcaaaGreatDoor
open Go.RowKit Go.WideShapes Go.ChangeShapes
theorem ret_bool {a b : Bool} (h : a = b) : Ending.returned (.bool a) = .returned (.bool b) := by rw [h]
theorem ret_int {k : IntKind} {a b : Int} (h : a = b) : Ending.returned (.int k a) = .returned (.int k b) := by rw [h]
theorem hide {p : Prop} (h : p) : Hid p := h
theorem bcell {W w1 : World} (hb : Below W.heap.size W w1) : (∀ b o, b < W.heap.size → w1.cell? ⟨b, o, none⟩ = W.cell? ⟨b, o, none⟩) ∧ (∀ b o, b < W.heap.size → w1.frozen? ⟨b, o, none⟩ = W.frozen? ⟨b, o, none⟩) :=
  ⟨fun b o h => hb.cell (p := ⟨b, o, none⟩) h, fun b o h => hb.frozen (p := ⟨b, o, none⟩) h⟩
theorem btr {B : Nat} {a b c : World} (h : Below B a b) (k : Below b.heap.size b c) (hB : B ≤ a.heap.size) : Below B a c := h.trans (k.mono (Nat.le_trans hB h.size))
theorem bdrewN {B : Nat} {a w : World} (h : Below B a w) (n : Nat) : Below B a (w.drewN n) := ⟨h.os, h.tape, h.output, h.size, h.block⟩
/-- behind a block of its own, a call -/
theorem bcall {a b c : World} (h : Below a.heap.size a b) (k : Below b.heap.size b c) : Below a.heap.size a c := btr h k (Nat.le_refl _)
theorem bcall1 {a b c : World} {o : Obj} (h : Below a.heap.size a b) (k : Below (b.alloc o).heap.size (b.alloc o) c) : Below a.heap.size a c := bcall (h.alloc h.size _) k
/-- the slice value v reads as the list l; each element as the cells 'enc' gives, 'size' of them -/
def Sl {α : Type} (enc : α → List Value) (size : Nat) (w : World) (v : Value) (l : List α) : Prop :=
  ∃ A c, v = .slice A l.length c ∧ l.length ≤ c ∧ c ≤ maxLen ∧
    (0 < l.length → ∃ b off, A = some ⟨b, off, none⟩ ∧ b < w.heap.size ∧ ∀ i p, l[i]? = some p → ∀ j u, (enc p)[j]? = some u → w.cell? ⟨b, off + i * size + j, none⟩ = some u)
section
variable {α : Type} {enc : α → List Value} {size : Nat} {w w' : World} {v : Value} {l : List α}
theorem Sl.keep (h : Sl enc size w v l) (hs : w.heap.size ≤ w'.heap.size) (hk : ∀ b o, b < w.heap.size → w'.cell? ⟨b, o, none⟩ = w.cell? ⟨b, o, none⟩) : Sl enc size w' v l := by
  obtain ⟨A, c, rfl, h1, h2, h3⟩ := h
  refine ⟨A, c, rfl, h1, h2, fun hl => ?_⟩
  obtain ⟨b, off, rfl, hb, hc⟩ := h3 hl
  exact ⟨b, off, rfl, by omega, fun i p hp j u hu => (hk _ _ hb).trans (hc i p hp j u hu)⟩
theorem Sl.below (h : Sl enc size w v l) (hb : Below w.heap.size w w') : Sl enc size w' v l := h.keep hb.size (bcell hb).1
theorem Sl.alloc (h : Sl enc size w v l) (o : Obj) : Sl enc size (w.alloc o) v l := h.below ((Below.refl _ _).alloc (Nat.le_refl _) _)
theorem Sl.nil_ : Sl enc size w (.slice none 0 0) [] := ⟨none, 0, rfl, by simp, by simp [maxLen], by simp⟩
theorem Sl.len (h : Sl enc size w v l) : l.length ≤ maxLen := by obtain ⟨A, c, rfl, h1, h2, h3⟩ := h; omega
theorem flatMap_get {enc : α → List Value} {size : Nat} (hz : ∀ p, (enc p).length = size) : ∀ (l : List α) (i : Nat) (p : α), l[i]? = some p → ∀ j u, (enc p)[j]? = some u → (l.flatMap enc)[i * size + j]? = some u
  | [], i, p, h, _, _, _ => by simp at h
  | x :: l, 0, p, h, j, u, hu => by
    simp at h; subst h
    have hj : j < (enc x).length := (List.getElem?_eq_some_iff.1 hu).1
    rw [List.flatMap_cons, Nat.zero_mul, Nat.zero_add, List.getElem?_append_left hj, hu]
  | x :: l, i + 1, p, h, j, u, hu => by
    have e : (i + 1) * size + j = (enc x).length + (i * size + j) := by rw [hz, Nat.add_mul]; omega
    rw [List.flatMap_cons, e, List.getElem?_append_right (by omega)]
    simp only [Nat.add_sub_cancel_left]
    exact flatMap_get hz l i p (by simpa using h) j u hu
theorem flatMap_len {enc : α → List Value} {size : Nat} (hz : ∀ p, (enc p).length = size) (l : List α) : (l.flatMap enc).length = l.length * size := by
  induction l with
  | nil => simp
  | cons x l ih => simp [List.flatMap_cons, hz, ih, Nat.add_mul]; omega
/-- what is owned reads -/
theorem Sl.of_own {base : Nat} {e : TypeId} (hz : ∀ p, (enc p).length = size) (h : w.ownsRow base e size v l.length (l.flatMap enc)) : Sl enc size w v l := by
  rcases h.2 with ⟨rfl, hn⟩ | ⟨g, cap, cur, rfl, hb, hg, hnc, hcm, hcs, ht⟩
  · have : l = [] := List.eq_nil_of_length_eq_zero hn
    subst this
    exact Sl.nil_
  · refine ⟨_, cap, rfl, hnc, hcm, fun hl => ⟨g, 0, rfl, ?_, fun i p hp j u hu => ?_⟩⟩
    · rcases Nat.lt_or_ge g w.heap.size with hlt | hge
      · exact hlt
      · rw [Array.getElem?_eq_none hge] at hg; cases hg
    · have h1 := flatMap_get hz l i p hp j u hu
      have h2 := h.cells (g := g) rfl _ _ h1
      unfold Addr.add at h2
      by_cases h0 : i * size + j = 0
      · rw [if_pos h0] at h2; rw [show 0 + i * size + j = 0 by omega]; exact h2
      · rw [if_neg h0] at h2; simpa [Nat.add_assoc] using h2
end
theorem add_none (b off j : Nat) : (⟨b, off, none⟩ : Addr).add j = ⟨b, off + j, none⟩ := by
  unfold Addr.add; split
  · subst_vars; rfl
  · rfl
/-- a new block's cells -/
theorem row_new (w : World) (cs : List Value) (t : TypeId) : ∀ j u, cs[j]? = some u → (w.alloc (.cells cs.toArray t)).cell? ((⟨w.heap.size, 0, none⟩ : Addr).add j) = some u := by
  intro j u h
  rw [add_none, cell_of_row _ _ _ cs.toArray t (0, 0) (heap_alloc_new w _)]
  simpa using h
theorem row_at (w : World) (cs : List Value) (t : TypeId) {B : Nat} (hB : w.heap.size = B) : ∀ j u, cs[j]? = some u → (w.alloc (.cells cs.toArray t)).cell? ((⟨B, 0, none⟩ : Addr).add j) = some u := by subst hB; exact row_new w cs t
/-- a literal of one element owns its row -/
theorem own_new (w : World) (base : Nat) (cs : List Value) (t : TypeId) (size n : Nat) (hb : base ≤ w.heap.size) (hs : cs.length = n * size) (hn : n ≤ maxLen) :
    (w.alloc (.cells cs.toArray t)).ownsRow base t size (.slice (some ⟨w.heap.size, 0, none⟩) n n) n cs :=
  ⟨hs, .inr ⟨_, n, cs.toArray, rfl, hb, heap_alloc_new w _, Nat.le_refl _, hn, by simpa using hs, by simp [← hs]⟩⟩
theorem own_form {w : World} {base : Nat} {e : TypeId} {size n : Nat} {v : Value} {xs : List Value} (h : w.ownsRow base e size v n xs) : ∃ A c, v = .slice A n c ∧ n ≤ c ∧ c ≤ maxLen := by
  rcases h.2 with ⟨rfl, rfl⟩ | ⟨g, cap, cur, rfl, hb, hg, hnc, hcm, hcs, ht⟩
  · exact ⟨none, 0, rfl, Nat.le_refl _, by simp [maxLen]⟩
  · exact ⟨_, cap, rfl, hnc, hcm⟩
theorem own_base {w : World} {base b' : Nat} {e : TypeId} {size n : Nat} {v : Value} {xs : List Value} (h : w.ownsRow base e size v n xs) (hb : b' ≤ base) : w.ownsRow b' e size v n xs := by
  refine ⟨h.1, ?_⟩
  rcases h.2 with h0 | ⟨g, cap, cur, hv, hg, hr⟩
  · exact .inl h0
  · exact .inr ⟨g, cap, cur, hv, Nat.le_trans hb hg, hr⟩
theorem own_below {w w' : World} {base : Nat} {e : TypeId} {size n : Nat} {v : Value} {xs : List Value} (h : w.ownsRow base e size v n xs) (hb : Below w.heap.size w w') : w'.ownsRow base e size v n xs := by
  refine ⟨h.1, ?_⟩
  rcases h.2 with h0 | ⟨g, cap, cur, hv, hg, hh, hr⟩
  · exact .inl h0
  · refine .inr ⟨g, cap, cur, hv, hg, (hb.block g ?_).trans hh, hr⟩
    rcases Nat.lt_or_ge g w.heap.size with hlt | hge
    · exact hlt
    · rw [Array.getElem?_eq_none hge] at hh; cases hh
theorem grown_of_below {a w : World} (h : Below a.heap.size a w) (row : Option Nat) : a.grownBy w row := ⟨h.os, h.tape, h.output, h.size, fun i hi _ => h.block i hi⟩
theorem own_ge {w : World} {base : Nat} {e : TypeId} {size n : Nat} {v : Value} {xs : List Value} (h : w.ownsRow base e size v n xs) : ∀ k, v.ownBlock = some k → base ≤ k := fun k hk => (h.lt k hk).1
end Go.Proofs.YtdmbcjckgfjcaaaGreatDoor
/- append of a slice that came in, whatever it is, onto a row of the call's own. -/
namespace Go.Proofs.YtdmbcjckgfjcaaaGreatDoor
open Go.RowKit
section
variable {P : Program}
theorem run_append_none (w : World) (base : Nat) (t ty e : TypeId) (i : TypeInfo) (size : Nat) (ht : P.underlying t = some (.slice e)) (hi : P.info? e = some i)
    (v : Value) (n : Nat) (xs : List Value) (hown : w.ownsRow base e size v n xs) (c : Nat) : (Builtin.append_ #[t, t] ty #[v, .slice none 0 c]).run P w = .ok v w := by
  rcases hown.2 with ⟨rfl, rfl⟩ | ⟨g, cap, cur, rfl, _, _, hnc, _⟩
  · simp [Builtin.append_, run_underlying ht, sizeOf, typeInfo, hi, Builtin.lenOf, Builtin.firstCells]
  · simp [Builtin.append_, run_underlying ht, sizeOf, typeInfo, hi, Builtin.lenOf, Builtin.firstCells, hnc, storeCells]
/-- append(v, x...): v the call's own, x any slice that reads as l, nil or not -/
theorem run_append_sl {α : Type} {enc : α → List Value} (w : World) (base : Nat) (t ty e : TypeId) (i : TypeInfo) (z : Value) (size bytes : Nat) (ht : P.underlying t = some (.slice e)) (hi : P.info? e = some i) (hz : i.zero = some z)
    (hsize : i.size = size) (hby : i.bytes = bytes) (hzs : z.cells.size = size) (hsz : 0 < size)
    (v : Value) (n : Nat) (xs : List Value) (hown : w.ownsRow base e size v n xs) (x : Value) (l : List α) (hx : Sl enc size w x l) (henc : ∀ p, (enc p).length = size) (h1 : ∀ p, ∀ u ∈ enc p, u.oneCell' = true)
    (h63 : n + l.length ≤ maxLen) (hbytes : (n + l.length) * bytes ≤ 140737488355328) (hbase : base ≤ w.heap.size) :
    ∃ v' w', (Builtin.append_ #[t, t] ty #[v, x]).run P w = .ok v' w' ∧ w'.ownsRow base e size v' (n + l.length) (xs ++ l.flatMap enc) ∧ w.grownBy w' v.ownBlock := by
  obtain ⟨A, c, rfl, hc1, hc2, hc3⟩ := hx
  rcases A with _ | ad
  · have hl : l = [] := by
      rcases Nat.eq_zero_or_pos l.length with h0 | h0
      · exact List.eq_nil_of_length_eq_zero h0
      · obtain ⟨b, off, h, _⟩ := hc3 h0; cases h
    subst hl
    exact ⟨v, w, run_append_none w base t ty e i size ht hi v n xs hown c, by simpa using hown, World.grownBy.refl w _⟩
  · have hcells : ∀ j u, (l.flatMap enc)[j]? = some u → w.cell? (ad.add j) = some u := by
      intro j u hu
      have hlt : j < (l.flatMap enc).length := (List.getElem?_eq_some_iff.1 hu).1
      rw [flatMap_len henc] at hlt
      have h0 : 0 < l.length := by
        rcases Nat.eq_zero_or_pos l.length with h0 | h0
        · rw [h0] at hlt; simp at hlt
        · exact h0
      obtain ⟨b, off, h, _, hcl⟩ := hc3 h0
      injection h with h
      subst h
      have hq : j / size < l.length := by rw [Nat.div_lt_iff_lt_mul hsz]; exact hlt
      have hr : j % size < size := Nat.mod_lt _ hsz
      have hp : l[j / size]? = some l[j / size] := List.getElem?_eq_getElem hq
      have hu2 : (enc l[j / size])[j % size]? = some ((enc l[j / size])[j % size]'(by rw [henc]; exact hr)) := List.getElem?_eq_getElem _
      have h2 := flatMap_get henc l _ _ hp _ _ hu2
      have hj : j / size * size + j % size = j := by rw [Nat.mul_comm]; exact Nat.div_add_mod j size
      rw [hj, hu] at h2
      rw [add_none, h2, ← hcl _ _ hp _ _ hu2, Nat.add_assoc, hj]
    obtain ⟨v', w', hrun, h2, h3, _⟩ := run_append_own (P := P) w base t ty e i z size bytes ht hi hz hsize hby hzs hsz v n xs hown ad l.length c (l.flatMap enc) (flatMap_len henc l) hcells
      (fun u hu => by obtain ⟨p, _, hp⟩ := List.mem_flatMap.1 hu; exact h1 p u hp) h63 hbytes hbase
    exact ⟨v', w', hrun, h2, h3⟩
theorem wpList_append_sl {α : Type} {enc : α → List Value} (w : World) {ops : Array Oper} {rest : List Oper} {o : Oper} {a : Act} {Q : Exit → Act → World → Prop} (hgd : o.guard = none) (s y : Operand) (t : TypeId)
    (ho : o.op = .call { callee := .builtin .append, args := #[s, y], argTypes := #[t, t] })
    (base : Nat) (e : TypeId) (i : TypeInfo) (z : Value) (size bytes : Nat) (ht : P.underlying t = some (.slice e)) (hi : P.info? e = some i) (hz : i.zero = some z)
    (hsize : i.size = size) (hby : i.bytes = bytes) (hzs : z.cells.size = size) (hsz : 0 < size)
    (v : Value) (n : Nat) (xs : List Value) (hs : a.eval s = v) (hown : w.ownsRow base e size v n xs) (x : Value) (l : List α) (hy : a.eval y = x) (hx : Sl enc size w x l) (henc : ∀ p, (enc p).length = size) (h1 : ∀ p, ∀ u ∈ enc p, u.oneCell' = true)
    (h63 : n + l.length ≤ maxLen) (hbytes : (n + l.length) * bytes ≤ 140737488355328) (hbase : base ≤ w.heap.size)
    (h : ∀ v' w', w'.ownsRow base e size v' (n + l.length) (xs ++ l.flatMap enc) → Below base w w' → wpList P ops Q rest (a.put o.dst v') w') : wpList P ops Q (o :: rest) a w :=
  wpList_plain hgd fun _ hK => by
    obtain ⟨v', w', hrun, h2, h3⟩ := run_append_sl (P := P) w base t o.type e i z size bytes ht hi hz hsize hby hzs hsz v n xs hown x l hx henc h1 h63 hbytes hbase
    unfold Oper.wp execOp
    simp only [ho, resolve, invoke, builtin, Sem.run_bind, Sem.run_pure, Result.andThen_ok, List.map_toArray, List.map_cons, List.map_nil, hs, hy, hrun]
    exact hK _ _ (h v' w' h2 ((Below.refl _ _).grown h3 hbase (own_ge hown)))
end
section
variable {α : Type} {enc : α → List Value} {size : Nat} {w : World} {l : List α} {A : Option Addr} {n c j : Nat}
theorem sl_len (h : Sl enc size w (.slice A n c) l) : n = l.length := by
  obtain ⟨A', c', e, _⟩ := h; injection e
/-- l[:j] -/
theorem sl_take (h : Sl enc size w (.slice A n c) l) (hj : j ≤ n) : Sl enc size w (.slice A j c) (l.take j) := by
  have hn := sl_len h
  obtain ⟨A', c', e, h1, h2, h3⟩ := h
  injection e with e1 e2 e3
  subst e1; subst e3; subst hn
  have hl : (l.take j).length = j := by rw [List.length_take]; omega
  refine ⟨_, _, by rw [hl], by omega, h2, fun h0 => ?_⟩
  rw [hl] at h0
  obtain ⟨b, off, rfl, hb, hc⟩ := h3 (by omega)
  refine ⟨b, off, rfl, hb, fun i p hp k u hu => ?_⟩
  rw [List.getElem?_take] at hp
  split at hp
  · exact hc i p hp k u hu
  · cases hp
end
/-- append of new cells onto a row of the call's own, in a region that draws its order; what else is as it was -/
theorem step_append_own_g {P : Program} {ops : Array Oper} {o : Oper} {a : Act} {w : World} {K : Act → World → Prop} {Q : Exit → Act → World → Prop} {E : Prop} (hgd : o.guard = none) (s x : Operand) (t : TypeId)
    (ho : o.op = .call { callee := .builtin .append, args := #[s, x], argTypes := #[t, t] })
    (base : Nat) (e : TypeId) (i : TypeInfo) (z : Value) (size bytes : Nat) (ht : P.underlying t = some (.slice e)) (hi : P.info? e = some i) (hz : i.zero = some z)
    (hsize : i.size = size) (hby : i.bytes = bytes) (hzs : z.cells.size = size) (hsz : 0 < size)
    (v : Value) (n : Nat) (xs : List Value) (hs : a.eval s = v) (hown : w.ownsRow base e size v n xs)
    (ad : Addr) (m c : Nat) (news : List Value) (hx : a.eval x = .slice (some ad) m c) (hl : news.length = m * size) (hnews : ∀ j u, news[j]? = some u → w.cell? (ad.add j) = some u) (h1 : ∀ u ∈ news, u.oneCell' = true)
    (h63 : n + m ≤ maxLen) (hbytes : (n + m) * bytes ≤ 140737488355328) (hbase : base ≤ w.heap.size)
    (h : ∀ v' w', w'.ownsRow base e size v' (n + m) (xs ++ news) → w.grownBy w' v.ownBlock → K (a.put o.dst v') w') :
    if Region.wanted o (yielded ops a.tmps) = true then Oper.wp P o a w K Q else E := by
  have hw : Region.wanted o (yielded ops a.tmps) = true := by simp [Region.wanted, hgd]
  rw [if_pos hw]
  exact wp_append_own w s x t ho base e i z size bytes ht hi hz hsize hby hzs hsz v n xs hs hown ad m c news hx hl hnews h1 h63 hbytes hbase fun v' w' h2 h3 _ => h v' w' h2 h3
end Go.Proofs.YtdmbcjckgfjcaaaGreatDoor
/- Layer mem: what the chapter asks, as plain functions on lists of numbers. -/
namespace Go.Proofs.YtdmbcjckgfjcaaaGreatDoor
/-- a deed -/
structure Dd where
  k : Int
  t : Int
  a : Int
  b : Int
/-- numbers of 64 bits -/
def U (x : Int) : Prop := 0 ≤ x ∧ x ≤ 18446744073709551615
def AllU (l : List Int) : Prop := ∀ x ∈ l, U x
/-- a sum, modulo 2^64 -/
def addU (v a : Int) : Int := (v + a) % 18446744073709551616
def kindF (o : Dd) : Bool := decide (1 ≤ o.k ∧ o.k ≤ 4)
def placeF (m : List Int) (o : Dd) : Bool := decide (0 ≤ o.t ∧ o.t < (m.length : Int))
def atF (m : List Int) (o : Dd) : Bool := kindF o && placeF m o
def wasF (m : List Int) (o : Dd) : Int := m.getD o.t.toNat 0
def vF (m : List Int) (o : Dd) : Int := if atF m o then wasF m o else 0
def okF (m : List Int) (o : Dd) : Bool := atF m o && (o.k != 3 || wasF m o == o.a)
def newF (v : Int) (o : Dd) : Int := if o.k = 2 then o.a else if o.k = 3 then (if v = o.a then o.b else v) else if o.k = 4 then addU v o.a else v
def mF (m : List Int) (o : Dd) : List Int := if atF m o then m.set o.t.toNat (newF (wasF m o) o) else m
/-- all of a list, one behind another -/
def allM : List Int → List Dd → List Int
  | m, [] => m
  | m, o :: l => allM (mF m o) l
def allV : List Int → List Dd → List Int
  | _, [] => []
  | m, o :: l => vF m o :: allV (mF m o) l
def allNMe : List Int → List Dd → Nat
  | _, [] => 0
  | m, o :: l => (if okF m o then 1 else 0) + allNMe (mF m o) l
theorem mF_len (m : List Int) (o : Dd) : (mF m o).length = m.length := by unfold mF; split <;> simp
theorem allM_len : ∀ (l : List Dd) (m : List Int), (allM m l).length = m.length
  | [], _ => rfl
  | o :: l, m => by rw [allM, allM_len l, mF_len]
theorem allV_len : ∀ (l : List Dd) (m : List Int), (allV m l).length = l.length
  | [], _ => rfl
  | o :: l, m => by rw [allV, List.length_cons, allV_len l]; rfl
theorem allN_le : ∀ (l : List Dd) (m : List Int), allNMe m l ≤ l.length
  | [], _ => Nat.le_refl _
  | o :: l, m => by rw [allNMe, List.length_cons]; have := allN_le l (mF m o); split <;> omega
theorem allM_app : ∀ (a b : List Dd) (m : List Int), allM m (a ++ b) = allM (allM m a) b
  | [], _, _ => rfl
  | o :: a, b, m => by rw [List.cons_append, allM, allM, allM_app a b]
theorem allV_app : ∀ (a b : List Dd) (m : List Int), allV m (a ++ b) = allV m a ++ allV (allM m a) b
  | [], _, _ => rfl
  | o :: a, b, m => by rw [List.cons_append, allV, allV, allM, allV_app a b, List.cons_append]
theorem allN_app : ∀ (a b : List Dd) (m : List Int), allNMe m (a ++ b) = allNMe m a + allNMe (allM m a) b
  | [], _, _ => by simp [allNMe, allM]
  | o :: a, b, m => by rw [List.cons_append, allNMe, allNMe, allM, allN_app a b, Nat.add_assoc]
theorem allM_snoc (m : List Int) (l : List Dd) (o : Dd) : allM m (l ++ [o]) = mF (allM m l) o := by rw [allM_app]; rfl
theorem allV_snoc (m : List Int) (l : List Dd) (o : Dd) : allV m (l ++ [o]) = allV m l ++ [vF (allM m l) o] := by rw [allV_app]; rfl
theorem allN_snoc (m : List Int) (l : List Dd) (o : Dd) : allNMe m (l ++ [o]) = allNMe m l + (if okF (allM m l) o then 1 else 0) := by rw [allN_app]; rfl
theorem wasF_U {m : List Int} (h : AllU m) (o : Dd) : U (wasF m o) := by
  unfold wasF
  rw [List.getD_eq_getElem?_getD]
  cases e : m[o.t.toNat]? with
  | none => simp [U]
  | some x => exact h x (List.mem_of_getElem? e)
theorem vF_U {m : List Int} (h : AllU m) (o : Dd) : U (vF m o) := by
  unfold vF; split
  · exact wasF_U h o
  · simp [U]
theorem atF_iff {m : List Int} {o : Dd} : atF m o = true ↔ (1 ≤ o.k ∧ o.k ≤ 4) ∧ 0 ≤ o.t ∧ o.t < (m.length : Int) := by
  unfold atF kindF placeF; rw [Bool.and_eq_true, decide_eq_true_eq, decide_eq_true_eq]
theorem at_off {m : List Int} {o : Dd} (h : ¬ ((1 ≤ o.k ∧ o.k ≤ 4) ∧ 0 ≤ o.t ∧ o.t < (m.length : Int))) : vF m o = 0 ∧ okF m o = false ∧ mF m o = m := by
  have h0 : atF m o = false := by
    cases e : atF m o with
    | false => rfl
    | true => exact absurd (atF_iff.1 e) h
  unfold vF okF mF
  simp [h0]
theorem at_on {m : List Int} {o : Dd} (h : (1 ≤ o.k ∧ o.k ≤ 4) ∧ 0 ≤ o.t ∧ o.t < (m.length : Int)) : vF m o = wasF m o ∧ okF m o = (o.k != 3 || wasF m o == o.a) ∧ mF m o = m.set o.t.toNat (newF (wasF m o) o) := by
  have h0 : atF m o = true := atF_iff.2 h
  unfold vF okF mF
  simp [h0]
theorem was_get {m : List Int} {o : Dd} (h : o.t.toNat < m.length) : wasF m o = m[o.t.toNat] := by
  unfold wasF; rw [List.getD_eq_getElem?_getD, List.getElem?_eq_getElem h]; rfl
theorem set_self {m : List Int} {o : Dd} : m.set o.t.toNat (wasF m o) = m := by
  by_cases h : o.t.toNat < m.length
  · rw [was_get h]; exact List.set_getElem_self h
  · exact List.set_eq_of_length_le (by omega)
end Go.Proofs.YtdmbcjckgfjcaaaGreatDoor
/- Layer deque: a step, what is in the deque, as plain functions on lists of numbers. No program in this text. -/
namespace Go.Proofs.YtdmbcjckgfjcaaaGreatDoor
/-- a machine -/
structure Mc where
  kind : Int
  pc : Int
  base : Int
  cap : Int
  b : Int
  t : Int
  x : Int
  out : Int
def w64 (x : Int) : Int := x % 18446744073709551616
def s64 (x : Int) : Int := (x + 9223372036854775808) % 18446744073709551616 - 9223372036854775808
def loadF (m : List Int) (a : Int) : Int := vF m ⟨1, a, 0, 0⟩
def storeF (m : List Int) (a v : Int) : List Int := mF m ⟨2, a, v, 0⟩
def startF (kind base cap x : Int) : Mc := ⟨kind, 0, base, cap, 0, 0, x, 0⟩
/-- the owner has taken BOTTOM back, and the last one is still in -/
def extF (o : Mc) : Bool := decide (o.kind = 2 ∧ o.out = 0 ∧ (o.pc = 2 ∨ o.pc = 4 ∨ o.pc = 5 ∨ o.pc = 3 ∧ o.t = w64 (o.b - 1)))
def endF (m : List Int) (base : Int) (o : Mc) : Int := w64 (loadF m (s64 (base + 1)) + if extF o then 1 else 0)
/-- what is in the deque -/
def itemsF (m : List Int) (base size : Int) (o : Mc) : List Int :=
  let top := loadF m base
  let n := w64 (endF m base o - top)
  if s64 (endF m base o - top) ≤ 0 ∨ min (max size 1) 64 < n then []
  else (List.range n.toNat).map fun k => s64 (loadF m (s64 (base + 2 + w64 (top + (k : Nat)) % max size 1)))
def cellsF (n : Int) : List Int := 1 :: 1 :: List.replicate (min (max n 1) 64).toNat 0
theorem w64_small {x : Int} (h0 : 0 ≤ x) (h1 : x ≤ 18446744073709551615) : w64 x = x := by unfold w64; omega
theorem s64_small {x : Int} (h0 : -9223372036854775808 ≤ x) (h1 : x ≤ 9223372036854775807) : s64 x = x := by unfold s64; omega
end Go.Proofs.YtdmbcjckgfjcaaaGreatDoor
/- Layer chain: a step, lists, as plain functions on lists of numbers. No program in this text. -/
namespace Go.Proofs.YtdmbcjckgfjcaaaGreatDoor
/-- a machine -/
structure Cm where
  kind : Int
  pc : Int
  head : Int
  next : Int
  h : Int
  x : Int
  y : Int
  out : Int
def packF (v n : Int) : Int := v % 4294967296 * 4294967296 + n % 4294967296
def nodeF (h : Int) : Int := h % 4294967296
/-- one behind another -/
def layCells (m : List Int) (next : Int) : List Int → List Int
  | [] => m
  | [x] => storeF m (s64 (next + x)) 0
  | x :: y :: l => layCells (storeF m (s64 (next + x)) (w64 y)) next (y :: l)
def layFCh (m : List Int) (head next : Int) (l : List Int) : List Int := storeF (layCells m next l) head (packF 0 (l.headD 0))
/-- at most so many, from x on -/
def listFrom (m : List Int) (next : Int) : Nat → Int → List Int
  | 0, _ => []
  | k + 1, x => if x = 0 then [] else x :: listFrom m next k (s64 (loadF m (s64 (next + x))))
def listFCh (m : List Int) (head next most : Int) : List Int := listFrom m next (min (max most 0) 1000).toNat (nodeF (loadF m head))
theorem pack_node {v n : Int} (h0 : 0 ≤ n) (h1 : n < 4294967296) : nodeF (packF v n) = n := by unfold nodeF packF; omega
section
variable {m : List Int}
theorem load_nat (i : Nat) (h : i < m.length) : loadF m (i : Int) = m.getD i 0 := by
  unfold loadF
  rw [(at_on (by simp only; omega)).1, was_get (by simp only; omega), List.getD_eq_getElem?_getD, List.getElem?_eq_getElem h]
  simp
theorem store_nat (i : Nat) (v : Int) (h : i < m.length) : storeF m (i : Int) v = m.set i v := by
  unfold storeF
  rw [(at_on (by simp only; omega)).2.2]
  simp [newF]
theorem getD_set (i j : Nat) (v : Int) (h : i < m.length) : (m.set i v).getD j 0 = if j = i then v else m.getD j 0 := by
  rw [List.getD_eq_getElem?_getD, List.getD_eq_getElem?_getD]
  by_cases e : j = i
  · subst e; rw [List.getElem?_set_self h, if_pos rfl]; rfl
  · rw [List.getElem?_set_ne (fun h => e h.symm), if_neg e]
end
/-- from x on, through the cells behind nb: just these nodes, none above N -/
def Chained (m : List Int) (nb N : Nat) : Int → List Nat → Prop
  | p, [] => p = 0
  | p, x :: l => p = (x : Int) ∧ 1 ≤ x ∧ x ≤ N ∧ Chained m nb N (m.getD (nb + x) 0) l
/-- the first of it -/
def fstN (l : List Nat) : Nat := l.headD 0
section
variable {m : List Int} {nb N : Nat}
theorem chained_fst : ∀ {p : Int} {l : List Nat}, Chained m nb N p l → p = (fstN l : Nat)
  | _, [], h => h
  | _, _ :: _, h => h.1
theorem chained_le : ∀ {p : Int} {l : List Nat}, Chained m nb N p l → ∀ x ∈ l, 1 ≤ x ∧ x ≤ N
  | _, [], _, _, hx => by simp at hx
  | _, y :: l, h, x, hx => by
    rcases List.mem_cons.1 hx with rfl | hx
    · exact ⟨h.2.1, h.2.2.1⟩
    · exact chained_le h.2.2.2 x hx
/-- what is written elsewhere turns no list -/
theorem chained_set {i : Nat} {v : Int} (hi : i < m.length) : ∀ {p : Int} {l : List Nat}, Chained m nb N p l → (∀ x ∈ l, nb + x ≠ i) → Chained (m.set i v) nb N p l
  | _, [], h, _ => h
  | _, y :: l, h, hne => by
    refine ⟨h.1, h.2.1, h.2.2.1, ?_⟩
    rw [getD_set _ _ _ hi, if_neg (hne y (by simp))]
    exact chained_set hi h.2.2.2 fun x hx => hne x (by simp [hx])
theorem list_chained (hlen : nb + N < m.length) (hs : nb + N ≤ 1000000) : ∀ (k : Nat) {p : Int} {l : List Nat}, Chained m nb N p l → (∀ x ∈ l, (m.getD (nb + x) 0) ≤ 1000000) → listFrom m nb k p = (l.take k).map fun (x : Nat) => (x : Int)
  | 0, _, _, _, _ => by simp [listFrom]
  | k + 1, _, [], h, _ => by
    have h : _ = (0 : Int) := h
    simp [listFrom, h]
  | k + 1, _, x :: l, h, hv => by
    obtain ⟨rfl, h1, h2, h3⟩ := h
    have hp := chained_fst h3
    have e : s64 ((nb : Int) + (x : Nat)) = ((nb + x : Nat) : Int) := by rw [s64_small (by omega) (by omega)]; rfl
    have hle := hv x (by simp)
    rw [listFrom, if_neg (by omega), e, load_nat _ (by omega), s64_small (by omega) (by omega), list_chained hlen hs k h3 fun y hy => hv y (by simp [hy])]
    simp
end
end Go.Proofs.YtdmbcjckgfjcaaaGreatDoor
/- Layer pick: the functions on one pick: Right, isThere, read, write. -/
namespace Go.Proofs.YtdmbcjckgfjcaaaGreatDoor
open Go.RowKit
/-- is a pick right? -/
def right (p : Int × Int) : Bool := (p.1 == 0 && p.2 == 0) || ((p.1 == 1 || p.1 == 2) && decide (1 ≤ p.2) && decide (p.2 ≤ 16))
/-- is a pick of one of n workers, m mutators, or the detector? -/
def there (p : Int × Int) (n m : Int) : Bool := right p && (p.1 != 1 || decide (p.2 ≤ n)) && (p.1 != 2 || decide (p.2 ≤ m))
set_option maxRecDepth 100000 in
set_option maxHeartbeats 400000 in
theorem Right_anyPk (k n : Int) (w : World) :
    Calls Tryz.prog 180 #[.agg #[.int .i64 k, .int .i64 n]] w fun e w' => e = .returned (.bool (right (k, n))) ∧ Below w.heap.size w w' := by
  go_enter Tryz.func180, Tryz.ntmps180
  go_wp2
  all_goals go_ret
  all_goals refine ⟨ret_bool ?_, by go_grown⟩
  all_goals simp_all [right]
  all_goals omega
set_option maxRecDepth 100000 in
set_option maxHeartbeats 400000 in
theorem isThere_any (k n a b : Int) (w : World) :
    Calls Tryz.prog 169 #[.agg #[.int .i64 k, .int .i64 n], .int .i64 a, .int .i64 b] w fun e w' => e = .returned (.bool (there (k, n) a b)) ∧ Below w.heap.size w w' := by
  go_enter Tryz.func169, Tryz.ntmps169
  go_wp2_with (go_at_call 180; refine (Right_anyPk _ _ _).mono ?_; rintro e w' ⟨rfl, hb⟩; obtain ⟨hc, hf⟩ := bcell hb)
  all_goals go_ret
  all_goals refine ⟨ret_bool ?_, ?_⟩
  all_goals first | exact (((Below.refl _ _).alloc (Nat.le_refl _) _).trans (hb.mono (by simp))) | (clear hb hc hf; grind [there])
end Go.Proofs.YtdmbcjckgfjcaaaGreatDoor
/- Layer pick: Known. -/
namespace Go.Proofs.YtdmbcjckgfjcaaaGreatDoor
open Go.RowKit
abbrev PP := Int × Int
/-- a pick's cells -/
def pc (p : Int × Int) : List Value := [.int .i64 p.1, .int .i64 p.2]
theorem pc_len (p : Int × Int) : (pc p).length = 2 := rfl
abbrev Picks (w : World) (v : Value) (l : List (Int × Int)) : Prop := Sl pc 2 w v l
theorem picks_at {w : World} {A : Option Addr} {n c : Nat} {l : List (Int × Int)} (h : Picks w (.slice A n c) l) {k : Nat} (hk : k < l.length) :
    ∃ b off, A = some ⟨b, off, none⟩ ∧ b < w.heap.size ∧ w.cell? ⟨b, off + k * 2, none⟩ = some (.int .i64 (l[k]).1) ∧ w.cell? ⟨b, off + k * 2 + 1, none⟩ = some (.int .i64 (l[k]).2) := by
  obtain ⟨A', c', e, h1, h2, h3⟩ := h
  injection e with e1 e2 e3
  subst e1
  obtain ⟨b, off, rfl, hb, hc⟩ := h3 (by omega)
  have := hc k l[k] (List.getElem?_eq_getElem hk)
  exact ⟨b, off, rfl, hb, by simpa using this 0 _ rfl, by simpa using this 1 _ rfl⟩
set_option maxRecDepth 100000 in
set_option maxHeartbeats 1000000 in
theorem Known_any (v : Value) (l : List (Int × Int)) (n m : Int) (w : World) (hl : Picks w v l) :
    Calls Tryz.prog 149 #[v, .int .i64 n, .int .i64 m] w fun e w' => e = .returned (.bool (l.all fun p => there p n m)) ∧ Below w.heap.size w w' := by
  have hlen := hl.len
  have hl' := hl
  obtain ⟨A, c, rfl, h1, h2, -⟩ := hl'
  unfold maxLen at h2 hlen
  have HL := hide hl
  clear hl
  go_enter Tryz.func149, Tryz.ntmps149
  go_wp2
  go_loopw [11] (fun i wr => ∃ k : Nat, k ≤ l.length ∧ i = .int .i64 k ∧ Below w.heap.size w wr ∧ (l.take k).all (fun p => there p n m) = true) (fun i _ => l.length - (intOf i).toNat)
  case atStart => exact ⟨0, Nat.zero_le _, rfl, Below.refl _ _, by simp⟩
  case round =>
    obtain ⟨k, hk, rfl, hb, hall⟩ := hrel
    by_cases hlt : k < l.length
    · obtain ⟨b, off, rfl, hbl, c0, c1⟩ := picks_at (HL.out.below hb) hlt
      have hsn : (l.take (k + 1)).all (fun p => there p n m) = there (l[k].1, l[k].2) n m := by
        rw [List.take_succ_eq_append_getElem hlt, List.all_append, hall]; simp
      have HS := hide hsn
      clear hsn
      cases htb : there (l[k].1, l[k].2) n m
      · go_wp2_with (go_at_call 169; refine (isThere_any _ _ _ _ _).mono ?_; rintro e w' ⟨rfl, hb'⟩; rw [htb])
        go_ret
        refine ⟨ret_bool ?_, ?_⟩
        · rw [htb] at HS
          symm
          rw [← Bool.not_eq_true]
          intro hall'
          have h3 : (l.take (k + 1)).all (fun p => there p n m) = true := List.all_eq_true.2 fun x hx => List.all_eq_true.1 hall' x (List.mem_of_mem_take hx)
          rw [HS.out] at h3; cases h3
        · exact bcall1 hb hb'
      · go_wp2_with (go_at_call 169; refine (isThere_any _ _ _ _ _).mono ?_; rintro e w' ⟨rfl, hb'⟩; rw [htb])
        go_roundw
        case rel => exact ⟨k + 1, by omega, by go_num, bcall1 hb hb', by rw [HS.out, htb]⟩
        case measure => simp [intOf]; omega
    · go_wp2
      go_ret
      refine ⟨ret_bool ?_, hb⟩
      rw [List.take_of_length_le (by omega)] at hall
      exact hall.symm
end Go.Proofs.YtdmbcjckgfjcaaaGreatDoor
/- Layer ledger: what the chapter asks, as plain functions, and what follows. No program in this text. -/
namespace Go.Proofs.YtdmbcjckgfjcaaaGreatDoor
structure Lg where
  scanned : Int
  spent : Int
  pool : Int
  bal : List Int
def lNew (m : Int) : Lg := ⟨0, 0, 0, List.replicate (min (max m 0) 16).toNat 0⟩
def lSame (a b : Lg) : Bool := decide (a.scanned = b.scanned ∧ a.spent = b.spent ∧ a.pool = b.pool ∧ a.bal = b.bal)
end Go.Proofs.YtdmbcjckgfjcaaaGreatDoor
/- A struct of four values in a box: its block known whole. -/
namespace Go.Proofs.YtdmbcjckgfjcaaaGreatDoor
open Go.RowKit Go.Joins
/-- block B has these four -/
structure B4 (t : TypeId) (w : World) (B : Nat) (x y z u : Value) : Prop where
  blk : w.heap[B]? = some (.cells #[x, y, z, u] t)
section
variable {t : TypeId} {w w' : World} {B : Nat} {x y z u : Value}
theorem B4.lt (h : B4 t w B x y z u) : B < w.heap.size := (Array.getElem?_eq_some_iff.1 h.blk).1
theorem B4.below (h : B4 t w B x y z u) (hb : Below w.heap.size w w') : B4 t w' B x y z u := ⟨(hb.block B h.lt).trans h.blk⟩
theorem B4.all (h : B4 t w B x y z u) : w.cell? ⟨B, 0, none⟩ = some x ∧ w.cell? ⟨B, 1, none⟩ = some y ∧ w.cell? ⟨B, 2, none⟩ = some z ∧ w.cell? ⟨B, 3, none⟩ = some u :=
  ⟨cell_of_block h.blk 0, cell_of_block h.blk 1, cell_of_block h.blk 2, cell_of_block h.blk 3⟩
theorem B4.free (h : B4 t w B x y z u) : w.frozen? ⟨B, 0, none⟩ = false ∧ w.frozen? ⟨B, 1, none⟩ = false ∧ w.frozen? ⟨B, 2, none⟩ = false ∧ w.frozen? ⟨B, 3, none⟩ = false :=
  ⟨unfrozen_of_block h.blk 0, unfrozen_of_block h.blk 1, unfrozen_of_block h.blk 2, unfrozen_of_block h.blk 3⟩
theorem B4.other (h : B4 t w B x y z u) {g o : Nat} (v : Value) (hne : B ≠ g) : B4 t (w.setCell ⟨g, o, none⟩ v) B x y z u := ⟨(Below.heap_setCell w ⟨g, o, none⟩ v B hne).trans h.blk⟩
end
theorem b4_new (w : World) (x y z u : Value) (t : TypeId) : ∃ w1, w.alloc (.cells #[x, y, z, u] t) = w1 ∧ Below w.heap.size w w1 ∧ w1.heap.size = w.heap.size + 1 ∧ B4 t w1 w.heap.size x y z u :=
  ⟨_, rfl, (Below.refl _ _).alloc (Nat.le_refl _) _, by simp, ⟨heap_alloc_new w _⟩⟩
end Go.Proofs.YtdmbcjckgfjcaaaGreatDoor
/- Arrays by value that are whole blocks: loaded, stored, handed out. -/
namespace Go.Proofs.YtdmbcjckgfjcaaaGreatDoor
open Go.RowKit
section
variable {P : Program}
theorem wpList_load_row {ops : Array Oper} {rest : List Oper} {op : Oper} {a : Act} {w : World} {Q : Exit → Act → World → Prop} (hgd : op.guard = none) (ty : TypeId) (x : Operand) (ho : op.op = .load ty x)
    (b : Nat) (hx : a.eval x = .pointer (some ⟨b, 0, none⟩)) (cs : Array Value) (t : TypeId) (fr : Nat × Nat) (d : TypeDesc) (hg : w.heap[b]? = some (.cells cs t fr))
    (hu : P.underlying ty = some d) (hd : (match d with | .struct _ | .array _ _ => true | _ => false) = true) (hi : (P.info? ty).map (·.size) = some cs.size)
    (h : wpList P ops Q rest (a.put op.dst (.agg cs)) w) : wpList P ops Q (op :: rest) a w :=
  wpList_plain hgd fun _ hK => by
    unfold Oper.wp execOp
    simp only [ho, hx, Instr.loadAt, Instr.sureAddr, Sem.run_bind, Sem.run_pure, Result.andThen_ok, run_loadVar_row w b t ty cs fr d hg hu hd hi]
    exact hK _ _ h
theorem wpList_store_row {ops : Array Oper} {rest : List Oper} {op : Oper} {a : Act} {w : World} {Q : Exit → Act → World → Prop} (hgd : op.guard = none) (ty : TypeId) (x y : Operand) (ho : op.op = .store ty x y)
    (b : Nat) (hx : a.eval x = .pointer (some ⟨b, 0, none⟩)) (cells : Array Value) (hy : a.eval y = .agg cells) (old : Array Value) (t : TypeId) (hg : w.heap[b]? = some (.cells old t (0, 0)))
    (hi : (P.info? ty).map (·.size) = some cells.size) (hs : old.size = cells.size) (h1 : cells.all (·.oneCell') = true)
    (h : wpList P ops Q rest (a.put op.dst undef) (w.setRow b cells)) : wpList P ops Q (op :: rest) a w :=
  wpList_plain hgd fun _ hK => by
    unfold Oper.wp execOp
    simp only [ho, hx, hy, Instr.storeAt, Instr.sureAddr, Sem.run_bind, Sem.run_pure, Result.andThen_ok, run_storeVar_row w b t ty old cells hg hi hs h1]
    exact hK _ _ h
theorem results_row {fn : Func} {tmps : Array Value} {w : World} {s : Nat} {ty : TypeId} (hr : fn.results = #[.cell s ty]) (b : Nat) (hs : tmps.getD s undef = .pointer (some ⟨b, 0, none⟩)) (cs : Array Value) (t : TypeId) (fr : Nat × Nat) (d : TypeDesc)
    (hg : w.heap[b]? = some (.cells cs t fr)) (hu : P.underlying ty = some d) (hd : (match d with | .struct _ | .array _ _ => true | _ => false) = true) (hi : (P.info? ty).map (·.size) = some cs.size) : (results fn tmps).run P w = .ok (.agg cs) w := by
  have hl := run_loadVar_row (P := P) w b t ty cs fr d hg hu hd hi
  rw [Array.getD_eq_getD_getElem?] at hs
  simp [results, hr, hs, asAddr, hl]
end
theorem below_setRow {B : Nat} {a w : World} (h : Below B a w) {g : Nat} (hg : B ≤ g) (cs : Array Value) : Below B a (w.setRow g cs) :=
  h.trans ⟨rfl, rfl, rfl, by simp, fun k hk => setRow_other w g k cs (by omega)⟩
/-- two new blocks -/
theorem two_new (w : World) (y z : Array Value) (s t : TypeId) : ∃ w1, (w.alloc (.cells y s)).alloc (.cells z t) = w1 ∧ w1.heap[w.heap.size]? = some (.cells y s (0, 0)) ∧ w1.heap[w.heap.size + 1]? = some (.cells z t (0, 0)) ∧ Below w.heap.size w w1 ∧ w1.heap.size = w.heap.size + 2 := by
  have hs : (w.alloc (.cells y s)).heap.size = w.heap.size + 1 := by simp
  refine ⟨_, rfl, ?_, ?_, ((Below.refl _ _).alloc (Nat.le_refl _) _).alloc (by simp) _, by simp⟩
  · rw [Go.heap_alloc_old (h := by omega)]; exact heap_alloc_new w _
  · rw [← hs]; exact heap_alloc_new _ _
end Go.Proofs.YtdmbcjckgfjcaaaGreatDoor
/- Structs of many cells, anywhere in a row: loaded, stored; a row of the call's own with one element turned; append of zeros. -/
namespace Go.Proofs.YtdmbcjckgfjcaaaGreatDoor
open Go.RowKit
section
variable {P : Program}
theorem run_loadVar_seg (w : World) (b o : Nat) (ty : TypeId) (cs : List Value) (d : TypeDesc) (h : ∀ j v, cs[j]? = some v → w.cell? ⟨b, o + j, none⟩ = some v)
    (hu : P.underlying ty = some d) (hd : (match d with | .struct _ | .array _ _ => true | _ => false) = true) (hi : (P.info? ty).map (·.size) = some cs.length) : (loadVar ty ⟨b, o, none⟩).run P w = .ok (.agg cs.toArray) w := by
  have hl : (loadCells ⟨b, o, none⟩ cs.length).run P w = .ok cs.toArray w :=
    run_loadCells_list (P := P) w ⟨b, o, none⟩ cs (fun j v hv => by
      have hadd : (⟨b, o, none⟩ : Addr).add j = ⟨b, o + j, none⟩ := by unfold Addr.add; split <;> simp_all
      rw [hadd]; exact h j v hv)
  cases hq : P.info? ty with
  | none => simp [hq] at hi
  | some i =>
    have hs : i.size = cs.length := by simpa [hq] using hi
    have hagg : (isAgg ty).run P w = .ok true w := by
      unfold isAgg
      rw [Sem.run_bind, run_underlying hu w]
      cases d <;> simp_all
    simp [loadVar, Sem.run_bind, hagg, sizeOf, typeInfo, hq, hs, hl]
theorem wp_load_seg {op : Oper} {a : Act} {w : World} {K : Act → World → Prop} {Q : Exit → Act → World → Prop} (ty : TypeId) (x : Operand) (ho : op.op = .load ty x)
    (b o : Nat) (hx : a.eval x = .pointer (some ⟨b, o, none⟩)) (cs : List Value) (d : TypeDesc) (h : ∀ j v, cs[j]? = some v → w.cell? ⟨b, o + j, none⟩ = some v)
    (hu : P.underlying ty = some d) (hd : (match d with | .struct _ | .array _ _ => true | _ => false) = true) (hi : (P.info? ty).map (·.size) = some cs.length)
    (hK : K (a.put op.dst (.agg cs.toArray)) w) : op.wp P a w K Q := by
  unfold Oper.wp execOp
  simp only [ho, hx, Instr.loadAt, Instr.sureAddr, Sem.run_bind, Sem.run_pure, Result.andThen_ok, run_loadVar_seg w b o ty cs d h hu hd hi]
  exact hK
theorem wpList_load_seg {ops : Array Oper} {rest : List Oper} {op : Oper} {a : Act} {w : World} {Q : Exit → Act → World → Prop} (hgd : op.guard = none) (ty : TypeId) (x : Operand) (ho : op.op = .load ty x)
    (b o : Nat) (hx : a.eval x = .pointer (some ⟨b, o, none⟩)) (cs : List Value) (d : TypeDesc) (h : ∀ j v, cs[j]? = some v → w.cell? ⟨b, o + j, none⟩ = some v)
    (hu : P.underlying ty = some d) (hd : (match d with | .struct _ | .array _ _ => true | _ => false) = true) (hi : (P.info? ty).map (·.size) = some cs.length)
    (hK : wpList P ops Q rest (a.put op.dst (.agg cs.toArray)) w) : wpList P ops Q (op :: rest) a w :=
  wpList_plain hgd fun _ hK' => wp_load_seg ty x ho b o hx cs d h hu hd hi (hK' _ _ hK)
theorem run_storeVar_seg (w : World) (g o : Nat) (t ty : TypeId) (cur : Array Value) (cs : List Value) (hg : w.heap[g]? = some (.cells cur t (0, 0))) (hi : (P.info? ty).map (·.size) = some cs.length) (hfit : o + cs.length ≤ cur.size) (h1 : ∀ v ∈ cs, v.oneCell' = true) :
    (storeVar ty ⟨g, o, none⟩ (.agg cs.toArray)).run P w = .ok () (w.setRow g (cur.toList.take o ++ cs ++ cur.toList.drop (o + cs.length)).toArray) := by
  have hst := run_storeCells_at P g o t cs 0 cur w hg (by simpa using hfit) h1
  simp only [Nat.add_zero] at hst
  cases hq : P.info? ty with
  | none => simp [hq] at hi
  | some i =>
    have hs : i.size = cs.length := by simpa [hq] using hi
    simp [storeVar, sizeOf, typeInfo, hq, Value.cells, hs, hst]
end
theorem setRow_alloc (w : World) (z cs : Array Value) (t : TypeId) : (w.alloc (.cells z t)).setRow w.heap.size cs = w.alloc (.cells cs t) := by
  show ({ w with heap := (w.heap.push (.cells z t)).modify w.heap.size _ } : World) = { w with heap := w.heap.push (.cells cs t) }
  congr 1
  apply Array.ext
  · simp
  · intro i h1 h2
    simp only [Array.getElem_modify, Array.getElem_push]
    by_cases h : i < w.heap.size
    · simp [h, show ¬ w.heap.size = i by omega]
    · have : w.heap.size = i := by simp at h2; omega
      subst this; simp
section
variable {α : Type} {enc : α → List Value} {size base g n c : Nat} {e : TypeId} {w : World} {es : List α}
theorem flatMap_split (hz : ∀ p, (enc p).length = size) (i : Nat) (hi : i < es.length) (x : α) : (es.set i x).flatMap enc = (es.flatMap enc).take (i * size) ++ enc x ++ (es.flatMap enc).drop (i * size + size) := by
  have h1 : es.take i ++ x :: es.drop (i + 1) = es.set i x := by rw [List.set_eq_take_append_cons_drop, if_pos hi]
  have e1 : es.flatMap enc = (es.take i).flatMap enc ++ (es.drop i).flatMap enc := by rw [← List.flatMap_append, List.take_append_drop]
  have l1 : ((es.take i).flatMap enc).length = i * size := by rw [flatMap_len hz, List.length_take, Nat.min_eq_left (Nat.le_of_lt hi)]
  have e2 : (es.drop i).flatMap enc = enc es[i] ++ (es.drop (i + 1)).flatMap enc := by rw [List.drop_eq_getElem_cons hi, List.flatMap_cons]
  rw [← h1, List.flatMap_append, List.flatMap_cons, e1, e2, ← List.append_assoc]
  congr 1
  · rw [← l1, List.take_left]
  · rw [← List.append_assoc, show i * size + size = ((es.take i).flatMap enc ++ enc es[i]).length by rw [List.length_append, l1, hz], List.drop_left]
/-- a row of the call's own: element i turned -/
theorem own_seg (h : w.ownsRow base e size (.slice (some ⟨g, 0, none⟩) n c) n (es.flatMap enc)) (hz : ∀ p, (enc p).length = size) (i : Nat) (hi : i < es.length) (x : α) :
    ∃ cur, w.heap[g]? = some (.cells cur e (0, 0)) ∧ i * size + size ≤ cur.size ∧ ∀ cs, cs = enc x → (w.setRow g (cur.toList.take (i * size) ++ cs ++ cur.toList.drop (i * size + cs.length)).toArray).ownsRow base e size (.slice (some ⟨g, 0, none⟩) n c) n ((es.set i x).flatMap enc) ∧
      w.grownBy (w.setRow g (cur.toList.take (i * size) ++ cs ++ cur.toList.drop (i * size + cs.length)).toArray) (some g) := by
  have hn : es.length * size = n * size := by rw [← flatMap_len hz, h.1]
  have hle : i * size + size ≤ n * size := by rw [← hn, ← Nat.succ_mul]; exact Nat.mul_le_mul_right _ hi
  rcases h.2 with ⟨h', _⟩ | ⟨g', cap', cur, h', hb, hg, hnc, hcm, hcs, htake⟩
  · simp at h'
  · simp only [Value.slice.injEq, Option.some.injEq, Addr.mk.injEq, and_true, true_and] at h'
    obtain ⟨rfl, rfl⟩ := h'
    have hcap : n * size ≤ c * size := Nat.mul_le_mul_right _ hnc
    have hsz : cur.toList.length = c * size := by rw [Array.length_toList]; exact hcs
    refine ⟨cur, hg, by omega, ?_⟩
    rintro cs rfl
    have hx := hz x
    refine ⟨⟨by rw [flatMap_len hz, List.length_set]; exact hn, .inr ⟨g, c, _, rfl, hb, setRow_heap w g cur _ e _ hg, hnc, hcm, ?_, ?_⟩⟩, ⟨rfl, rfl, rfl, by simp, fun k _ hk => setRow_other w g k _ (fun e' => hk (by rw [e']))⟩⟩
    · simp only [List.size_toArray, List.length_append, List.length_take, List.length_drop, hsz, hx]; omega
    · rw [flatMap_split hz i hi x, ← htake, hx]
      apply List.ext_getElem?
      intro j
      simp only [List.getElem?_take, List.getElem?_append, List.length_append, List.length_take, List.getElem?_drop, hsz, hx]
      have a1 : min (i * size) (c * size) = i * size := by omega
      have a2 : min (i * size) (min (n * size) (c * size)) = i * size := by omega
      rw [a1, a2]
      by_cases hj : j < n * size
      · rw [if_pos hj]
        by_cases h1 : j < i * size
        · simp [h1, show j < i * size + size by omega, hj]
        · by_cases h2 : j < i * size + size
          · simp [h1, h2]
          · simp only [h1, h2, if_false]
            rw [if_pos (by omega)]
      · rw [if_neg hj]
        have h1 : ¬ j < i * size := by omega
        have h2 : ¬ j < i * size + size := by omega
        simp only [h1, h2, if_false]
        rw [if_neg (by omega)]
variable {P : Program}
theorem wp_store_elem {op : Oper} {a : Act} {K : Act → World → Prop} {Q : Exit → Act → World → Prop} (ty : TypeId) (x y : Operand) (ho : op.op = .store ty x y)
    (i : Nat) (o : Nat) (hx : a.eval x = .pointer (some ⟨g, o, none⟩)) (hoi : o = i * size) (p : α) (hy : a.eval y = .agg (enc p).toArray) (hin : (P.info? ty).map (·.size) = some size)
    (hz : ∀ p, (enc p).length = size) (h1 : ∀ u ∈ enc p, u.oneCell' = true) (hown : w.ownsRow base e size (.slice (some ⟨g, 0, none⟩) n c) n (es.flatMap enc)) (hi : i < es.length)
    (h : ∀ w', w'.ownsRow base e size (.slice (some ⟨g, 0, none⟩) n c) n ((es.set i p).flatMap enc) → w.grownBy w' (some g) → K (a.put op.dst undef) w') : op.wp P a w K Q := by
  subst hoi
  obtain ⟨cur, hg, hfit, hs⟩ := own_seg hown hz i hi p
  obtain ⟨h2, h3⟩ := hs _ rfl
  unfold Oper.wp execOp
  simp only [ho, hx, hy, Instr.storeAt, Instr.sureAddr, Sem.run_bind, Sem.run_pure, Result.andThen_ok, run_storeVar_seg w g (i * size) e ty cur (enc p) hg (by rw [hin, hz]) (by rw [hz]; exact hfit) h1]
  exact h _ h2 h3
theorem wpList_store_elem {ops : Array Oper} {rest : List Oper} {op : Oper} {a : Act} {Q : Exit → Act → World → Prop} (hgd : op.guard = none) (ty : TypeId) (x y : Operand) (ho : op.op = .store ty x y)
    (i : Nat) (o : Nat) (hx : a.eval x = .pointer (some ⟨g, o, none⟩)) (hoi : o = i * size) (p : α) (hy : a.eval y = .agg (enc p).toArray) (hin : (P.info? ty).map (·.size) = some size)
    (hz : ∀ p, (enc p).length = size) (h1 : ∀ u ∈ enc p, u.oneCell' = true) (hown : w.ownsRow base e size (.slice (some ⟨g, 0, none⟩) n c) n (es.flatMap enc)) (hi : i < es.length)
    (h : ∀ w', w'.ownsRow base e size (.slice (some ⟨g, 0, none⟩) n c) n ((es.set i p).flatMap enc) → w.grownBy w' (some g) → wpList P ops Q rest (a.put op.dst undef) w') : wpList P ops Q (op :: rest) a w :=
  wpList_plain hgd fun _ hK => wp_store_elem ty x y ho i o hx hoi p hy hin hz h1 hown hi fun w' h2 h3 => hK _ _ (h w' h2 h3)
/-- an element read off a slice -/
theorem sl_seg {i : Nat} {A : Option Addr} (h : Sl enc size w (.slice A n c) es) (hk : i < es.length) :
    ∃ b off, A = some ⟨b, off, none⟩ ∧ b < w.heap.size ∧ ∀ j v, (enc es[i])[j]? = some v → w.cell? ⟨b, off + i * size + j, none⟩ = some v := by
  obtain ⟨A', c', e, h1, h2, h3⟩ := h
  injection e with e1 e2 e3
  subst e1
  obtain ⟨b, off, rfl, hb, hc⟩ := h3 (by omega)
  exact ⟨b, off, rfl, hb, fun j v hv => hc i es[i] (List.getElem?_eq_getElem hk) j v hv⟩
end
section
variable {P : Program} (w : World)
theorem zeros_one (z : Value) (k : Nat) : (Builtin.zeroCells #[z] k) = (List.replicate k z).toArray := by
  apply Array.ext'
  apply List.ext_getElem?
  intro j
  by_cases hj : j < k
  · simp [Builtin.zeroCells, hj, Nat.mod_one]
  · simp [Builtin.zeroCells, hj]
/-- append(v, make([]T, m)...): zeros of one cell -/
theorem run_append_zeros (base : Nat) (t tx ty e : TypeId) (i : TypeInfo) (z : Value) (bytes : Nat) (ht : P.underlying t = some (.slice e)) (hx : P.underlying tx = some (.int .i64)) (hi : P.info? e = some i) (hz : i.zero = some z)
    (hsize : i.size = 1) (hby : i.bytes = bytes) (hzs : z.cells = #[z]) (hz1 : z.oneCell' = true)
    (v : Value) (n : Nat) (xs : List Value) (hown : w.ownsRow base e 1 v n xs) (m : Nat) (hm : 0 < m)
    (h63 : n + m ≤ maxLen) (hbytes : (n + m) * bytes ≤ 140737488355328) (hbase : base ≤ w.heap.size) :
    ∃ v' w', (Builtin.append_ #[t, tx] ty #[v, .int .i64 (m : Int)]).run P w = .ok v' w' ∧ w'.ownsRow base e 1 v' (n + m) (xs ++ List.replicate m z) ∧ w.grownBy w' v.ownBlock := by
  subst hby
  have hsmall : n + m ≤ 9223372036854775807 := by simp only [maxLen] at h63; omega
  have hw : IntKind.i64.wrap (m : Int) = m := by simp [IntKind.wrap, IntKind.bits, IntKind.signed]; omega
  have hm0 : ¬ ((m : Int) < 0) := by omega
  have hml : m * i.bytes ≤ (n + m) * i.bytes := Nat.mul_le_mul_right _ (Nat.le_add_left _ _)
  have hmb : ¬ (281474976710656 < (m : Int) * (i.bytes : Int)) := by
    rw [← Int.natCast_mul]; omega
  have hne : m ≠ 0 := by omega
  have hxl : xs.length = n := by have := hown.1; omega
  have hlen : (xs ++ List.replicate m z).length = n + m := by rw [List.length_append, List.length_replicate, hxl]
  have grown : ∀ (old : Nat) (row : Option Nat),
      (w.drew.alloc (.cells (xs.toArray ++ Builtin.zeroCells z.cells m ++ Builtin.zeroCells z.cells (grownCap w (n + m) old e - (n + m))) e)).ownsRow base e 1
        (.slice (some ⟨w.heap.size, 0, none⟩) (n + m) (grownCap w (n + m) old e)) (n + m) (xs ++ List.replicate m z) ∧
      w.grownBy (w.drew.alloc (.cells (xs.toArray ++ Builtin.zeroCells z.cells m ++ Builtin.zeroCells z.cells (grownCap w (n + m) old e - (n + m))) e)) row := by
    intro old row
    have hge := grownCap_ge w (n + m) old e
    have hcm : grownCap w (n + m) old e ≤ maxLen := grownCap_le_maxLen w (n + m) old e h63
    rw [hzs, zeros_one, zeros_one]
    refine ⟨⟨by rw [hlen, Nat.mul_one], .inr ⟨w.heap.size, _, _, rfl, hbase, heap_alloc_new w.drew _, hge, hcm, ?_, ?_⟩⟩, ⟨rfl, rfl, rfl, by simp, fun k hk _ => Go.heap_alloc_old (w := w.drew) (o := _) (h := hk)⟩⟩
    · simp only [Array.size_append, List.size_toArray, List.length_replicate, hxl]; omega
    · rw [Nat.mul_one, ← hlen]
      simp only [Array.toList_append]
      exact List.take_left
  rcases hown.2 with ⟨rfl, rfl⟩ | ⟨g, cap, cur, rfl, hbg, hg, hnc, hcm, hcs, htake⟩
  · have hx0 : xs = [] := List.eq_nil_of_length_eq_zero hxl
    subst hx0
    have hgr := grown 0 (Value.ownBlock (.slice none 0 0))
    have h63' : ¬ (9223372036854775807 < (m : Int)) := by omega
    have h48' : ¬ (281474976710656 < Builtin.nextslicecap m 0 * i.bytes) := by have := growslice_fits (need := m) (old := 0) (bytes := i.bytes) hm (by omega); omega
    simp only [Nat.zero_add, List.nil_append, Array.empty_append] at hgr ⊢
    refine ⟨_, _, ?_, hgr.1, hgr.2⟩
    simp [Builtin.append_, run_underlying ht, run_underlying hx, sizeOf, typeInfo, zeroValue, hi, hz, hsize, asInt, asIntOf, hw, hm0, hmb, hne, h63', h48', Question.forced, Builtin.firstCells, newRow, grownCap]
  · by_cases hroom : n + m ≤ cap
    · have hcs1 : cur.size = cap := by omega
      have hl : (List.replicate m z).length = m := List.length_replicate
      have hst := run_storeCells_at P g n e (List.replicate m z) 0 cur w hg (by rw [hl]; omega) (fun u hu => by rw [List.eq_of_mem_replicate hu]; exact hz1)
      simp only [Nat.add_zero] at hst
      have hz0 : (Builtin.zeroCells z.cells m).toList = List.replicate m z := by rw [hzs, zeros_one]
      refine ⟨.slice (some ⟨g, 0, none⟩) (n + m) cap, w.setRow g (cur.toList.take n ++ List.replicate m z ++ cur.toList.drop (n + (List.replicate m z).length)).toArray, ?_, ⟨by rw [hlen, Nat.mul_one], .inr ⟨g, cap, _, rfl, hbg, setRow_heap w g cur _ e _ hg, hroom, hcm, ?_, ?_⟩⟩, ⟨rfl, rfl, rfl, by simp, fun k _ hk => setRow_other w g k _ (fun e => hk (by simp [Value.ownBlock, e]))⟩⟩
      · simp [Builtin.append_, run_underlying ht, run_underlying hx, sizeOf, typeInfo, zeroValue, hi, hz, hsize, asInt, asIntOf, hw, hm0, hmb, hne, hroom, hz0, Addr.add_lit, hst]
      · simp only [List.size_toArray, List.length_append, List.length_take, List.length_drop, Array.length_toList, hl]; omega
      · rw [Nat.mul_one] at htake ⊢
        rw [htake, ← hlen]
        exact List.take_left
    · have holds : ∀ j u, xs[j]? = some u → w.drew.cell? ((⟨g, 0, none⟩ : Addr).add j) = some u := hown.cells (g := g) rfl
      have hfo := run_firstCells_some (P := P) w.drew i.size n ⟨g, 0, none⟩ n cap xs (by rw [hsize, Nat.mul_one]; exact hxl) holds
      rw [hsize] at hfo
      have h63' : ¬ (9223372036854775807 < ((n : Int) + (m : Int))) := by omega
      have h48' : ¬ (281474976710656 < Builtin.nextslicecap (n + m) cap * i.bytes) := by have := growslice_fits (need := n + m) (old := cap) (bytes := i.bytes) (by omega) hbytes; omega
      have hgr := grown cap (Value.ownBlock (.slice (some ⟨g, 0, none⟩) n cap))
      refine ⟨_, _, ?_, hgr.1, hgr.2⟩
      simp [Builtin.append_, run_underlying ht, run_underlying hx, sizeOf, typeInfo, zeroValue, hi, hz, hsize, asInt, asIntOf, hw, hm0, hmb, hne, hroom, h63', h48', Question.forced, hfo, newRow, grownCap]
theorem wp_append_zeros {op : Oper} {a : Act} {K : Act → World → Prop} {Q : Exit → Act → World → Prop} (s y : Operand) (t tx : TypeId)
    (ho : op.op = .call { callee := .builtin .append, args := #[s, y], argTypes := #[t, tx] })
    (base : Nat) (e : TypeId) (i : TypeInfo) (z : Value) (bytes : Nat) (ht : P.underlying t = some (.slice e)) (hx : P.underlying tx = some (.int .i64)) (hi : P.info? e = some i) (hz : i.zero = some z)
    (hsize : i.size = 1) (hby : i.bytes = bytes) (hzs : z.cells = #[z]) (hz1 : z.oneCell' = true)
    (v : Value) (n : Nat) (xs : List Value) (hs : a.eval s = v) (hown : w.ownsRow base e 1 v n xs) (m : Nat) (hy : a.eval y = .int .i64 (m : Int)) (hm : 0 < m)
    (h63 : n + m ≤ maxLen) (hbytes : (n + m) * bytes ≤ 140737488355328) (hbase : base ≤ w.heap.size)
    (h : ∀ v' w', w'.ownsRow base e 1 v' (n + m) (xs ++ List.replicate m z) → Below base w w' → K (a.put op.dst v') w') : op.wp P a w K Q := by
  obtain ⟨v', w', hr, h2, h3⟩ := run_append_zeros (P := P) w base t tx op.type e i z bytes ht hx hi hz hsize hby hzs hz1 v n xs hown m hm h63 hbytes hbase
  unfold Oper.wp execOp
  simp only [ho, resolve, invoke, builtin, Sem.run_bind, Sem.run_pure, Result.andThen_ok, List.map_toArray, List.map_cons, List.map_nil, hs, hy, hr]
  exact h v' w' h2 ((Below.refl _ _).grown h3 hbase (own_ge hown))
theorem wpList_append_zeros {ops : Array Oper} {rest : List Oper} {op : Oper} {a : Act} {Q : Exit → Act → World → Prop} (hgd : op.guard = none) (s y : Operand) (t tx : TypeId)
    (ho : op.op = .call { callee := .builtin .append, args := #[s, y], argTypes := #[t, tx] })
    (base : Nat) (e : TypeId) (i : TypeInfo) (z : Value) (bytes : Nat) (ht : P.underlying t = some (.slice e)) (hx : P.underlying tx = some (.int .i64)) (hi : P.info? e = some i) (hz : i.zero = some z)
    (hsize : i.size = 1) (hby : i.bytes = bytes) (hzs : z.cells = #[z]) (hz1 : z.oneCell' = true)
    (v : Value) (n : Nat) (xs : List Value) (hs : a.eval s = v) (hown : w.ownsRow base e 1 v n xs) (m : Nat) (hy : a.eval y = .int .i64 (m : Int)) (hm : 0 < m)
    (h63 : n + m ≤ maxLen) (hbytes : (n + m) * bytes ≤ 140737488355328) (hbase : base ≤ w.heap.size)
    (h : ∀ v' w', w'.ownsRow base e 1 v' (n + m) (xs ++ List.replicate m z) → Below base w w' → wpList P ops Q rest (a.put op.dst v') w') : wpList P ops Q (op :: rest) a w :=
  wpList_plain hgd fun _ hK => wp_append_zeros w s y t tx ho base e i z bytes ht hx hi hz hsize hby hzs hz1 v n xs hs hown m hy hm h63 hbytes hbase fun v' w' h2 h3 => hK _ _ (h v' w' h2 h3)
end
end Go.Proofs.YtdmbcjckgfjcaaaGreatDoor
/- A struct of two values in a box: its block known whole; what a store to it leaves alone. -/
namespace Go.Proofs.YtdmbcjckgfjcaaaGreatDoor
open Go.RowKit Go.Joins
/-- block B has these two -/
structure B2 (t : TypeId) (w : World) (B : Nat) (x y : Value) : Prop where
  blk : w.heap[B]? = some (.cells #[x, y] t)
theorem grown_set2 (w : World) (B i : Nat) (x : Value) : w.grownBy (w.setCell ⟨B, i, none⟩ x) (some B) :=
  ⟨rfl, rfl, rfl, by simp [World.setCell], fun k _ hk => Below.heap_setCell w ⟨B, i, none⟩ x k (by intro e; exact hk (by rw [e]))⟩
theorem grown_trans2 {w w1 w2 : World} {row : Option Nat} (h : w.grownBy w1 row) (k : w1.grownBy w2 row) : w.grownBy w2 row :=
  ⟨k.os.trans h.os, k.tape.trans h.tape, k.output.trans h.output, Nat.le_trans h.size k.size, fun i hi hr => (k.block i (Nat.lt_of_lt_of_le hi h.size) hr).trans (h.block i hi hr)⟩
theorem grown_refl2 (w : World) (row : Option Nat) : w.grownBy w row := ⟨rfl, rfl, rfl, Nat.le_refl _, fun _ _ _ => rfl⟩
theorem grown_bel2 {w w' : World} {B n : Nat} (h : w.grownBy w' (some B)) (hn : n ≤ B) (hs : n ≤ w.heap.size) : Below n w w' :=
  ⟨h.os, h.tape, h.output, h.size, fun k hk => h.block k (by omega) (by intro e; injection e with e; omega)⟩
theorem grown_drew2 {w w' : World} {row : Option Nat} (h : w.grownBy w' row) (n : Nat) : w.grownBy (w'.drewN n) row := ⟨h.os, h.tape, h.output, h.size, h.block⟩
theorem grown_from2 {w w' : World} {row : Option Nat} {n : Nat} (h : (w.drewN n).grownBy w' row) : w.grownBy w' row := ⟨h.os, h.tape, h.output, h.size, h.block⟩
section
variable {t : TypeId} {w w' : World} {B : Nat} {x y : Value}
theorem B2.lt (h : B2 t w B x y) : B < w.heap.size := (Array.getElem?_eq_some_iff.1 h.blk).1
theorem B2.below (h : B2 t w B x y) (hb : Below w.heap.size w w') : B2 t w' B x y := ⟨(hb.block B h.lt).trans h.blk⟩
theorem B2.all (h : B2 t w B x y) : w.cell? ⟨B, 0, none⟩ = some x ∧ w.cell? ⟨B, 1, none⟩ = some y := ⟨cell_of_block h.blk 0, cell_of_block h.blk 1⟩
theorem B2.free (h : B2 t w B x y) : w.frozen? ⟨B, 0, none⟩ = false ∧ w.frozen? ⟨B, 1, none⟩ = false := ⟨unfrozen_of_block h.blk 0, unfrozen_of_block h.blk 1⟩
theorem B2.drewN (h : B2 t w B x y) (n : Nat) : B2 t (w.drewN n) B x y := ⟨h.blk⟩
theorem B2.set1 (h : B2 t w B x y) (v : Value) : B2 t (w.setCell ⟨B, 1, none⟩ v) B x v := ⟨by rw [block_setCell h.blk v]; rfl⟩
end
theorem b2_new (w : World) (x y : Value) (t : TypeId) : ∃ w1, w.alloc (.cells #[x, y] t) = w1 ∧ Below w.heap.size w w1 ∧ w1.heap.size = w.heap.size + 1 ∧ B2 t w1 w.heap.size x y :=
  ⟨_, rfl, (Below.refl _ _).alloc (Nat.le_refl _) _, by simp, ⟨heap_alloc_new w _⟩⟩
end Go.Proofs.YtdmbcjckgfjcaaaGreatDoor
