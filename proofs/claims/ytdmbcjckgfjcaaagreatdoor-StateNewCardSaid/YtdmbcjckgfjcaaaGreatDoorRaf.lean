import Derived.Deep.Slices
import Derived.Deep.Fields
import Derived.Deep.CondSized
import Derived.JoinedCond
import Derived.SizedLaws
import Derived.Test.YtdmbcjckgfjcaaaGreatDoorTie
import Derived.Test.YtdmbcjckgfjcaaaGreatDoorCards
import Derived.HandedShaped
import Derived.LaidMore
import Derived.Lay
import Derived.SevenTiedAt
import Derived.Stop.LaidErr
import Derived.Stop.Joined
import Derived.Lib.LaidTab
import Derived.Deep.QuietTactic
import Derived.BigQuiet
import Derived.Test.YtdmbcjckgfjcaaaGreatDoorRab
import Derived.Test.YtdmbcjckgfjcaaaGreatDoorRaa
/- What every law's proof shares: slices that came in, read as lists; the row's last step. -/
namespace Go.Proofs.YtdmbcjckgfjcaaaGreatDoor
open Go.RowKit Go.WideShapes Go.ChangeShapes Go.ChangeAt Go.Deep
theorem list_of {α : Type} (Q : Nat → α → Prop) : ∀ n, (∀ i, i < n → ∃ x, Q i x) → ∃ l : List α, l.length = n ∧ ∀ i x, l[i]? = some x → Q i x
  | 0, _ => ⟨[], rfl, by simp⟩
  | n + 1, h => by
    obtain ⟨l, hl, hq⟩ := list_of Q n fun i hi => h i (by omega)
    obtain ⟨x, hx⟩ := h n (by omega)
    refine ⟨l ++ [x], by simp [hl], fun i y hy => ?_⟩
    by_cases hi : i < l.length
    · rw [List.getElem?_append_left hi] at hy; exact hq i y hy
    · rw [List.getElem?_append_right (by omega)] at hy
      have hlt : i - l.length < 1 := by have := (List.getElem?_eq_some_iff.1 hy).1; simpa using this
      obtain rfl : i = n := by omega
      have e0 : i - l.length = 0 := by omega
      rw [e0] at hy; simp at hy; subst hy; exact hx
section
variable {H : Type} {enc : TypeId × Value → H} {P : Program} {W W' : World}
theorem sl_of_trod {α : Type} {ce : α → List Value} {Q : α → Prop} {size base : Nat} {spare : Nat → Bool} {held : Bool} {t e : TypeId} {v : Value} {d : DataW H} {ps : List MemPlace} {r : Reach} {b0 : Nat}
    (ht : P.underlying t = some (.slice e)) (hC : P.cellsOf e = size) (hsz : 0 < size) (hce : ∀ p, (ce p).length = size)
    (hel : ∀ n cs x, DataW.trod enc P W base spare held n e cs = some x → ∃ p : α, cs = ce p ∧ Q p) (ok : Value.okWide P W r b0 t v) (h : DataW.Trod enc P W base spare held t v d ps) :
    ∃ l : List α, Sl ce size W v l ∧ (∀ p ∈ l, Q p) ∧ ((d = .nil ∧ l = []) ∨ ∃ el rest, d = .slice el rest ∧ el.length = l.length) := by
  obtain ⟨a0, len0, cap0, rfl⟩ := okWide_slice ht ok
  obtain ⟨fuel, hf⟩ := h
  rcases open_slice ht (by simpa [Value.cells] using hf) with ⟨hcs, hx⟩ | ⟨a, len, cap, m, n, D, Pl, hcs, hb, hl, hm, hmm, hx, hi⟩
  · simp only [Prod.mk.injEq] at hx
    injection hcs with hcs
    rw [hcs]
    exact ⟨[], Sl.nil_, by simp, .inl ⟨hx.1, rfl⟩⟩
  · injection hcs with hcs
    rw [hcs]
    have hlm : len ≤ m := by rw [hmm]; split <;> omega
    simp only [Prod.mk.injEq] at hx
    have hex : ∀ i, i < len → ∃ p : α, Q p ∧ ∀ j u, (ce p)[j]? = some u → W.cell? (a.add (i * size + j)) = some u := fun i hil => by
      obtain ⟨cs', hc, ht'⟩ := hi i (by omega)
      obtain ⟨p, rfl, hq⟩ := hel n cs' _ ht'
      rw [hC] at hc
      obtain ⟨_, hcl, hat⟩ := World.cells?_some hc
      refine ⟨p, hq, fun j u hu => ?_⟩
      have hj : j < size := by have := (List.getElem?_eq_some_iff.1 hu).1; rw [hce] at this; exact this
      rw [← add_add, hat j hj, hu]
    obtain ⟨l, hll, hlq⟩ := list_of _ len hex
    subst hll
    refine ⟨l, ⟨_, cap, rfl, hl, hm, fun h0 => ?_⟩, fun p hp => ?_, .inr ⟨_, _, hx.1, by simp⟩⟩
    · have h00 := (hlq 0 l[0] (List.getElem?_eq_getElem h0)).2 0 ((ce l[0])[0]'(by rw [hce]; exact hsz)) (List.getElem?_eq_getElem _)
      rw [Nat.zero_mul, Nat.add_zero] at h00
      obtain ⟨b, off, spot⟩ := a
      have hsp : spot = none := by
        cases spot with
        | none => rfl
        | some s =>
          exfalso
          simp only [Addr.add, if_true, World.cell?] at h00
          split at h00 <;> simp at h00
      subst hsp
      refine ⟨b, off, rfl, ?_, fun i p hp j u hu => ?_⟩
      · have := World.block_lt_of_cell? W _ h00
        rw [add_none] at this; exact this
      · have := (hlq i p hp).2 j u hu
        rw [add_none] at this
        rw [Nat.add_assoc]; exact this
    · obtain ⟨i, hi⟩ := List.getElem?_of_mem hp
      exact (hlq i p hi).1
theorem trodAll_stays (hl : laidOutB P = true) (hb : Below W.heap.size W W') {sp : Nat → Bool} : ∀ {ts : List TypeId} {vs : List Value} {ds : List (DataW H)} {ps : List MemPlace}, (ts.all fun t => P.readableRec t && decide (t < P.types.size)) = true →
    DataW.TrodAll enc P W 0 (fun _ => true) true ts vs ds ps → (∀ x ∈ ps, x.block < W.heap.size) → (∀ x ∈ ps, sp x.block = true) → DataW.TrodAll enc P W' 0 sp true ts vs ds ps
  | [], _, _, _, _, h, _, _ => by obtain ⟨rfl, rfl, rfl⟩ := trodAll_nil h; exact trodAll_mk0
  | t :: ts, _, _, _, hr, h, hlt, hsp => by
    obtain ⟨v, vs', d, ds', p, q, rfl, rfl, rfl, h0, h1⟩ := trodAll_cons h
    simp only [List.all_cons, Bool.and_eq_true, decide_eq_true_eq] at hr
    exact trodAll_cons_mk (WideElems.Trod_stays hl hr.1.1 hr.1.2 h0 (fun x hx => hb.same (hlt x (List.mem_append_left _ hx))) (fun x hx => hsp x (List.mem_append_left _ hx)))
      (trodAll_stays hl hb (by simpa using hr.2) h1 (fun x hx => hlt x (List.mem_append_right _ hx)) (fun x hx => hsp x (List.mem_append_right _ hx)))
/-- A LAW's LAST STEP: it answered true, and below the heap's old end nothing turned. -/
theorem law_post {f : Func} {s : ChangeSpec} {args : Array Value} {ds gs : List (DataW H)} {before : List MemPlace} {tb : TypeId} (hl : laidOutB P = true) (hr : (f.params.toList.all fun t => P.readableRec t && decide (t < P.types.size)) = true)
    (hrt : f.resultTypes = #[tb]) (htb : P.underlying tb = some .bool) (hv : s.vars = []) (hspec : (s.fn H (ds ++ gs)).results = [.lit (.bool true)] ∧ (s.fn H (ds ++ gs)).args = ds ∧ (s.fn H (ds ++ gs)).vars = [])
    (hW : DataW.Whole enc P f.params.toList s.vars false W args.toList ds gs before) (hb : Below W.heap.size W W') :
    s.post enc P f false true false false W args (.bool true) W' := by
  have hlt : ∀ x ∈ before, x.block < W.heap.size := fun x hx => hW.lt x hx
  obtain ⟨p, q, hA, hV, rfl, hz, hn⟩ := hW
  rw [hv] at hV
  obtain ⟨rfl, rfl⟩ := trodVars_none hV
  simp only [List.append_nil] at *
  refine ⟨ds, [], p, [], p, [], ⟨p, [], hA, by rw [hv]; exact hV, by simp, hz, hn⟩, ?_, ?_, ?_, World.keptBut_mono (fun x hx => ⟨hx, .inr (.inl hx)⟩) (hb.frame (· ∈ p)), fun h => by cases h⟩
  · simp only [List.append_nil]
    rw [hspec.1, hrt]
    exact trodAll_cons_mk (shut_bool htb _) trodAll_mk0
  · simp only [List.append_nil]
    rw [hspec.2.1]
    exact trodAll_stays hl hb hr hA hlt (fun x hx => by simpa using hlt x hx)
  · simp only [List.append_nil]
    rw [hspec.2.2, hv]
    rfl
end
theorem laidOutL : laidOutB Tryz.prog = true := by kernel_rfl
theorem ownL : ownKnob Tryz.prog.godebug = none := by kernel_rfl
section
variable {H : Type}
theorem slice_reach {α : Type} {P : Program} {ts : List TypeId} {ds : List (DataW H)} (hsz : (DataW.weightsEach P ts ds).all (· ≤ reachBytes) = true) (j : Nat) {t e : TypeId} {d : DataW H} {l : List α} {b : Nat} (ht : ts[j]? = some t) (hd : ds[j]? = some d) (hu : P.underlying t = some (.slice e)) (hb : P.bytesOf e = b)
    (h : (d = .nil ∧ l = []) ∨ ∃ el rest, d = .slice el rest ∧ el.length = l.length) : l.length * b ≤ 140737488351232 := by
  rcases h with ⟨rfl, rfl⟩ | ⟨el, rest, rfl, he⟩
  · simp
  · have h1 := sized_slice hsz ht hd hu
    rw [hb] at h1
    simp only [reachBytes] at h1
    have h2 : l.length * b ≤ (el.length + rest.length) * b := Nat.mul_le_mul_right b (by omega)
    omega
end
/-- bytes as cells -/
def bc (b : Int) : List Value := [.int .u8 b]
abbrev Bytes (w : World) (v : Value) (l : List Int) : Prop := Sl bc 1 w v l
set_option maxRecDepth 100000 in
theorem open_bytes {H : Type} {enc : TypeId × Value → H} {W : World} {base : Nat} {spare : Nat → Bool} {held : Bool} {v : Value} {d : DataW H} {ps : List MemPlace} {r : Reach} {b0 : Nat} (ok : Value.okWide Tryz.prog W r b0 31 v) (h : DataW.Trod enc Tryz.prog W base spare held 31 v d ps) :
    ∃ l : List Int, Bytes W v l ∧ (∀ p ∈ l, 0 ≤ p ∧ p ≤ 255) ∧ ((d = .nil ∧ l = []) ∨ ∃ el rest, d = .slice el rest ∧ el.length = l.length) :=
  sl_of_trod Tryz.underlying31 (by kernel_rfl) (by decide) (fun _ => rfl) (fun n cs x hx => by
    obtain ⟨a, ha, _, wa⟩ := DataW.trod_int Tryz.underlying5 hx
    exact ⟨a, ha, by simpa [Lit.wf, IntKind.min, IntKind.max, IntKind.signed, IntKind.bits] using wa⟩) ok h
end Go.Proofs.YtdmbcjckgfjcaaaGreatDoor
/- Slices of slices of ints that came in, read as lists of lists: whoever shares what. -/
namespace Go.Proofs.YtdmbcjckgfjcaaaGreatDoor
open Go.RowKit Go.WideShapes Go.ChangeShapes Go.ChangeAt Go.Deep
/-- ints as cells -/
def ic (o : Int) : List Value := [.int .i64 o]
abbrev Ints (w : World) (v : Value) (l : List Int) : Prop := Sl ic 1 w v l
theorem ic_len (o : Int) : (ic o).length = 1 := rfl
theorem ic_map (l : List Int) : l.map (Value.int .i64) = l.flatMap ic := by induction l with | nil => rfl | cons a l ih => rw [List.map_cons, ih]; rfl
theorem ints_at {w : World} {A : Option Addr} {n c k : Nat} {l : List Int} (h : Ints w (.slice A n c) l) (hk : k < l.length) :
    ∃ b off, A = some ⟨b, off, none⟩ ∧ b < w.heap.size ∧ w.cell? ⟨b, off + k, none⟩ = some (.int .i64 l[k]) := by
  obtain ⟨A', c', e, h1, h2, h3⟩ := h
  injection e with e1 e2 e3
  subst e1
  obtain ⟨b, off, rfl, hb, hc⟩ := h3 (by omega)
  refine ⟨b, off, rfl, hb, ?_⟩
  have := hc k l[k] (List.getElem?_eq_getElem hk) 0 (.int .i64 l[k]) rfl
  simpa using this
/-- one value, one cell -/
def one (v : Value) : List Value := [v]
theorem one_len (v : Value) : (one v).length = 1 := rfl
/-- the slice of slices v reads as the list of lists ls -/
def Grid (w : World) (v : Value) (ls : List (List Int)) : Prop :=
  ∃ vs : List Value, Sl one 1 w v vs ∧ vs.length = ls.length ∧ ∀ (i : Nat) (u : Value) (l : List Int), vs[i]? = some u → ls[i]? = some l → Ints w u l
section
variable {w w' : World} {v : Value} {ls : List (List Int)}
theorem Grid.below (h : Grid w v ls) (hb : Below w.heap.size w w') : Grid w' v ls := by
  obtain ⟨vs, h1, h2, h3⟩ := h
  exact ⟨vs, h1.below hb, h2, fun i u l hu hl => (h3 i u l hu hl).below hb⟩
theorem Grid.alloc (h : Grid w v ls) (o : Obj) : Grid (w.alloc o) v ls := h.below ((Below.refl _ _).alloc (Nat.le_refl _) _)
theorem Grid.form (h : Grid w v ls) : ∃ A c, v = .slice A ls.length c ∧ ls.length ≤ c ∧ c ≤ maxLen := by
  obtain ⟨vs, ⟨A, c, rfl, h1, h2, _⟩, hl, _⟩ := h
  exact ⟨A, c, by rw [hl], by omega, h2⟩
theorem Grid.nil_ : Grid w (.slice none 0 0) [] := ⟨[], Sl.nil_, rfl, by simp⟩
theorem grid_at {A : Option Addr} {n c k : Nat} (h : Grid w (.slice A n c) ls) (hk : k < ls.length) :
    ∃ b off u, A = some ⟨b, off, none⟩ ∧ b < w.heap.size ∧ w.cell? ⟨b, off + k, none⟩ = some u ∧ Ints w u ls[k] := by
  obtain ⟨vs, ⟨A', c', e, h1, h2, h3⟩, hl, hi⟩ := h
  injection e with e1 e2 e3
  subst e1
  obtain ⟨b, off, rfl, hb, hc⟩ := h3 (by omega)
  have hkv : k < vs.length := by omega
  refine ⟨b, off, vs[k], rfl, hb, ?_, hi k _ _ (List.getElem?_eq_getElem hkv) (List.getElem?_eq_getElem hk)⟩
  have := hc k vs[k] (List.getElem?_eq_getElem hkv) 0 vs[k] rfl
  simpa using this
end
end Go.Proofs.YtdmbcjckgfjcaaaGreatDoor
/- What every TIED law's proof shares: the wrap that hands on what is laid, the reach and the world's shape; a table's cells out of what is laid. -/
namespace Go.Proofs.YtdmbcjckgfjcaaaGreatDoor
open Go.RowKit Go.WideShapes Go.ChangeShapes Go.ChangeAt
section
variable {H : Type} {enc : TypeId × Value → H}
theorem handed_and_shaped {a : Assume} {C : Checked} {os : Os} {f : FuncId} {fn : Func} {s : ChangeSpec} {conds : List PathCond} {apart fresh handsOn again : Bool} {X : World → Array Value → Prop}
    (hX : ∀ (w w' : World) (args : Array Value), w.heap = w'.heap → X w args → X w' args)
    (own : ownKnob C.prog.godebug = none) (started : os.Started) (noInit : C.prog.inits.idxOf? f = none) (hfn : C.prog.funcs[f]? = some fn)
    (witness : ∃ (w : World) (tape : Tape) (i : Input), w.os = os ∧ (w.forCall tape i).Shaped C.prog ∧ i.vars = [] ∧ Input.okWide C.prog (w.forCall tape i) .any w.heap.size f i ∧
      ((s.pre enc C.prog fn conds apart (w.forCall tape i).memory i.args ∧ X (w.forCall tape i).memory i.args) ∧ sizedMet enc C.prog fn (OpenSpec.ofChange s) apart (w.forCall tape i).memory i.args) ∧ a.holds C.prog (lone (Frame.enter C.prog f i.args .normal) [] (w.forCall tape i)))
    (contract : ∀ (W : World) (base : Nat) (args : Array Value) (ds gs : List (DataW H)) (before : List MemPlace),
      (∀ (j : Nat) t v, fn.params[j]? = some t → args[j]? = some v → Value.okWide C.prog W .any base t v) →
      DataW.Whole enc C.prog fn.params.toList s.vars apart W args.toList ds gs before →
      (DataW.weightsEach C.prog (fn.params.toList ++ s.plain.varTypes C.prog) (ds ++ gs)).all (· ≤ reachBytes) = true → X W args → W.ShapedOpen C.prog →
      Calls C.prog f args W fun e W' => ∃ v, e = .returned v ∧ s.post enc C.prog fn apart fresh handsOn again W args v W') :
    ReturnsInHanded a C os f .any (fun w args => (s.pre enc C.prog fn conds apart w args ∧ X w args) ∧ sizedMet enc C.prog fn (OpenSpec.ofChange s) apart w args) (s.post enc C.prog fn apart fresh handsOn again) := by
  refine returnsInHanded_of_calls own started noInit witness ?_
  intro w tape i _ hsh _ hok hpre _
  obtain ⟨_, _, _, fn', hfn', _, _, _, _, hval⟩ := hok
  have e : fn' = fn := Option.some.inj (hfn'.symm.trans hfn)
  subst e
  obtain ⟨⟨⟨ds, gs, before, hw, hc⟩, hx⟩, hz⟩ := hpre
  have hw' := DataW.Whole.of_heap (w' := w.forCall tape i) (by rfl) hw
  refine (contract (w.forCall tape i) w.heap.size i.args ds gs before hval hw' (hz.weights hw) (hX _ _ _ (by rfl) hx) hsh).mono fun e W' ⟨v, he, hp⟩ => ?_
  subst he
  exact ChangeSpec.post_blind hp
end
end Go.Proofs.YtdmbcjckgfjcaaaGreatDoor
/- Layer heap: what is asked of a heap, nothing written. -/
namespace Go.Proofs.YtdmbcjckgfjcaaaGreatDoor
open Go.RowKit
abbrev hv (n : Int) (v : Value) : Value := .agg #[.int .i64 n, v]
theorem balHp (w : World) (o : Obj) : Below w.heap.size w (w.alloc o) := (Below.refl _ _).alloc (Nat.le_refl _) o
theorem hasObject_any (n : Int) (v : Value) (ls : Rws) (o : Int) (w : World) (h : Grid w v ls) :
    Calls Tryz.prog 177 #[hv n v, .int .i64 o] w fun e w' => e = .returned (.bool (hasO ls o)) ∧ Below w.heap.size w w' := by
  obtain ⟨A, c, rfl, h1, h2⟩ := h.form
  unfold maxLen at h2
  clear h
  unfold hasO
  by_cases h0 : 1 ≤ o
  · by_cases hl : o ≤ (ls.length : Int)
    · rw [decide_eq_true (show 1 ≤ o ∧ o ≤ (ls.length : Int) from ⟨h0, hl⟩)]
      go_enter Tryz.func177, Tryz.ntmps177
      go_wp2
      go_ret
      exact ⟨rfl, balHp _ _⟩
    · rw [decide_eq_false (show ¬ (1 ≤ o ∧ o ≤ (ls.length : Int)) from fun h => hl h.2)]
      go_enter Tryz.func177, Tryz.ntmps177
      go_wp2
      go_ret
      exact ⟨rfl, balHp _ _⟩
  · rw [decide_eq_false (show ¬ (1 ≤ o ∧ o ≤ (ls.length : Int)) from fun h => h0 h.1)]
    go_enter Tryz.func177, Tryz.ntmps177
    go_wp2
    go_ret
    exact ⟨rfl, balHp _ _⟩
/-- a boxed parameter, behind a call -/
theorem box2 {w w2 : World} {x y : Value} {t : TypeId} (hb : Below (w.alloc (.cells #[x, y] t)).heap.size (w.alloc (.cells #[x, y] t)) w2) :
    Below w.heap.size w w2 ∧ w.heap.size < w2.heap.size ∧ w2.cell? ⟨w.heap.size, 0, none⟩ = some x ∧ w2.cell? ⟨w.heap.size, 1, none⟩ = some y := by
  have h0 := row_new w [x, y] t 0 x rfl
  have h1 := row_new w [x, y] t 1 y rfl
  rw [add_none] at h0 h1
  have hs : w.heap.size + 1 ≤ w2.heap.size := by simpa using hb.size
  exact ⟨btr (balHp _ _) hb (by simp), by omega, ((bcell hb).1 _ _ (by simp)).trans h0, ((bcell hb).1 _ _ (by simp)).trans h1⟩
theorem mayHold_any (n : Int) (v : Value) (ls : Rws) (x : Int) (w : World) (h : Grid w v ls) :
    Calls Tryz.prog 167 #[hv n v, .int .i64 x] w fun e w' => e = .returned (.bool (mayF ls x)) ∧ Below w.heap.size w w' := by
  have HG := hide h
  obtain ⟨A, c, rfl, h1, h2⟩ := h.form
  unfold maxLen at h2
  clear h
  by_cases h0 : x = 0
  · subst h0
    have hS := hide (show mayF ls 0 = true from decide_eq_true ⟨by omega, by omega⟩)
    go_enter Tryz.func167, Tryz.ntmps167
    go_wp2
    go_ret
    exact ⟨ret_bool hS.out.symm, balHp _ _⟩
  · have e0 : (x == 0) = false := by rw [beq_eq_false_iff_ne]; exact h0
    have hS := hide (show hasO ls x = mayF ls x by unfold hasO mayF; congr 1; exact propext ⟨fun h => ⟨by omega, h.2⟩, fun h => ⟨by omega, h.2⟩⟩)
    clear h0
    go_enter Tryz.func167, Tryz.ntmps167
    go_wp2_with fail
    refine (hasObject_any _ _ ls _ _ (HG.out.alloc _)).mono ?_
    rintro e w2 ⟨rfl, hb2⟩
    rw [hS.out]
    obtain ⟨hB, hlt, c0, c1⟩ := box2 hb2
    clear hb2
    go_wp2
    go_ret
    exact ⟨rfl, hB⟩
end Go.Proofs.YtdmbcjckgfjcaaaGreatDoor
/- Layer heap: Right, Same. -/
namespace Go.Proofs.YtdmbcjckgfjcaaaGreatDoor
open Go.RowKit
/-- a boxed parameter, at once -/
theorem box1Hp (w : World) (x y : Value) (t : TypeId) : ∃ w1, w.alloc (.cells #[x, y] t) = w1 ∧ Below w.heap.size w w1 ∧ w.heap.size < w1.heap.size ∧ (∀ b, b < w.heap.size → b < w1.heap.size) ∧ w1.cell? ⟨w.heap.size, 0, none⟩ = some x ∧ w1.cell? ⟨w.heap.size, 1, none⟩ = some y := by
  obtain ⟨a, b, c, d⟩ := box2 (Below.refl (w.alloc (.cells #[x, y] t)).heap.size (w.alloc (.cells #[x, y] t)))
  exact ⟨_, rfl, a, b, fun _ h => by omega, c, d⟩
theorem right_false {n : Int} {ls : Rws} (h : ¬ (1 ≤ n ∧ n ≤ 4 ∧ ls.length ≤ 64)) : rightF n ls = false := by
  unfold rightF; rw [decide_eq_false h]; rfl
theorem all_snoc {α : Type} (p : α → Bool) (l : List α) (k : Nat) (h : k < l.length) : (l.take (k + 1)).all p = ((l.take k).all p && p l[k]) := by
  rw [List.take_succ_eq_append_getElem h, List.all_append]; simp
theorem all_false {α : Type} (p : α → Bool) (l : List α) (k : Nat) (h : k < l.length) (hp : p l[k] = false) : l.all p = false := by
  rw [List.all_eq_false]
  exact ⟨l[k], List.getElem_mem h, by simp [hp]⟩
theorem right_row_false {n : Int} {ls : Rws} (k : Nat) (h : k < ls.length) (hp : rowOk n ls.length ls[k] = false) : rightF n ls = false := by
  unfold rightF; rw [all_false _ _ k h hp, Bool.and_false]
set_option maxHeartbeats 2000000 in
theorem Right_anyHp (n : Int) (v : Value) (ls : Rws) (w : World) (h : Grid w v ls) :
    Calls Tryz.prog 145 #[hv n v] w fun e w' => e = .returned (.bool (rightF n ls)) ∧ Below w.heap.size w w' := by
  have HG := hide h
  obtain ⟨A, c, rfl, h1, h2⟩ := h.form
  unfold maxLen at h2
  clear h
  by_cases hA : 1 ≤ n ∧ n ≤ 4 ∧ ls.length ≤ 64
  · have hR := hide (show rightF n ls = ls.all (rowOk n ls.length) by unfold rightF; rw [decide_eq_true hA, Bool.true_and])
    obtain ⟨a1, a2, a3⟩ := hA
    obtain ⟨w1, ew, hB1, hlt1, hold, k0, k1⟩ := box1Hp w (.int .i64 n) (.slice A ls.length c) 24
    have HE := hide ew
    have HG1 := hide (HG.out.below hB1)
    clear ew
    go_enter Tryz.func145, Tryz.ntmps145
    go_wp2
    rw [HE.out]
    clear HE
    go_loopw [24] (fun i wr => ∃ k : Nat, k ≤ ls.length ∧ i = .int .i64 k ∧ Below w1.heap.size w1 wr ∧ Hid ((ls.take k).all (rowOk n ls.length) = true)) (fun i _ => ls.length - (Go.RowKit.intOf i).toNat)
    case atStart => exact ⟨0, Nat.zero_le _, rfl, Below.refl _ _, hide (by simp)⟩
    case round =>
      obtain ⟨k, hk, rfl, hb, HA⟩ := hrel
      have c0 := ((bcell hb).1 _ 0 hlt1).trans k0
      have c1 := ((bcell hb).1 _ 1 hlt1).trans k1
      by_cases hlt : k < ls.length
      · obtain ⟨b, off, u, rfl, hbw, hc, hr⟩ := grid_at (HG1.out.below hb) hlt
        have HR := hide hr
        obtain ⟨B, d, rfl, h3, h4, -⟩ := hr
        unfold maxLen at h4
        by_cases hn : ((ls[k]).length : Int) = n
        · have e1 : (((ls[k]).length : Int) != n) = false := by rw [bne_eq_false_iff_eq]; exact hn
          have hr' := HR.out
          obtain ⟨l, hl⟩ : ∃ l, ls[k] = l := ⟨_, rfl⟩
          have HL := hide hl
          rw [hl] at hr' hn h3 e1 hc
          have HN := hide hn
          obtain ⟨m, hm⟩ : ∃ m, l.length = m := ⟨_, rfl⟩
          have HM := hide hm
          rw [hm] at hr' h3 e1 hc hn
          clear hl hn hm HR
          go_wp2
          have HBr := hide hr'
          go_loopw [35] (fun i wi => ∃ j : Nat, j ≤ m ∧ i = .int .i64 j ∧ Below wr.heap.size wr wi ∧ Hid ((l.take j).all (fun v => decide (0 ≤ v ∧ v ≤ ls.length)) = true)) (fun i _ => m - (Go.RowKit.intOf i).toNat)
          case atStart => exact ⟨0, Nat.zero_le _, rfl, Below.refl _ _, hide (by simp)⟩
          case round =>
            obtain ⟨j, hj, rfl, hbi, HI⟩ := hrel
            have hsz := hb.size
            have hsi := hbi.size
            have d0 := ((bcell hbi).1 _ 0 (Nat.lt_of_lt_of_le hlt1 hsz)).trans c0
            have d1 := ((bcell hbi).1 _ 1 (Nat.lt_of_lt_of_le hlt1 hsz)).trans c1
            have hb2 := bcall hb hbi
            by_cases hlj : j < m
            · have hlj2 : j < l.length := by rw [HM.out]; exact hlj
              obtain ⟨b2, off2, rfl, hbw2, hc2⟩ := ints_at (HBr.out.below hbi) hlj2
              have hsn := all_snoc (fun v => decide (0 ≤ v ∧ v ≤ (ls.length : Int))) l j hlj2
              rw [HI.out, Bool.true_and] at hsn
              obtain ⟨x, hx⟩ : ∃ x, l[j] = x := ⟨_, rfl⟩
              rw [hx] at hc2 hsn
              have HX := hide hx
              have HS := hide hsn
              have hGi := hide (HG1.out.below hb2)
              clear hx hsn
              by_cases hm : mayF ls x = true
              · have HH := hide hm
                clear hm
                go_wp2_with fail
                (with_reducible refine (mayHold_any _ _ ls _ _ hGi.out).mono ?_)
                rintro e w5 ⟨rfl, hb5⟩
                rw [HH.out]
                go_wp2
                go_roundw
                case rel => exact ⟨j + 1, by omega, by go_num, bcall hbi hb5, hide (by rw [HS.out]; exact HH.out)⟩
                case measure => simp [Go.RowKit.intOf]; omega
              · have HH := hide (show mayF ls x = false by simpa using hm)
                clear hm
                go_wp2_with fail
                (with_reducible refine (mayHold_any _ _ ls _ _ hGi.out).mono ?_)
                rintro e w5 ⟨rfl, hb5⟩
                rw [HH.out]
                go_wp2
                go_ret
                refine ⟨ret_bool (Eq.symm (right_row_false k hlt ?_)), bcall hB1 (bcall hb2 hb5)⟩
                rw [HL.out]
                unfold rowOk
                rw [all_false _ l j hlj2 (by rw [HX.out]; exact HH.out), Bool.and_false]
            · go_wp2
              go_roundw
              case rel =>
                refine ⟨k + 1, by omega, by go_num, hb2, hide ?_⟩
                rw [all_snoc _ ls k hlt, HA.out, Bool.true_and, HL.out]
                unfold rowOk
                rw [Bool.and_eq_true]
                refine ⟨decide_eq_true HN.out, ?_⟩
                have := HI.out
                rwa [List.take_of_length_le (by have := HM.out; omega)] at this
              case measure => simp [Go.RowKit.intOf]; omega
        · have e1 : (((ls[k]).length : Int) != n) = true := by rw [bne_iff_ne]; exact hn
          have HF := hide (right_row_false (n := n) k hlt (by unfold rowOk; rw [decide_eq_false hn]; rfl))
          generalize (ls[k]).length = m at *
          clear hn
          go_wp2
          go_ret
          exact ⟨ret_bool HF.out.symm, bcall hB1 hb⟩
      · go_wp2
        go_ret
        refine ⟨ret_bool (Eq.symm ?_), bcall hB1 hb⟩
        rw [hR.out, ← HA.out, List.take_of_length_le (by omega)]
  · have hF := hide (right_false hA)
    obtain ⟨w1, ew, hB1, -⟩ := box1Hp w (.int .i64 n) (.slice A ls.length c) 24
    have HB := hide (show Below w.heap.size w (w.alloc (.cells #[.int .i64 n, .slice A ls.length c] 24)) from balHp _ _)
    clear ew hB1
    by_cases b1 : 1 ≤ n
    · by_cases b2 : n ≤ 4
      · have b3 : ¬ ((ls.length : Int) ≤ 64) := fun h => hA ⟨b1, b2, by omega⟩
        clear hA
        go_enter Tryz.func145, Tryz.ntmps145
        go_wp2
        go_ret
        exact ⟨ret_bool hF.out.symm, HB.out⟩
      · clear hA
        go_enter Tryz.func145, Tryz.ntmps145
        go_wp2
        go_ret
        exact ⟨ret_bool hF.out.symm, HB.out⟩
    · clear hA
      go_enter Tryz.func145, Tryz.ntmps145
      go_wp2
      go_ret
      exact ⟨ret_bool hF.out.symm, HB.out⟩
end Go.Proofs.YtdmbcjckgfjcaaaGreatDoor
/- Layer heap: Same, by slices.EqualFunc and slices.Equal. -/
namespace Go.Proofs.YtdmbcjckgfjcaaaGreatDoor
open Go.RowKit
set_option maxHeartbeats 2000000 in
theorem Equal_intsHp (va vb : Value) (a b : List Int) (w : World) (ha : Ints w va a) (hb : Ints w vb b) :
    Calls Tryz.prog 75 #[va, vb] w fun e w' => e = .returned (.bool (decide (a = b))) ∧ Below w.heap.size w w' := by
  have ha' := ha
  have hb' := hb
  obtain ⟨A, c, rfl, h1, h2, -⟩ := ha'
  obtain ⟨B, d, rfl, h3, h4, -⟩ := hb'
  unfold maxLen at h2 h4
  have HA := hide ha
  have HB := hide hb
  clear ha hb
  by_cases hn : a.length = b.length
  · have q : (((a.length : Int)) != ((b.length : Int))) = false := by rw [bne_eq_false_iff_eq]; omega
    have HN := hide hn
    clear hn
    go_enter Tryz.func75, Tryz.ntmps75
    go_wp2
    go_loopw [13] (fun i wr => ∃ k : Nat, k ≤ a.length ∧ i = .int .i64 k ∧ Below w.heap.size w wr ∧ Hid (a.take k = b.take k)) (fun i _ => a.length - (Go.RowKit.intOf i).toNat)
    case atStart => exact ⟨0, Nat.zero_le _, rfl, Below.refl _ _, hide (by simp)⟩
    case round =>
      obtain ⟨k, hk, rfl, hbw, HE⟩ := hrel
      by_cases hlt : k < a.length
      · have hlb : k < b.length := by have := HN.out; omega
        obtain ⟨b1, o1, rfl, -, c0⟩ := ints_at (HA.out.below hbw) hlt
        obtain ⟨b2, o2, rfl, -, c2⟩ := ints_at (HB.out.below hbw) hlb
        by_cases he : a[k] = b[k]
        · have e1 : (a[k] != b[k]) = false := by rw [bne_eq_false_iff_eq]; exact he
          have HE' := hide (show a.take (k + 1) = b.take (k + 1) by rw [List.take_succ_eq_append_getElem hlt, List.take_succ_eq_append_getElem hlb, HE.out, he])
          clear he
          generalize a[k] = x at *
          generalize b[k] = y at *
          go_wp2
          go_quiet (fail)
          go_wp2
          go_roundw
          case rel => exact ⟨k + 1, by omega, by go_num, bdrewN hbw _, HE'⟩
          case measure => simp [Go.RowKit.intOf]; omega
        · have e1 : (a[k] != b[k]) = true := by rw [bne_iff_ne]; exact he
          have HF := hide (show decide (a = b) = false by
            simp only [decide_eq_false_iff_not]
            intro h
            apply he
            simp [h])
          clear he
          generalize a[k] = x at *
          generalize b[k] = y at *
          go_wp2
          go_quiet (fail)
          go_wp2
          go_ret
          exact ⟨ret_bool HF.out.symm, bdrewN hbw _⟩
      · have HF := hide (show a = b by
          have h := HE.out
          have := HN.out
          rwa [List.take_of_length_le (by omega), List.take_of_length_le (by omega)] at h)
        go_wp2
        go_ret
        exact ⟨ret_bool (by rw [HF.out]; simp), hbw⟩
  · have q : (((a.length : Int)) != ((b.length : Int))) = true := by rw [bne_iff_ne]; omega
    have HN := hide (show decide (a = b) = false by simp; intro e; exact hn (by rw [e]))
    clear hn
    go_enter Tryz.func75, Tryz.ntmps75
    go_wp2
    go_ret
    exact ⟨ret_bool HN.out.symm, Below.refl _ _⟩
set_option maxHeartbeats 2000000 in
theorem EqualFunc_rows (va vb : Value) (a b : Rws) (w : World) (ha : Grid w va a) (hb : Grid w vb b) :
    Calls Tryz.prog 74 #[va, vb, .func (.func 75) #[] #[]] w fun e w' => e = .returned (.bool (decide (a = b))) ∧ Below w.heap.size w w' := by
  obtain ⟨A, c, rfl, h1, h2⟩ := ha.form
  obtain ⟨B, d, rfl, h3, h4⟩ := hb.form
  unfold maxLen at h2 h4
  have HA := hide ha
  have HB := hide hb
  clear ha hb
  by_cases hn : a.length = b.length
  · have q : (((a.length : Int)) != ((b.length : Int))) = false := by rw [bne_eq_false_iff_eq]; omega
    have HN := hide hn
    clear hn
    go_enter Tryz.func74, Tryz.ntmps74
    go_wp2
    go_loopw [17] (fun i wr => ∃ k : Nat, k ≤ a.length ∧ i = .int .i64 k ∧ Below w.heap.size w wr ∧ Hid (a.take k = b.take k)) (fun i _ => a.length - (Go.RowKit.intOf i).toNat)
    case atStart => exact ⟨0, Nat.zero_le _, rfl, Below.refl _ _, hide (by simp)⟩
    case round =>
      obtain ⟨k, hk, rfl, hbw, HE⟩ := hrel
      by_cases hlt : k < a.length
      · have hlb : k < b.length := by have := HN.out; omega
        obtain ⟨b1, o1, u1, rfl, -, c0, r1⟩ := grid_at (HA.out.below hbw) hlt
        obtain ⟨b2, o2, u2, rfl, -, c2, r2⟩ := grid_at (HB.out.below hbw) hlb
        have hT := hide (show a.take (k + 1) = a.take k ++ [a[k]] ∧ b.take (k + 1) = b.take k ++ [b[k]] from ⟨List.take_succ_eq_append_getElem hlt, List.take_succ_eq_append_getElem hlb⟩)
        have hG := hide (show a = b → a[k] = b[k] by intro h; simp [h])
        generalize a[k] = x at *
        generalize b[k] = y at *
        have R1 := hide r1
        have R2 := hide r2
        obtain ⟨A1, d1, rfl, -⟩ := r1
        obtain ⟨A2, d2, rfl, -⟩ := r2
        go_wp2_with fail
        (with_reducible refine (Equal_intsHp _ _ x y _ R1.out R2.out).mono ?_)
        rintro e w2 ⟨rfl, hb2⟩
        by_cases he : x = y
        · rw [decide_eq_true he]
          have HE' := hide (show a.take (k + 1) = b.take (k + 1) by rw [hT.out.1, hT.out.2, HE.out, he])
          clear he
          go_wp2
          go_roundw
          case rel => exact ⟨k + 1, by omega, by go_num, bcall hbw hb2, HE'⟩
          case measure => simp [Go.RowKit.intOf]; omega
        · rw [decide_eq_false he]
          have HF := hide (show decide (a = b) = false by
            simp only [decide_eq_false_iff_not]
            exact fun h => he (hG.out h))
          clear he
          go_wp2
          go_ret
          exact ⟨ret_bool HF.out.symm, bcall hbw hb2⟩
      · have HF := hide (show a = b by
          have h := HE.out
          have := HN.out
          rwa [List.take_of_length_le (by omega), List.take_of_length_le (by omega)] at h)
        go_wp2
        go_ret
        exact ⟨ret_bool (by rw [HF.out]; simp), hbw⟩
  · have q : (((a.length : Int)) != ((b.length : Int))) = true := by rw [bne_iff_ne]; omega
    have HN := hide (show decide (a = b) = false by simp; intro e; exact hn (by rw [e]))
    clear hn
    go_enter Tryz.func74, Tryz.ntmps74
    go_wp2
    go_ret
    exact ⟨ret_bool HN.out.symm, Below.refl _ _⟩
theorem Same_anyHp (n m : Int) (va vb : Value) (a b : Rws) (w : World) (ha : Grid w va a) (hb : Grid w vb b) :
    Calls Tryz.prog 72 #[hv n va, hv m vb] w fun e w' => e = .returned (.bool (sameF n a m b)) ∧ Below w.heap.size w w' := by
  obtain ⟨A, c, rfl, h1, h2⟩ := ha.form
  obtain ⟨B, d, rfl, h3, h4⟩ := hb.form
  unfold maxLen at h2 h4
  have HA := hide ha
  have HB := hide hb
  clear ha hb
  by_cases hn : n = m
  · have e0 : (n == m) = true := by rw [beq_iff_eq]; exact hn
    have HF := hide (show sameF n a m b = decide (a = b) by unfold sameF; rw [hn]; simp)
    clear hn
    go_enter Tryz.func72, Tryz.ntmps72
    go_wp2_with fail
    (with_reducible refine (EqualFunc_rows _ _ a b _ ((HA.out.alloc _).alloc _) ((HB.out.alloc _).alloc _)).mono ?_)
    rintro e w2 ⟨rfl, hb2⟩
    rw [← HF.out]
    go_wp2
    go_ret
    exact ⟨rfl, btr ((balHp _ _).alloc (by simp) _) hb2 (by simp)⟩
  · have e0 : (n == m) = false := by rw [beq_eq_false_iff_ne]; exact hn
    have HF := hide (show sameF n a m b = false by unfold sameF; rw [decide_eq_false]; exact fun h => hn h.1)
    clear hn
    go_enter Tryz.func72, Tryz.ntmps72
    go_wp2
    go_ret
    exact ⟨ret_bool HF.out.symm, (balHp _ _).alloc (by simp) _⟩
end Go.Proofs.YtdmbcjckgfjcaaaGreatDoor
/- The statements' own helpers: some, same. -/
namespace Go.Proofs.YtdmbcjckgfjcaaaGreatDoor
open Go.RowKit
theorem bytes_atPk {w : World} {A : Option Addr} {n c : Nat} {l : List Int} (h : Bytes w (.slice A n c) l) {k : Nat} (hk : k < l.length) :
    ∃ b off, A = some ⟨b, off, none⟩ ∧ b < w.heap.size ∧ w.cell? ⟨b, off + k, none⟩ = some (.int .u8 l[k]) := by
  obtain ⟨A', c', e, h1, h2, h3⟩ := h
  injection e with e1 e2 e3
  subst e1
  obtain ⟨b, off, rfl, hb, hc⟩ := h3 (by omega)
  have := hc k l[k] (List.getElem?_eq_getElem hk)
  exact ⟨b, off, rfl, hb, by simpa using this 0 _ rfl⟩
theorem fieldsPick : Tryz.prog.underlying 179 = some (.struct (Tryz.prog.fieldsOf 179)) := by kernel_rfl
theorem eqIn_pick (a b c d : Int) (w : World) : (Op.equalIn 10000 179 (.agg #[.int .i64 a, .int .i64 b]) (.agg #[.int .i64 c, .int .i64 d])).run Tryz.prog w = .ok (a == c && b == d) w := by
  rw [run_equalIn_agg w 9999 _ _ _ fieldsPick Tryz.stoodInHeld179]
  have hf : (Tryz.prog.fieldsOf 179).toList = [⟨ "Kind", 3, 0, false, "", "", 0⟩, ⟨ "N", 3, 1, false, "", "", 8⟩] := by kernel_rfl
  rw [hf]
  by_cases h : a = c <;> by_cases h' : b = d <;> simp [Op.eqFields, go_sem, h, h']
theorem neq_pick (a b c d : Int) (w : World) : (binOp .neq 179 (.agg #[.int .i64 a, .int .i64 b]) (.agg #[.int .i64 c, .int .i64 d])).run Tryz.prog w = .ok (.bool (!(a == c && b == d))) w := by
  rw [run_neq_struct, eqIn_pick]; rfl
end Go.Proofs.YtdmbcjckgfjcaaaGreatDoor
