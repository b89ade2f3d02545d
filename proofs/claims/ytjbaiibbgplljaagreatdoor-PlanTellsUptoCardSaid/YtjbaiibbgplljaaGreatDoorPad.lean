import Derived.Deep.Slices
import Derived.Deep.Fields
import Derived.Deep.CondSized
import Derived.JoinedCond
import Derived.SizedLaws
import Derived.BigQuiet
import Derived.Deep.RegionLaw
import Derived.Test.YtjbaiibbgplljaaGreatDoorPab
import Derived.Test.YtjbaiibbgplljaaGreatDoorPaa
set_option maxRecDepth 100000
set_option maxHeartbeats 40000000
namespace Go.Proofs.YtjbaiibbgplljaaGreatDoor
open Go.RowKit Go.WideShapes Go.ChangeShapes Go.ChangeAt Go.Deep
theorem list_of {α : Type} (Q : Nat → α → Prop) : ∀ n, (∀ i, i < n → ∃ x, Q i x) → ∃ l : List α, l.length = n ∧ ∀ i x, l[i]? = some x → Q i x
 | 0, _ => ⟨[], rfl, by simp⟩
 | n + 1, h => by
   obtain ⟨l, hl, hq⟩ := list_of Q n fun i hi => h i (by omega)
   obtain ⟨x, hx⟩ := h n (by omega); refine ⟨l ++ [x], by simp [hl], fun i y hy => ?_⟩; by_cases hi : i < l.length
   · rw [List.getElem?_append_left hi] at hy; exact hq i y hy
   · rw [List.getElem?_append_right (by omega)] at hy
     have hlt : i - l.length < 1 := by have := (List.getElem?_eq_some_iff.1 hy).1; simpa using this
     obtain rfl : i = n := by omega
     have e0 : i - l.length = 0 := by omega
     rw [e0] at hy; simp at hy; subst hy; exact hx
section
variable {H : Type} {enc : TypeId × Value → H} {P : Program} {W W' : World}
theorem sl_of_trod {α : Type} {ce : α → List Value} {Q : α → Prop} {size base : Nat} {spare : Nat → Bool} {held : Bool} {t e : TypeId} {v : Value} {d : DataW H} {ps : List MemPlace} {r : Reach} {b0 : Nat}
 (ht : P.underlying t = some (.slice e)) (hC : P.cellsOf e = size) (hsz : 0 < size) (hce : ∀ p, (ce p).length = size)
 (hel : ∀ n cs x, DataW.trod enc P W base spare held n e cs = some x → ∃ p : α, cs = ce p ∧ Q p) (ok : Value.okWide P W r b0 t v) (h : DataW.Trod enc P W base spare held t v d ps) :
 ∃ l : List α, Sl ce size W v l ∧ (∀ p ∈ l, Q p) ∧ ((d = .nil ∧ l = []) ∨ ∃ el rest, d = .slice el rest ∧ el.length = l.length) := by
 obtain ⟨a0, len0, cap0, rfl⟩ := okWide_slice ht ok; obtain ⟨fuel, hf⟩ := h; rcases open_slice ht (by simpa [Value.cells] using hf) with ⟨hcs, hx⟩ | ⟨a, len, cap, m, n, D, Pl, hcs, hb, hl, hm, hmm, hx, hi⟩
 · simp only [Prod.mk.injEq] at hx
   injection hcs with hcs; rw [hcs]; exact ⟨[], Sl.nil_, by simp, .inl ⟨hx.1, rfl⟩⟩
 · injection hcs with hcs
   rw [hcs]; have hlm : len ≤ m := by rw [hmm]; split <;> omega
   simp only [Prod.mk.injEq] at hx; have hex : ∀ i, i < len → ∃ p : α, Q p ∧ ∀ j u, (ce p)[j]? = some u → W.cell? (a.add (i * size + j)) = some u := fun i hil => by
    obtain ⟨cs', hc, ht'⟩ := hi i (by omega); obtain ⟨p, rfl, hq⟩ := hel n cs' _ ht'; rw [hC] at hc; obtain ⟨_, hcl, hat⟩ := World.cells?_some hc; refine ⟨p, hq, fun j u hu => ?_⟩; have hj : j < size := by have := (List.getElem?_eq_some_iff.1 hu).1; rw [hce] at this; exact this
    rw [← add_add, hat j hj, hu]
   obtain ⟨l, hll, hlq⟩ := list_of _ len hex; subst hll; refine ⟨l, ⟨_, cap, rfl, hl, hm, fun h0 => ?_⟩, fun p hp => ?_, .inr ⟨_, _, hx.1, by simp⟩⟩
   · have h00 := (hlq 0 l[0] (List.getElem?_eq_getElem h0)).2 0 ((ce l[0])[0]'(by rw [hce]; exact hsz)) (List.getElem?_eq_getElem _)
     rw [Nat.zero_mul, Nat.add_zero] at h00; obtain ⟨b, off, spot⟩ := a; have hsp : spot = none := by
      cases spot with
      | none => rfl
      | some s =>
        exfalso
        simp only [Addr.add, if_true, World.cell?] at h00; split at h00 <;> simp at h00
     subst hsp; refine ⟨b, off, rfl, ?_, fun i p hp j u hu => ?_⟩
     · have := World.block_lt_of_cell? W _ h00
       rw [add_none] at this; exact this
     · have := (hlq i p hp).2 j u hu
       rw [add_none] at this; rw [Nat.add_assoc]; exact this
   · obtain ⟨i, hi⟩ := List.getElem?_of_mem hp
     exact (hlq i p hi).1
theorem trodAll_stays (hl : laidOutB P = true) (hb : Below W.heap.size W W') {sp : Nat → Bool} : ∀ {ts : List TypeId} {vs : List Value} {ds : List (DataW H)} {ps : List MemPlace}, (ts.all fun t => P.readableRec t && decide (t < P.types.size)) = true →
 DataW.TrodAll enc P W 0 (fun _ => true) true ts vs ds ps → (∀ x ∈ ps, x.block < W.heap.size) → (∀ x ∈ ps, sp x.block = true) → DataW.TrodAll enc P W' 0 sp true ts vs ds ps
 | [], _, _, _, _, h, _, _ => by obtain ⟨rfl, rfl, rfl⟩ := trodAll_nil h; exact trodAll_mk0
 | t :: ts, _, _, _, hr, h, hlt, hsp => by
   obtain ⟨v, vs', d, ds', p, q, rfl, rfl, rfl, h0, h1⟩ := trodAll_cons h; simp only [List.all_cons, Bool.and_eq_true, decide_eq_true_eq] at hr; exact trodAll_cons_mk (WideElems.Trod_stays hl hr.1.1 hr.1.2 h0 (fun x hx => hb.same (hlt x (List.mem_append_left _ hx))) (fun x hx => hsp x (List.mem_append_left _ hx)))
    (trodAll_stays hl hb (by simpa using hr.2) h1 (fun x hx => hlt x (List.mem_append_right _ hx)) (fun x hx => hsp x (List.mem_append_right _ hx)))
theorem law_post {f : Func} {s : ChangeSpec} {args : Array Value} {ds gs : List (DataW H)} {before : List MemPlace} {tb : TypeId} (hl : laidOutB P = true) (hr : (f.params.toList.all fun t => P.readableRec t && decide (t < P.types.size)) = true)
 (hrt : f.resultTypes = #[tb]) (htb : P.underlying tb = some .bool) (hv : s.vars = []) (hspec : (s.fn H (ds ++ gs)).results = [.lit (.bool true)] ∧ (s.fn H (ds ++ gs)).args = ds ∧ (s.fn H (ds ++ gs)).vars = [])
 (hW : DataW.Whole enc P f.params.toList s.vars false W args.toList ds gs before) (hb : Below W.heap.size W W') :
 s.post enc P f false true false false W args (.bool true) W' := by
 have hlt : ∀ x ∈ before, x.block < W.heap.size := fun x hx => hW.lt x hx
 obtain ⟨p, q, hA, hV, rfl, hz, hn⟩ := hW; rw [hv] at hV; obtain ⟨rfl, rfl⟩ := trodVars_none hV; simp only [List.append_nil] at *; refine ⟨ds, [], p, [], p, [], ⟨p, [], hA, by rw [hv]; exact hV, by simp, hz, hn⟩, ?_, ?_, ?_, World.keptBut_mono (fun x hx => ⟨hx, .inr (.inl hx)⟩) (hb.frame (· ∈ p)), fun h => by cases h⟩
 · simp only [List.append_nil]
   rw [hspec.1, hrt]; exact trodAll_cons_mk (shut_bool htb _) trodAll_mk0
 · simp only [List.append_nil]
   rw [hspec.2.1]; exact trodAll_stays hl hb hr hA hlt (fun x hx => by simpa using hlt x hx)
 · simp only [List.append_nil]
   rw [hspec.2.2, hv]; rfl
end
theorem laidOutL : laidOutB Tryz.prog = true := by kernel_rfl
theorem ownL : ownKnob Tryz.prog.godebug = none := by kernel_rfl
section
variable {H : Type}
theorem bulk_pos (d : DataW H) : 1 ≤ Rows.uptoBulk d := by
 cases d with
 | lit l => cases l <;> simp [Rows.uptoBulk]
 | _ => simp [Rows.uptoBulk]
theorem bulk_mem {B : Nat} : ∀ {l : List (DataW H)}, Rows.uptoBulkAll l ≤ B → ∀ (j : Nat) {d : DataW H}, l[j]? = some d → Rows.uptoBulk d ≤ B
 | [], _, _, _, h => by simp at h
 | x :: l, hB, 0, d, h => by simp at h; subst h; simp only [Rows.uptoBulkAll] at hB; omega
 | x :: l, hB, j + 1, d, h => by
   simp only [Rows.uptoBulkAll] at hB; exact bulk_mem (l := l) (B := B) (by omega) j (by simpa using h)
theorem bulk_all_len : ∀ l : List (DataW H), l.length ≤ Rows.uptoBulkAll l
 | [] => by simp
 | x :: l => by have := bulk_all_len l; have := bulk_pos x; simp only [Rows.uptoBulkAll, List.length_cons]; omega
theorem slice_bulk {α : Type} {d : DataW H} {l : List α} (h : (d = .nil ∧ l = []) ∨ ∃ el rest, d = .slice el rest ∧ el.length = l.length) : l.length + 1 ≤ Rows.uptoBulk d := by
 rcases h with ⟨rfl, rfl⟩ | ⟨el, rest, rfl, he⟩
 · simp [Rows.uptoBulk]
 · have := bulk_all_len el
   simp only [Rows.uptoBulk]; omega
end
def bc (b : Int) : List Value := [.int .u8 b]
abbrev Bytes (w : World) (v : Value) (l : List Int) : Prop := Sl bc 1 w v l
theorem open_bytes {H : Type} {enc : TypeId × Value → H} {W : World} {base : Nat} {spare : Nat → Bool} {held : Bool} {v : Value} {d : DataW H} {ps : List MemPlace} {r : Reach} {b0 : Nat} (ok : Value.okWide Tryz.prog W r b0 31 v) (h : DataW.Trod enc Tryz.prog W base spare held 31 v d ps) :
 ∃ l : List Int, Bytes W v l ∧ (∀ p ∈ l, 0 ≤ p ∧ p ≤ 255) ∧ ((d = .nil ∧ l = []) ∨ ∃ el rest, d = .slice el rest ∧ el.length = l.length) :=
 sl_of_trod Tryz.underlying31 (by kernel_rfl) (by decide) (fun _ => rfl) (fun n cs x hx => by
  obtain ⟨a, ha, _, wa⟩ := DataW.trod_int Tryz.underlying5 hx; exact ⟨a, ha, by simpa [Lit.wf, IntKind.min, IntKind.max, IntKind.signed, IntKind.bits] using wa⟩) ok h
def ic (o : Int) : List Value := [.int .i64 o]
abbrev Ints (w : World) (v : Value) (l : List Int) : Prop := Sl ic 1 w v l
theorem ic_len (o : Int) : (ic o).length = 1 := rfl
theorem ic_map (l : List Int) : l.map (Value.int .i64) = l.flatMap ic := by induction l with | nil => rfl | cons a l ih => rw [List.map_cons, ih]; rfl
theorem ints_at {w : World} {A : Option Addr} {n c k : Nat} {l : List Int} (h : Ints w (.slice A n c) l) (hk : k < l.length) :
 ∃ b off, A = some ⟨b, off, none⟩ ∧ b < w.heap.size ∧ w.cell? ⟨b, off + k, none⟩ = some (.int .i64 l[k]) := by
 obtain ⟨A', c', e, h1, h2, h3⟩ := h; injection e with e1 e2 e3; subst e1; obtain ⟨b, off, rfl, hb, hc⟩ := h3 (by omega); refine ⟨b, off, rfl, hb, ?_⟩; have := hc k l[k] (List.getElem?_eq_getElem hk) 0 (.int .i64 l[k]) rfl; simpa using this
def one (v : Value) : List Value := [v]
theorem one_len (v : Value) : (one v).length = 1 := rfl
def Grid (w : World) (v : Value) (ls : List (List Int)) : Prop :=
 ∃ vs : List Value, Sl one 1 w v vs ∧ vs.length = ls.length ∧ ∀ (i : Nat) (u : Value) (l : List Int), vs[i]? = some u → ls[i]? = some l → Ints w u l
section
variable {w w' : World} {v : Value} {ls : List (List Int)}
theorem Grid.below (h : Grid w v ls) (hb : Below w.heap.size w w') : Grid w' v ls := by
 obtain ⟨vs, h1, h2, h3⟩ := h; exact ⟨vs, h1.below hb, h2, fun i u l hu hl => (h3 i u l hu hl).below hb⟩
theorem Grid.alloc (h : Grid w v ls) (o : Obj) : Grid (w.alloc o) v ls := h.below ((Below.refl _ _).alloc (Nat.le_refl _) _)
theorem Grid.form (h : Grid w v ls) : ∃ A c, v = .slice A ls.length c ∧ ls.length ≤ c ∧ c ≤ maxLen := by
 obtain ⟨vs, ⟨A, c, rfl, h1, h2, _⟩, hl, _⟩ := h; exact ⟨A, c, by rw [hl], by omega, h2⟩
theorem Grid.nil_ : Grid w (.slice none 0 0) [] := ⟨[], Sl.nil_, rfl, by simp⟩
theorem grid_at {A : Option Addr} {n c k : Nat} (h : Grid w (.slice A n c) ls) (hk : k < ls.length) :
 ∃ b off u, A = some ⟨b, off, none⟩ ∧ b < w.heap.size ∧ w.cell? ⟨b, off + k, none⟩ = some u ∧ Ints w u ls[k] := by
 obtain ⟨vs, ⟨A', c', e, h1, h2, h3⟩, hl, hi⟩ := h; injection e with e1 e2 e3; subst e1; obtain ⟨b, off, rfl, hb, hc⟩ := h3 (by omega); have hkv : k < vs.length := by omega
 refine ⟨b, off, vs[k], rfl, hb, ?_, hi k _ _ (List.getElem?_eq_getElem hkv) (List.getElem?_eq_getElem hk)⟩; have := hc k vs[k] (List.getElem?_eq_getElem hkv) 0 vs[k] rfl; simpa using this
end
section
variable {H : Type} {enc : TypeId × Value → H} {P : Program} {W : World}
theorem sl_of_trod1 {α : Type} {ce : α → List Value} {Q : α → DataW H → Prop} {size base fuel : Nat} {spare : Nat → Bool} {held : Bool} {t e : TypeId} {cs : List Value} {x : DataW H × List MemPlace}
 (ht : P.underlying t = some (.slice e)) (hC : P.cellsOf e = size) (hsz : 0 < size) (hce : ∀ p, (ce p).length = size)
 (hel : ∀ n cs x, DataW.trod enc P W base spare held n e cs = some x → ∃ p : α, cs = ce p ∧ Q p x.1) (h : DataW.trod enc P W base spare held fuel t cs = some x) :
 ∃ (v : Value) (l : List α), cs = [v] ∧ Sl ce size W v l ∧ ((x.1 = .nil ∧ l = []) ∨ ∃ el rest, x.1 = .slice el rest ∧ el.length = l.length ∧ ∀ (i : Nat) (p : α) (d : DataW H), l[i]? = some p → el[i]? = some d → Q p d) := by
 rcases open_slice ht h with ⟨hcs, hx⟩ | ⟨a, len, cap, m, n, D, Pl, hcs, hb, hl, hm, hmm, hx, hi⟩
 · exact ⟨_, [], hcs, Sl.nil_, .inl ⟨by rw [hx], rfl⟩⟩
 · have hlm : len ≤ m := by rw [hmm]; split <;> omega
   have hex : ∀ i, i < len → ∃ p : α, Q p (D i) ∧ ∀ j u, (ce p)[j]? = some u → W.cell? (a.add (i * size + j)) = some u := fun i hil => by
    obtain ⟨cs', hc, ht'⟩ := hi i (by omega); obtain ⟨p, rfl, hq⟩ := hel n cs' _ ht'; rw [hC] at hc; obtain ⟨_, hcl, hat⟩ := World.cells?_some hc; refine ⟨p, hq, fun j u hu => ?_⟩; have hj : j < size := by have := (List.getElem?_eq_some_iff.1 hu).1; rw [hce] at this; exact this
    rw [← add_add, hat j hj, hu]
   obtain ⟨l, hll, hlq⟩ := list_of _ len hex; subst hll; refine ⟨_, l, hcs, ⟨_, cap, rfl, hl, hm, fun h0 => ?_⟩, .inr ⟨_, _, by rw [hx], by simp, fun i p d hp hd => ?_⟩⟩
   · have h00 := (hlq 0 l[0] (List.getElem?_eq_getElem h0)).2 0 ((ce l[0])[0]'(by rw [hce]; exact hsz)) (List.getElem?_eq_getElem _)
     rw [Nat.zero_mul, Nat.add_zero] at h00; obtain ⟨b, off, spot⟩ := a; have hsp : spot = none := by
      cases spot with
      | none => rfl
      | some s =>
        exfalso
        simp only [Addr.add, if_true, World.cell?] at h00; split at h00 <;> simp at h00
     subst hsp; refine ⟨b, off, rfl, ?_, fun i p hp j u hu => ?_⟩
     · have := World.block_lt_of_cell? W _ h00
       rw [add_none] at this; exact this
     · have := (hlq i p hp).2 j u hu
       rw [add_none] at this; rw [Nat.add_assoc]; exact this
   · have hil : i < l.length := (List.getElem?_eq_some_iff.1 hp).1
     have : d = D i := by
      rw [List.getElem?_map, List.getElem?_range hil] at hd; exact (Option.some.inj hd).symm
     rw [this]; exact (hlq i p hp).1
def RowD (W : World) (u : Value) (l : List Int) (d : DataW H) : Prop :=
 Ints W u l ∧ (∀ o ∈ l, -9223372036854775808 ≤ o ∧ o ≤ 9223372036854775807) ∧ ((d = .nil ∧ l = []) ∨ ∃ el rest, d = .slice el rest ∧ el.length = l.length)
theorem open_row {q base fuel : Nat} {spare : Nat → Bool} {held : Bool} {e : TypeId} {cs : List Value} {x : DataW H × List MemPlace}
 (he : P.underlying e = some (.slice q)) (hq : P.underlying q = some (.int .i64)) (cq : P.cellsOf q = 1) (h : DataW.trod enc P W base spare held fuel e cs = some x) :
 ∃ (v : Value) (l : List Int), cs = [v] ∧ RowD W v l x.1 := by
 obtain ⟨u, l, rfl, hu, hd⟩ := sl_of_trod1 (α := Int) (ce := ic) (Q := fun o _ => -9223372036854775808 ≤ o ∧ o ≤ 9223372036854775807) he cq (by decide) (fun _ => rfl) (fun n cs x hx => by
  obtain ⟨a, ha, _, wa⟩ := DataW.trod_int hq hx; exact ⟨a, ha, by simpa [Lit.wf, IntKind.min, IntKind.max, IntKind.signed, IntKind.bits] using wa⟩) h
 refine ⟨u, l, rfl, hu, fun o ho => ?_, ?_⟩
 · obtain ⟨i, hi⟩ := List.getElem?_of_mem ho
   have hil : i < l.length := (List.getElem?_eq_some_iff.1 hi).1; rcases hd with ⟨_, rfl⟩ | ⟨el, rest, hx, hel, hq'⟩
   · simp at hil
   · exact hq' i o el[i] hi (List.getElem?_eq_getElem (by omega))
 · rcases hd with h | ⟨el, rest, hx, hel, _⟩
   · exact .inl h
   · exact .inr ⟨el, rest, hx, hel⟩
theorem weights_all {e : TypeId} : ∀ {l : List (DataW H)} {i : Nat} {d : DataW H}, l[i]? = some d → ∀ n ∈ d.weights P e, n ∈ DataW.weightsAll P e l
 | [], _, _, h => by simp at h
 | x :: l, 0, _, h => by simp at h; subst h; intro n hn; simp only [DataW.weightsAll, List.mem_append]; exact .inl hn
 | x :: l, i + 1, _, h => fun n hn => by simp only [DataW.weightsAll, List.mem_append]; exact .inr (weights_all (l := l) (i := i) (by simpa using h) n hn)
theorem row_weight {e q : TypeId} {u : Value} {l : List Int} {d : DataW H} (he : P.underlying e = some (.slice q)) (hb : P.bytesOf q = 8) (h : RowD W u l d) (hw : ∀ n ∈ d.weights P e, n ≤ 140737488351232) : l.length * 8 ≤ 140737488351232 := by
 rcases h.2.2 with ⟨_, rfl⟩ | ⟨el, rest, rfl, hel⟩
 · simp
 · have h1 := hw ((el.length + rest.length) * 8) (by simp [DataW.weights, he, hb])
   rw [← hel]; exact Nat.le_trans (Nat.mul_le_mul_right 8 (Nat.le_add_right _ _)) h1
theorem open_grid {q base fuel : Nat} {spare : Nat → Bool} {held : Bool} {t e : TypeId} {cs : List Value} {x : DataW H × List MemPlace}
 (ht : P.underlying t = some (.slice e)) (he : P.underlying e = some (.slice q)) (hq : P.underlying q = some (.int .i64)) (ce : P.cellsOf e = 1) (cq : P.cellsOf q = 1) (be : P.bytesOf e = 24) (bq : P.bytesOf q = 8)
 (h : DataW.trod enc P W base spare held fuel t cs = some x) :
 ∃ (v : Value) (ls : List (List Int)), cs = [v] ∧ Grid W v ls ∧ (∀ l ∈ ls, ∀ o ∈ l, -9223372036854775808 ≤ o ∧ o ≤ 9223372036854775807) ∧
   ((∀ n ∈ x.1.weights P t, n ≤ 140737488351232) → ls.length * 24 ≤ 140737488351232 ∧ ∀ l ∈ ls, l.length * 8 ≤ 140737488351232) ∧
   ((x.1 = .nil ∧ ls = []) ∨ ∃ el rest, x.1 = .slice el rest ∧ el.length = ls.length ∧ ∀ (i : Nat) (l : List Int) (d : DataW H), ls[i]? = some l → el[i]? = some d → ∃ u, RowD W u l d) := by
 obtain ⟨v, vs, rfl, hv, hd⟩ := sl_of_trod1 (α := Value) (ce := one) (Q := fun u d => ∃ l : List Int, RowD W u l d) ht ce (by decide) (fun _ => rfl)
  (fun n cs x hx => by
   obtain ⟨u, l, rfl, hr⟩ := open_row he hq cq hx; exact ⟨u, rfl, l, hr⟩) h
 rcases hd with ⟨hx, rfl⟩ | ⟨el, rest, hx, hel, hq'⟩
 · exact ⟨v, [], rfl, ⟨[], hv, rfl, by simp⟩, by simp, fun _ => ⟨by simp, by simp⟩, .inl ⟨hx, rfl⟩⟩
 · obtain ⟨ls, hll, hls⟩ := list_of (fun i (l : List Int) => ∀ u d, vs[i]? = some u → el[i]? = some d → RowD W u l d) vs.length (fun i hi => by
    obtain ⟨l, hl⟩ := hq' i vs[i] el[i] (List.getElem?_eq_getElem hi) (List.getElem?_eq_getElem (by omega)); exact ⟨l, fun u d hu hd => by rw [List.getElem?_eq_getElem hi] at hu; rw [List.getElem?_eq_getElem (by omega)] at hd; cases hu; cases hd; exact hl⟩)
   have at_ : ∀ (i : Nat) (l : List Int), ls[i]? = some l → ∃ u d, vs[i]? = some u ∧ el[i]? = some d ∧ RowD W u l d := fun i l hi => by
    have hiv : i < vs.length := by have := (List.getElem?_eq_some_iff.1 hi).1; omega
    exact ⟨vs[i], el[i], List.getElem?_eq_getElem hiv, List.getElem?_eq_getElem (by omega), hls i l hi _ _ (List.getElem?_eq_getElem hiv) (List.getElem?_eq_getElem (by omega))⟩
   refine ⟨v, ls, rfl, ⟨vs, hv, hll.symm, fun i u l hu hl => ?_⟩, fun l hl o ho => ?_, fun hw => ?_, .inr ⟨el, rest, hx, by omega, fun i l d hl hd => ?_⟩⟩
   · obtain ⟨u', d, hu', _, hr⟩ := at_ i l hl
     rw [hu] at hu'; cases hu'; exact hr.1
   · obtain ⟨i, hi⟩ := List.getElem?_of_mem hl
     obtain ⟨u', d, _, _, hr⟩ := at_ i l hi; exact hr.2.1 o ho
   · rw [hx] at hw
     simp only [DataW.weights, ht, be, List.mem_cons, List.mem_append] at hw; refine ⟨?_, fun l hl => ?_⟩
     · have := hw _ (.inl rfl)
       exact Nat.le_trans (Nat.mul_le_mul_right 24 (by omega)) this
     · obtain ⟨i, hi⟩ := List.getElem?_of_mem hl
       obtain ⟨u', d, _, hd, hr⟩ := at_ i l hi; exact row_weight he bq hr fun n hn => hw n (.inr (.inl (weights_all hd n hn)))
   · obtain ⟨u', d', _, hd', hr⟩ := at_ i l hl
     rw [hd] at hd'; cases hd'; exact ⟨u', hr⟩
end
end Go.Proofs.YtjbaiibbgplljaaGreatDoor
namespace Go.Proofs.YtjbaiibbgplljaaGreatDoor
open Go.RowKit
abbrev hv (n : Int) (v : Value) : Value := .agg #[.int .i64 n, v]
theorem balHp (w : World) (o : Obj) : Below w.heap.size w (w.alloc o) := (Below.refl _ _).alloc (Nat.le_refl _) o
theorem hasObject_any (n : Int) (v : Value) (ls : Rws) (o : Int) (w : World) (h : Grid w v ls) :
 Calls Tryz.prog 165 #[hv n v, .int .i64 o] w fun e w' => e = .returned (.bool (hasO ls o)) ∧ Below w.heap.size w w' := by
 obtain ⟨A, c, rfl, h1, h2⟩ := h.form; unfold maxLen at h2; clear h; unfold hasO; by_cases h0 : 1 ≤ o
 · by_cases hl : o ≤ (ls.length : Int)
   · rw [decide_eq_true (show 1 ≤ o ∧ o ≤ (ls.length : Int) from ⟨h0, hl⟩)]
     go_enter Tryz.func165, Tryz.ntmps165
     go_wp2; go_ret
     exact ⟨rfl, balHp _ _⟩
   · rw [decide_eq_false (show ¬ (1 ≤ o ∧ o ≤ (ls.length : Int)) from fun h => hl h.2)]
     go_enter Tryz.func165, Tryz.ntmps165
     go_wp2; go_ret
     exact ⟨rfl, balHp _ _⟩
 · rw [decide_eq_false (show ¬ (1 ≤ o ∧ o ≤ (ls.length : Int)) from fun h => h0 h.1)]
   go_enter Tryz.func165, Tryz.ntmps165
   go_wp2; go_ret
   exact ⟨rfl, balHp _ _⟩
theorem box2 {w w2 : World} {x y : Value} {t : TypeId} (hb : Below (w.alloc (.cells #[x, y] t)).heap.size (w.alloc (.cells #[x, y] t)) w2) :
 Below w.heap.size w w2 ∧ w.heap.size < w2.heap.size ∧ w2.cell? ⟨w.heap.size, 0, none⟩ = some x ∧ w2.cell? ⟨w.heap.size, 1, none⟩ = some y := by
 have h0 := row_new w [x, y] t 0 x rfl; have h1 := row_new w [x, y] t 1 y rfl; rw [add_none] at h0 h1; have hs : w.heap.size + 1 ≤ w2.heap.size := by simpa using hb.size
 exact ⟨btr (balHp _ _) hb (by simp), by omega, ((bcell hb).1 _ _ (by simp)).trans h0, ((bcell hb).1 _ _ (by simp)).trans h1⟩
theorem mayHold_any (n : Int) (v : Value) (ls : Rws) (x : Int) (w : World) (h : Grid w v ls) :
 Calls Tryz.prog 129 #[hv n v, .int .i64 x] w fun e w' => e = .returned (.bool (mayF ls x)) ∧ Below w.heap.size w w' := by
 have HG := hide h; obtain ⟨A, c, rfl, h1, h2⟩ := h.form; unfold maxLen at h2; clear h; by_cases h0 : x = 0
 · subst h0
   have hS := hide (show mayF ls 0 = true from decide_eq_true ⟨by omega, by omega⟩); go_enter Tryz.func129, Tryz.ntmps129
   go_wp2; go_ret
   exact ⟨ret_bool hS.out.symm, balHp _ _⟩
 · have e0 : (x == 0) = false := by rw [beq_eq_false_iff_ne]; exact h0
   have hS := hide (show hasO ls x = mayF ls x by unfold hasO mayF; congr 1; exact propext ⟨fun h => ⟨by omega, h.2⟩, fun h => ⟨by omega, h.2⟩⟩); clear h0; go_enter Tryz.func129, Tryz.ntmps129
   go_wp2_with fail
   refine (hasObject_any _ _ ls _ _ (HG.out.alloc _)).mono ?_; rintro e w2 ⟨rfl, hb2⟩; rw [hS.out]; obtain ⟨hB, hlt, c0, c1⟩ := box2 hb2; clear hb2; go_wp2; go_ret
   exact ⟨rfl, hB⟩
theorem box1Hp (w : World) (x y : Value) (t : TypeId) : ∃ w1, w.alloc (.cells #[x, y] t) = w1 ∧ Below w.heap.size w w1 ∧ w.heap.size < w1.heap.size ∧ (∀ b, b < w.heap.size → b < w1.heap.size) ∧ w1.cell? ⟨w.heap.size, 0, none⟩ = some x ∧ w1.cell? ⟨w.heap.size, 1, none⟩ = some y := by
 obtain ⟨a, b, c, d⟩ := box2 (Below.refl (w.alloc (.cells #[x, y] t)).heap.size (w.alloc (.cells #[x, y] t))); exact ⟨_, rfl, a, b, fun _ h => by omega, c, d⟩
theorem right_false {n : Int} {ls : Rws} (h : ¬ (1 ≤ n ∧ n ≤ 4 ∧ ls.length ≤ 64)) : rightF n ls = false := by
 unfold rightF; rw [decide_eq_false h]; rfl
theorem all_snoc {α : Type} (p : α → Bool) (l : List α) (k : Nat) (h : k < l.length) : (l.take (k + 1)).all p = ((l.take k).all p && p l[k]) := by
 rw [List.take_succ_eq_append_getElem h, List.all_append]; simp
theorem all_false {α : Type} (p : α → Bool) (l : List α) (k : Nat) (h : k < l.length) (hp : p l[k] = false) : l.all p = false := by
 rw [List.all_eq_false]; exact ⟨l[k], List.getElem_mem h, by simp [hp]⟩
theorem right_row_false {n : Int} {ls : Rws} (k : Nat) (h : k < ls.length) (hp : rowOk n ls.length ls[k] = false) : rightF n ls = false := by
 unfold rightF; rw [all_false _ _ k h hp, Bool.and_false]
theorem Right_anyHp (n : Int) (v : Value) (ls : Rws) (w : World) (h : Grid w v ls) :
 Calls Tryz.prog 82 #[hv n v] w fun e w' => e = .returned (.bool (rightF n ls)) ∧ Below w.heap.size w w' := by
 have HG := hide h; obtain ⟨A, c, rfl, h1, h2⟩ := h.form; unfold maxLen at h2; clear h; by_cases hA : 1 ≤ n ∧ n ≤ 4 ∧ ls.length ≤ 64
 · have hR := hide (show rightF n ls = ls.all (rowOk n ls.length) by unfold rightF; rw [decide_eq_true hA, Bool.true_and])
   obtain ⟨a1, a2, a3⟩ := hA; obtain ⟨w1, ew, hB1, hlt1, hold, k0, k1⟩ := box1Hp w (.int .i64 n) (.slice A ls.length c) 24; have HE := hide ew; have HG1 := hide (HG.out.below hB1); clear ew; go_enter Tryz.func82, Tryz.ntmps82
   go_wp2; rw [HE.out]; clear HE; go_loopw [24] (fun i wr => ∃ k : Nat, k ≤ ls.length ∧ i = .int .i64 k ∧ Below w1.heap.size w1 wr ∧ Hid ((ls.take k).all (rowOk n ls.length) = true)) (fun i _ => ls.length - (intOf i).toNat)
   case atStart => exact ⟨0, Nat.zero_le _, rfl, Below.refl _ _, hide (by simp)⟩
   case round =>
    obtain ⟨k, hk, rfl, hb, HA⟩ := hrel; have c0 := ((bcell hb).1 _ 0 hlt1).trans k0; have c1 := ((bcell hb).1 _ 1 hlt1).trans k1; by_cases hlt : k < ls.length
    · obtain ⟨b, off, u, rfl, hbw, hc, hr⟩ := grid_at (HG1.out.below hb) hlt
      have HR := hide hr; obtain ⟨B, d, rfl, h3, h4, -⟩ := hr; unfold maxLen at h4; by_cases hn : ((ls[k]).length : Int) = n
      · have e1 : (((ls[k]).length : Int) != n) = false := by rw [bne_eq_false_iff_eq]; exact hn
        have hr' := HR.out; obtain ⟨l, hl⟩ : ∃ l, ls[k] = l := ⟨_, rfl⟩; have HL := hide hl; rw [hl] at hr' hn h3 e1 hc; have HN := hide hn; obtain ⟨m, hm⟩ : ∃ m, l.length = m := ⟨_, rfl⟩; have HM := hide hm; rw [hm] at hr' h3 e1 hc hn; clear hl hn hm HR; go_wp2; have HBr := hide hr'; go_loopw [35] (fun i wi => ∃ j : Nat, j ≤ m ∧ i = .int .i64 j ∧ Below wr.heap.size wr wi ∧ Hid ((l.take j).all (fun v => decide (0 ≤ v ∧ v ≤ ls.length)) = true)) (fun i _ => m - (intOf i).toNat)
        case atStart => exact ⟨0, Nat.zero_le _, rfl, Below.refl _ _, hide (by simp)⟩
        case round =>
         obtain ⟨j, hj, rfl, hbi, HI⟩ := hrel; have hsz := hb.size; have hsi := hbi.size; have d0 := ((bcell hbi).1 _ 0 (Nat.lt_of_lt_of_le hlt1 hsz)).trans c0; have d1 := ((bcell hbi).1 _ 1 (Nat.lt_of_lt_of_le hlt1 hsz)).trans c1; have hb2 := bcall hb hbi; by_cases hlj : j < m
         · have hlj2 : j < l.length := by rw [HM.out]; exact hlj
           obtain ⟨b2, off2, rfl, hbw2, hc2⟩ := ints_at (HBr.out.below hbi) hlj2; have hsn := all_snoc (fun v => decide (0 ≤ v ∧ v ≤ (ls.length : Int))) l j hlj2; rw [HI.out, Bool.true_and] at hsn; obtain ⟨x, hx⟩ : ∃ x, l[j] = x := ⟨_, rfl⟩; rw [hx] at hc2 hsn; have HX := hide hx; have HS := hide hsn; have hGi := hide (HG1.out.below hb2); clear hx hsn; by_cases hm : mayF ls x = true
           · have HH := hide hm
             clear hm; go_wp2_with fail
             (with_reducible refine (mayHold_any _ _ ls _ _ hGi.out).mono ?_); rintro e w5 ⟨rfl, hb5⟩; rw [HH.out]; go_wp2; go_roundw
             case rel => exact ⟨j + 1, by omega, by go_num, bcall hbi hb5, hide (by rw [HS.out]; exact HH.out)⟩
             case measure => simp [intOf]; omega
           · have HH := hide (show mayF ls x = false by simpa using hm)
             clear hm; go_wp2_with fail
             (with_reducible refine (mayHold_any _ _ ls _ _ hGi.out).mono ?_); rintro e w5 ⟨rfl, hb5⟩; rw [HH.out]; go_wp2; go_ret
             refine ⟨ret_bool (Eq.symm (right_row_false k hlt ?_)), bcall hB1 (bcall hb2 hb5)⟩; rw [HL.out]; unfold rowOk; rw [all_false _ l j hlj2 (by rw [HX.out]; exact HH.out), Bool.and_false]
         · go_wp2
           go_roundw
           case rel =>
            refine ⟨k + 1, by omega, by go_num, hb2, hide ?_⟩; rw [all_snoc _ ls k hlt, HA.out, Bool.true_and, HL.out]; unfold rowOk; rw [Bool.and_eq_true]; refine ⟨decide_eq_true HN.out, ?_⟩; have := HI.out; rwa [List.take_of_length_le (by have := HM.out; omega)] at this
           case measure => simp [intOf]; omega
      · have e1 : (((ls[k]).length : Int) != n) = true := by rw [bne_iff_ne]; exact hn
        have HF := hide (right_row_false (n := n) k hlt (by unfold rowOk; rw [decide_eq_false hn]; rfl)); generalize (ls[k]).length = m at *; clear hn; go_wp2; go_ret
        exact ⟨ret_bool HF.out.symm, bcall hB1 hb⟩
    · go_wp2
      go_ret
      refine ⟨ret_bool (Eq.symm ?_), bcall hB1 hb⟩; rw [hR.out, ← HA.out, List.take_of_length_le (by omega)]
 · have hF := hide (right_false hA)
   obtain ⟨w1, ew, hB1, -⟩ := box1Hp w (.int .i64 n) (.slice A ls.length c) 24; have HB := hide (show Below w.heap.size w (w.alloc (.cells #[.int .i64 n, .slice A ls.length c] 24)) from balHp _ _); clear ew hB1; by_cases b1 : 1 ≤ n
   · by_cases b2 : n ≤ 4
     · have b3 : ¬ ((ls.length : Int) ≤ 64) := fun h => hA ⟨b1, b2, by omega⟩
       clear hA; go_enter Tryz.func82, Tryz.ntmps82
       go_wp2; go_ret
       exact ⟨ret_bool hF.out.symm, HB.out⟩
     · clear hA
       go_enter Tryz.func82, Tryz.ntmps82
       go_wp2; go_ret
       exact ⟨ret_bool hF.out.symm, HB.out⟩
   · clear hA
     go_enter Tryz.func82, Tryz.ntmps82
     go_wp2; go_ret
     exact ⟨ret_bool hF.out.symm, HB.out⟩
theorem Equal_intsHp (va vb : Value) (a b : List Int) (w : World) (ha : Ints w va a) (hb : Ints w vb b) :
 Calls Tryz.prog 40 #[va, vb] w fun e w' => e = .returned (.bool (decide (a = b))) ∧ Below w.heap.size w w' := by
 have ha' := ha; have hb' := hb; obtain ⟨A, c, rfl, h1, h2, -⟩ := ha'; obtain ⟨B, d, rfl, h3, h4, -⟩ := hb'; unfold maxLen at h2 h4; have HA := hide ha; have HB := hide hb; clear ha hb; by_cases hn : a.length = b.length
 · have q : (((a.length : Int)) != ((b.length : Int))) = false := by rw [bne_eq_false_iff_eq]; omega
   have HN := hide hn; clear hn; go_enter Tryz.func40, Tryz.ntmps40
   go_wp2; go_loopw [13] (fun i wr => ∃ k : Nat, k ≤ a.length ∧ i = .int .i64 k ∧ Below w.heap.size w wr ∧ Hid (a.take k = b.take k)) (fun i _ => a.length - (intOf i).toNat)
   case atStart => exact ⟨0, Nat.zero_le _, rfl, Below.refl _ _, hide (by simp)⟩
   case round =>
    obtain ⟨k, hk, rfl, hbw, HE⟩ := hrel; by_cases hlt : k < a.length
    · have hlb : k < b.length := by have := HN.out; omega
      obtain ⟨b1, o1, rfl, -, c0⟩ := ints_at (HA.out.below hbw) hlt; obtain ⟨b2, o2, rfl, -, c2⟩ := ints_at (HB.out.below hbw) hlb; by_cases he : a[k] = b[k]
      · have e1 : (a[k] != b[k]) = false := by rw [bne_eq_false_iff_eq]; exact he
        have HE' := hide (show a.take (k + 1) = b.take (k + 1) by rw [List.take_succ_eq_append_getElem hlt, List.take_succ_eq_append_getElem hlb, HE.out, he]); clear he; generalize a[k] = x at *; generalize b[k] = y at *; go_wp2; go_quiet (fail); go_wp2; go_roundw
        case rel => exact ⟨k + 1, by omega, by go_num, bdrewN hbw _, HE'⟩
        case measure => simp [intOf]; omega
      · have e1 : (a[k] != b[k]) = true := by rw [bne_iff_ne]; exact he
        have HF := hide (show decide (a = b) = false by
         simp only [decide_eq_false_iff_not]; intro h; apply he
         simp [h])
        clear he; generalize a[k] = x at *; generalize b[k] = y at *; go_wp2; go_quiet (fail); go_wp2; go_ret
        exact ⟨ret_bool HF.out.symm, bdrewN hbw _⟩
    · have HF := hide (show a = b by
       have h := HE.out; have := HN.out; rwa [List.take_of_length_le (by omega), List.take_of_length_le (by omega)] at h)
      go_wp2; go_ret
      exact ⟨ret_bool (by rw [HF.out]; simp), hbw⟩
 · have q : (((a.length : Int)) != ((b.length : Int))) = true := by rw [bne_iff_ne]; omega
   have HN := hide (show decide (a = b) = false by simp; intro e; exact hn (by rw [e])); clear hn; go_enter Tryz.func40, Tryz.ntmps40
   go_wp2; go_ret
   exact ⟨ret_bool HN.out.symm, Below.refl _ _⟩
theorem EqualFunc_rows (va vb : Value) (a b : Rws) (w : World) (ha : Grid w va a) (hb : Grid w vb b) :
 Calls Tryz.prog 39 #[va, vb, .func (.func 40) #[] #[]] w fun e w' => e = .returned (.bool (decide (a = b))) ∧ Below w.heap.size w w' := by
 obtain ⟨A, c, rfl, h1, h2⟩ := ha.form; obtain ⟨B, d, rfl, h3, h4⟩ := hb.form; unfold maxLen at h2 h4; have HA := hide ha; have HB := hide hb; clear ha hb; by_cases hn : a.length = b.length
 · have q : (((a.length : Int)) != ((b.length : Int))) = false := by rw [bne_eq_false_iff_eq]; omega
   have HN := hide hn; clear hn; go_enter Tryz.func39, Tryz.ntmps39
   go_wp2; go_loopw [17] (fun i wr => ∃ k : Nat, k ≤ a.length ∧ i = .int .i64 k ∧ Below w.heap.size w wr ∧ Hid (a.take k = b.take k)) (fun i _ => a.length - (intOf i).toNat)
   case atStart => exact ⟨0, Nat.zero_le _, rfl, Below.refl _ _, hide (by simp)⟩
   case round =>
    obtain ⟨k, hk, rfl, hbw, HE⟩ := hrel; by_cases hlt : k < a.length
    · have hlb : k < b.length := by have := HN.out; omega
      obtain ⟨b1, o1, u1, rfl, -, c0, r1⟩ := grid_at (HA.out.below hbw) hlt; obtain ⟨b2, o2, u2, rfl, -, c2, r2⟩ := grid_at (HB.out.below hbw) hlb; have hT := hide (show a.take (k + 1) = a.take k ++ [a[k]] ∧ b.take (k + 1) = b.take k ++ [b[k]] from ⟨List.take_succ_eq_append_getElem hlt, List.take_succ_eq_append_getElem hlb⟩); have hG := hide (show a = b → a[k] = b[k] by intro h; simp [h]); generalize a[k] = x at *; generalize b[k] = y at *; have R1 := hide r1; have R2 := hide r2; obtain ⟨A1, d1, rfl, -⟩ := r1; obtain ⟨A2, d2, rfl, -⟩ := r2; go_wp2_with fail
      (with_reducible refine (Equal_intsHp _ _ x y _ R1.out R2.out).mono ?_); rintro e w2 ⟨rfl, hb2⟩; by_cases he : x = y
      · rw [decide_eq_true he]
        have HE' := hide (show a.take (k + 1) = b.take (k + 1) by rw [hT.out.1, hT.out.2, HE.out, he]); clear he; go_wp2; go_roundw
        case rel => exact ⟨k + 1, by omega, by go_num, bcall hbw hb2, HE'⟩
        case measure => simp [intOf]; omega
      · rw [decide_eq_false he]
        have HF := hide (show decide (a = b) = false by
         simp only [decide_eq_false_iff_not]; exact fun h => he (hG.out h))
        clear he; go_wp2; go_ret
        exact ⟨ret_bool HF.out.symm, bcall hbw hb2⟩
    · have HF := hide (show a = b by
       have h := HE.out; have := HN.out; rwa [List.take_of_length_le (by omega), List.take_of_length_le (by omega)] at h)
      go_wp2; go_ret
      exact ⟨ret_bool (by rw [HF.out]; simp), hbw⟩
 · have q : (((a.length : Int)) != ((b.length : Int))) = true := by rw [bne_iff_ne]; omega
   have HN := hide (show decide (a = b) = false by simp; intro e; exact hn (by rw [e])); clear hn; go_enter Tryz.func39, Tryz.ntmps39
   go_wp2; go_ret
   exact ⟨ret_bool HN.out.symm, Below.refl _ _⟩
theorem Same_anyHp (n m : Int) (va vb : Value) (a b : Rws) (w : World) (ha : Grid w va a) (hb : Grid w vb b) :
 Calls Tryz.prog 38 #[hv n va, hv m vb] w fun e w' => e = .returned (.bool (sameF n a m b)) ∧ Below w.heap.size w w' := by
 obtain ⟨A, c, rfl, h1, h2⟩ := ha.form; obtain ⟨B, d, rfl, h3, h4⟩ := hb.form; unfold maxLen at h2 h4; have HA := hide ha; have HB := hide hb; clear ha hb; by_cases hn : n = m
 · have e0 : (n == m) = true := by rw [beq_iff_eq]; exact hn
   have HF := hide (show sameF n a m b = decide (a = b) by unfold sameF; rw [hn]; simp); clear hn; go_enter Tryz.func38, Tryz.ntmps38
   go_wp2_with fail
   (with_reducible refine (EqualFunc_rows _ _ a b _ ((HA.out.alloc _).alloc _) ((HB.out.alloc _).alloc _)).mono ?_); rintro e w2 ⟨rfl, hb2⟩; rw [← HF.out]; go_wp2; go_ret
   exact ⟨rfl, btr ((balHp _ _).alloc (by simp) _) hb2 (by simp)⟩
 · have e0 : (n == m) = false := by rw [beq_eq_false_iff_ne]; exact hn
   have HF := hide (show sameF n a m b = false by unfold sameF; rw [decide_eq_false]; exact fun h => hn h.1); clear hn; go_enter Tryz.func38, Tryz.ntmps38
   go_wp2; go_ret
   exact ⟨ret_bool HF.out.symm, (balHp _ _).alloc (by simp) _⟩
open Go.WideShapes Go.ChangeShapes Go.ChangeAt Go.Deep
section
variable {H : Type} {enc : TypeId × Value → H} {W : World}
theorem pick_elem {base : Nat} {spare : Nat → Bool} {held : Bool} (n : Nat) (cs : List Value) (x : DataW H × List MemPlace) (h : DataW.trod enc Tryz.prog W base spare held n 98 cs = some x) : ∃ p : PP, cs = pc p ∧ Wf p := by
 obtain ⟨xs, m, _, _, hl, hxl, hf⟩ := DataW.trod_struct Tryz.underlying98 h; rw [cellsPick] at hl; have hxl : xs.length = 2 := hxl; match cs, hl with
 | [c0, c1], _ =>
   match xs, hxl with
   | [x0, x1], _ =>
     have f0 : DataW.trod enc Tryz.prog W base spare held m 3 [c0] = some x0 := by have := hf 0 _ rfl; simpa [cellsInt] using this
     have f1 : DataW.trod enc Tryz.prog W base spare held m 3 [c1] = some x1 := by have := hf 1 _ rfl; simpa [cellsInt] using this
     obtain ⟨a, ha, _, wa⟩ := DataW.trod_int Tryz.underlying3 f0; obtain ⟨b, hb, _, wb⟩ := DataW.trod_int Tryz.underlying3 f1; simp at ha hb
     subst ha; subst hb; exact ⟨(a, b), rfl, wa, wb⟩
end
end Go.Proofs.YtjbaiibbgplljaaGreatDoor
namespace Go.Proofs.YtjbaiibbgplljaaGreatDoor
open Go.RowKit
theorem bytes_atPk {w : World} {A : Option Addr} {n c : Nat} {l : List Int} (h : Bytes w (.slice A n c) l) {k : Nat} (hk : k < l.length) :
 ∃ b off, A = some ⟨b, off, none⟩ ∧ b < w.heap.size ∧ w.cell? ⟨b, off + k, none⟩ = some (.int .u8 l[k]) := by
 obtain ⟨A', c', e, h1, h2, h3⟩ := h; injection e with e1 e2 e3; subst e1; obtain ⟨b, off, rfl, hb, hc⟩ := h3 (by omega); have := hc k l[k] (List.getElem?_eq_getElem hk); exact ⟨b, off, rfl, hb, by simpa using this 0 _ rfl⟩
theorem fieldsPick : Tryz.prog.underlying 98 = some (.struct (Tryz.prog.fieldsOf 98)) := by kernel_rfl
theorem eqIn_pick (a b c d : Int) (w : World) : (Op.equalIn 10000 98 (.agg #[.int .i64 a, .int .i64 b]) (.agg #[.int .i64 c, .int .i64 d])).run Tryz.prog w = .ok (a == c && b == d) w := by
 rw [run_equalIn_agg w 9999 _ _ _ fieldsPick Tryz.stoodInHeld98]; have hf : (Tryz.prog.fieldsOf 98).toList = [⟨ "Kind", 3, 0, false, "", "", 0⟩, ⟨ "N", 3, 1, false, "", "", 8⟩] := by kernel_rfl
 rw [hf]; by_cases h : a = c <;> by_cases h' : b = d <;> simp [Op.eqFields, go_sem, h, h']
theorem neq_pick (a b c d : Int) (w : World) : (binOp .neq 98 (.agg #[.int .i64 a, .int .i64 b]) (.agg #[.int .i64 c, .int .i64 d])).run Tryz.prog w = .ok (.bool (!(a == c && b == d))) w := by
 rw [run_neq_struct, eqIn_pick]; rfl
theorem info83 : (Tryz.prog.info? 83).map (fun i => (i.zero, i.size, i.bytes)) = some (some (.agg #[.int .i64 0, .int .i64 0]), 2, 16) := by kernel_rfl
theorem rRight_anyPk (k n : Int) (w : World) :
 Calls Tryz.prog 89 #[.agg #[.int .i64 k, .int .i64 n]] w fun e w' => e = .returned (.bool (right (k, n))) ∧ Below w.heap.size w w' := by
 go_enter Tryz.func89, Tryz.ntmps89
 go_wp2; all_goals go_ret
 all_goals refine ⟨ret_bool ?_, by go_grown⟩
 all_goals first | (simp_all [right]; done) | (simp_all [right]; omega)
theorem rKnown_any (v : Value) (l : List PP) (n m : Int) (w : World) (hl : Picks w v l) :
 Calls Tryz.prog 57 #[v, .int .i64 n, .int .i64 m] w fun e w' => e = .returned (.bool (l.all fun p => there p n m)) ∧ Below w.heap.size w w' := by
 have hlen := hl.len; have hl' := hl; obtain ⟨A, c, rfl, h1, h2, -⟩ := hl'; unfold maxLen at h2 hlen; have HL := hide hl; clear hl; go_enter Tryz.func57, Tryz.ntmps57
 go_wp2; go_loopw [7] (fun i wr => ∃ k : Nat, k ≤ l.length ∧ i = .int .i64 k ∧ Below w.heap.size w wr ∧ Hid ((l.take k).all (fun p => there p n m) = true)) (fun i _ => l.length - (intOf i).toNat)
 case atStart => exact ⟨0, Nat.zero_le _, rfl, Below.refl _ _, hide (by simp)⟩
 case round =>
  obtain ⟨k, hk, rfl, hb, HALL⟩ := hrel; by_cases hlt : k < l.length
  · obtain ⟨b, off, rfl, hbl, c0, c1⟩ := picks_at (HL.out.below hb) hlt
    have hsn : ∀ t, there (l[k].1, l[k].2) n m = t → (l.take (k + 1)).all (fun p => there p n m) = t := by
     rintro t rfl; rw [List.take_succ_eq_append_getElem hlt, List.all_append, HALL.out]; simp
    have hno : there (l[k].1, l[k].2) n m = false → l.all (fun p => there p n m) = false := fun h => List.all_eq_false.2 ⟨l[k], List.getElem_mem hlt, by simpa using h⟩
    have HS := hide hsn; have HNO := hide hno; clear hsn hno; have hth : there (l[k].1, l[k].2) n m = (right (l[k].1, l[k].2) && ((l[k].1 != 1 || decide (l[k].2 ≤ n)) && (l[k].1 != 2 || decide (l[k].2 ≤ m)))) := by unfold there; rw [Bool.and_assoc]
    have HTH := hide hth; clear hth; cases hR : right (l[k].1, l[k].2)
    · have HF := hide (HNO.out (by rw [HTH.out, hR]; rfl))
      have HR := hide hR; clear hR; go_wp2_with fail
      (with_reducible refine (rRight_anyPk _ _ _).mono ?_); rintro e w2 ⟨rfl, hb2⟩; rw [HR.out]; go_wp2; go_ret
      exact ⟨ret_bool HF.out.symm, bcall hb hb2⟩
    · have HR := hide hR
      have hHL := hide (fun w2 (h : Below wr.heap.size wr w2) => picks_cells (HL.out.below (bcall hb h)) hlt); clear hR; by_cases a1 : l[k].1 = 1
      · have q1 : (l[k].1 == 1) = true := by simpa using a1
        have q2 : (l[k].1 == 2) = false := by rw [a1]; rfl
        by_cases a2 : l[k].2 ≤ n
        · have HK := hide (HS.out true (by rw [HTH.out, HR.out, a1]; simp [a2]))
          clear a1; go_wp2_with fail
          (with_reducible refine (rRight_anyPk _ _ _).mono ?_); rintro e w2 ⟨rfl, hb2⟩; rw [HR.out]; obtain ⟨d0, d1⟩ := hHL.out w2 hb2; go_wp2; go_roundw
          case rel => exact ⟨k + 1, by omega, by go_num, bcall hb hb2, HK⟩
          case measure => simp [intOf]; omega
        · have HF := hide (HNO.out (by rw [HTH.out, HR.out, a1]; simp [a2]))
          clear a1; go_wp2_with fail
          (with_reducible refine (rRight_anyPk _ _ _).mono ?_); rintro e w2 ⟨rfl, hb2⟩; rw [HR.out]; obtain ⟨d0, d1⟩ := hHL.out w2 hb2; go_wp2; go_ret
          exact ⟨ret_bool HF.out.symm, bcall hb hb2⟩
      · have q1 : (l[k].1 == 1) = false := by simpa using a1
        by_cases b1 : l[k].1 = 2
        · have q2 : (l[k].1 == 2) = true := by simpa using b1
          by_cases b2 : l[k].2 ≤ m
          · have HK := hide (HS.out true (by rw [HTH.out, HR.out, b1]; simp [b2]))
            clear a1 b1; go_wp2_with fail
            (with_reducible refine (rRight_anyPk _ _ _).mono ?_); rintro e w2 ⟨rfl, hb2⟩; rw [HR.out]; obtain ⟨d0, d1⟩ := hHL.out w2 hb2; go_wp2; go_roundw
            case rel => exact ⟨k + 1, by omega, by go_num, bcall hb hb2, HK⟩
            case measure => simp [intOf]; omega
          · have HF := hide (HNO.out (by rw [HTH.out, HR.out, b1]; simp [b2]))
            clear a1 b1; go_wp2_with fail
            (with_reducible refine (rRight_anyPk _ _ _).mono ?_); rintro e w2 ⟨rfl, hb2⟩; rw [HR.out]; obtain ⟨d0, d1⟩ := hHL.out w2 hb2; go_wp2; go_ret
            exact ⟨ret_bool HF.out.symm, bcall hb hb2⟩
        · have q2 : (l[k].1 == 2) = false := by simpa using b1
          have HK := hide (HS.out true (by rw [HTH.out, HR.out]; simp [a1, b1])); clear a1 b1; go_wp2_with fail
          (with_reducible refine (rRight_anyPk _ _ _).mono ?_); rintro e w2 ⟨rfl, hb2⟩; rw [HR.out]; obtain ⟨d0, d1⟩ := hHL.out w2 hb2; go_wp2; go_roundw
          case rel => exact ⟨k + 1, by omega, by go_num, bcall hb hb2, HK⟩
          case measure => simp [intOf]; omega
  · have HF := hide (show l.all (fun p => there p n m) = true by have := HALL.out; rwa [List.take_of_length_le (by omega)] at this)
    go_wp2; go_ret
    exact ⟨ret_bool HF.out.symm, hb⟩
