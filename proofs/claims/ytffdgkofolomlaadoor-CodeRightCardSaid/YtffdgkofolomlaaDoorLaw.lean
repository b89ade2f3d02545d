/- What every law's proof shares: slices that came in, read as lists; the row's last step. -/
import Derived.Test.YtffdgkofolomlaaDoorCore2
import Derived.Deep.Slices
import Derived.Deep.Fields
import Derived.Deep.CondSized
import Derived.JoinedCond
import Derived.SizedLaws
namespace Go.Proofs.YtffdgkofolomlaaDoor
open Go.RowKit Go.WideShapes Go.ChangeShapes Go.ChangeAt Go.Deep

theorem list_of {α : Type} (Q : Nat → α → Prop) : ∀ n, (∀ i, i < n → ∃ x, Q i x) → ∃ l : List α, l.length = n ∧ ∀ i x, l[i]? = some x → Q i x
  | 0, _ => ⟨[], rfl, by simp⟩
  | n + 1, h => by
    obtain ⟨l, hl, hq⟩ := list_of Q n fun i hi => h i (by omega)
    obtain ⟨x, hx⟩ := h n (by omega)
    refine ⟨l ++ [x], by simp [hl], fun i y hy => ?_⟩
    by_cases hi : i < l.length
    · rw [List.getElem?_append_left hi] at hy; exact hq i y hy
    · rw [List.getElem?_append_right (by omega)] at hy
      have hlt : i - l.length < 1 := by have := (List.getElem?_eq_some_iff.1 hy).1; simpa using this
      obtain rfl : i = n := by omega
      have e0 : i - l.length = 0 := by omega
      rw [e0] at hy; simp at hy; subst hy; exact hx

section
variable {H : Type} {enc : TypeId × Value → H} {P : Program} {W W' : World}
theorem sl_of_trod {α : Type} {ce : α → List Value} {Q : α → Prop} {size base : Nat} {spare : Nat → Bool} {held : Bool} {t e : TypeId} {v : Value} {d : DataW H} {ps : List MemPlace} {r : Reach} {b0 : Nat}
    (ht : P.underlying t = some (.slice e)) (hC : P.cellsOf e = size) (hsz : 0 < size) (hce : ∀ p, (ce p).length = size)
    (hel : ∀ n cs x, DataW.trod enc P W base spare held n e cs = some x → ∃ p : α, cs = ce p ∧ Q p) (ok : Value.okWide P W r b0 t v) (h : DataW.Trod enc P W base spare held t v d ps) :
    ∃ l : List α, Sl ce size W v l ∧ (∀ p ∈ l, Q p) ∧ ((d = .nil ∧ l = []) ∨ ∃ el rest, d = .slice el rest ∧ el.length = l.length) := by
  obtain ⟨a0, len0, cap0, rfl⟩ := okWide_slice ht ok
  obtain ⟨fuel, hf⟩ := h
  rcases open_slice ht (by simpa [Value.cells] using hf) with ⟨hcs, hx⟩ | ⟨a, len, cap, m, n, D, Pl, hcs, hb, hl, hm, hmm, hx, hi⟩
  · simp only [Prod.mk.injEq] at hx
    injection hcs with hcs
    rw [hcs]
    exact ⟨[], Sl.nil_, by simp, .inl ⟨hx.1, rfl⟩⟩
  · injection hcs with hcs
    rw [hcs]
    have hlm : len ≤ m := by rw [hmm]; split <;> omega
    simp only [Prod.mk.injEq] at hx
    have hex : ∀ i, i < len → ∃ p : α, Q p ∧ ∀ j u, (ce p)[j]? = some u → W.cell? (a.add (i * size + j)) = some u := fun i hil => by
      obtain ⟨cs', hc, ht'⟩ := hi i (by omega)
      obtain ⟨p, rfl, hq⟩ := hel n cs' _ ht'
      rw [hC] at hc
      obtain ⟨_, hcl, hat⟩ := World.cells?_some hc
      refine ⟨p, hq, fun j u hu => ?_⟩
      have hj : j < size := by have := (List.getElem?_eq_some_iff.1 hu).1; rw [hce] at this; exact this
      rw [← add_add, hat j hj, hu]
    obtain ⟨l, hll, hlq⟩ := list_of _ len hex
    subst hll
    refine ⟨l, ⟨_, cap, rfl, hl, hm, fun h0 => ?_⟩, fun p hp => ?_, .inr ⟨_, _, hx.1, by simp⟩⟩
    · have h00 := (hlq 0 l[0] (List.getElem?_eq_getElem h0)).2 0 ((ce l[0])[0]'(by rw [hce]; exact hsz)) (List.getElem?_eq_getElem _)
      rw [Nat.zero_mul, Nat.add_zero] at h00
      obtain ⟨b, off, spot⟩ := a
      have hsp : spot = none := by
        cases spot with
        | none => rfl
        | some s =>
          exfalso
          simp only [Addr.add, if_true, World.cell?] at h00
          split at h00 <;> simp at h00
      subst hsp
      refine ⟨b, off, rfl, ?_, fun i p hp j u hu => ?_⟩
      · have := World.block_lt_of_cell? W _ h00
        rw [add_none] at this; exact this
      · have := (hlq i p hp).2 j u hu
        rw [add_none] at this
        rw [Nat.add_assoc]; exact this
    · obtain ⟨i, hi⟩ := List.getElem?_of_mem hp
      exact (hlq i p hi).1

theorem trodAll_stays (hl : laidOutB P = true) (hb : Below W.heap.size W W') {sp : Nat → Bool} : ∀ {ts : List TypeId} {vs : List Value} {ds : List (DataW H)} {ps : List MemPlace}, (ts.all fun t => P.readableRec t && decide (t < P.types.size)) = true →
    DataW.TrodAll enc P W 0 (fun _ => true) true ts vs ds ps → (∀ x ∈ ps, x.block < W.heap.size) → (∀ x ∈ ps, sp x.block = true) → DataW.TrodAll enc P W' 0 sp true ts vs ds ps
  | [], _, _, _, _, h, _, _ => by obtain ⟨rfl, rfl, rfl⟩ := trodAll_nil h; exact trodAll_mk0
  | t :: ts, _, _, _, hr, h, hlt, hsp => by
    obtain ⟨v, vs', d, ds', p, q, rfl, rfl, rfl, h0, h1⟩ := trodAll_cons h
    simp only [List.all_cons, Bool.and_eq_true, decide_eq_true_eq] at hr
    exact trodAll_cons_mk (WideElems.Trod_stays hl hr.1.1 hr.1.2 h0 (fun x hx => hb.same (hlt x (List.mem_append_left _ hx))) (fun x hx => hsp x (List.mem_append_left _ hx)))
      (trodAll_stays hl hb (by simpa using hr.2) h1 (fun x hx => hlt x (List.mem_append_right _ hx)) (fun x hx => hsp x (List.mem_append_right _ hx)))

/-- A LAW's LAST STEP: it answered true, and below the heap's old end nothing turned. -/
theorem law_post {f : Func} {s : ChangeSpec} {args : Array Value} {ds gs : List (DataW H)} {before : List MemPlace} {tb : TypeId} (hl : laidOutB P = true) (hr : (f.params.toList.all fun t => P.readableRec t && decide (t < P.types.size)) = true)
    (hrt : f.resultTypes = #[tb]) (htb : P.underlying tb = some .bool) (hv : s.vars = []) (hspec : (s.fn H (ds ++ gs)).results = [.lit (.bool true)] ∧ (s.fn H (ds ++ gs)).args = ds ∧ (s.fn H (ds ++ gs)).vars = [])
    (hW : DataW.Whole enc P f.params.toList s.vars false W args.toList ds gs before) (hb : Below W.heap.size W W') :
    s.post enc P f false true false false W args (.bool true) W' := by
  have hlt : ∀ x ∈ before, x.block < W.heap.size := fun x hx => hW.lt x hx
  obtain ⟨p, q, hA, hV, rfl, hz, hn⟩ := hW
  rw [hv] at hV
  obtain ⟨rfl, rfl⟩ := trodVars_none hV
  simp only [List.append_nil] at *
  refine ⟨ds, [], p, [], p, [], ⟨p, [], hA, by rw [hv]; exact hV, by simp, hz, hn⟩, ?_, ?_, ?_, World.keptBut_mono (fun x hx => ⟨hx, .inr (.inl hx)⟩) (hb.frame (· ∈ p)), fun h => by cases h⟩
  · simp only [List.append_nil]
    rw [hspec.1, hrt]
    exact trodAll_cons_mk (shut_bool htb _) trodAll_mk0
  · simp only [List.append_nil]
    rw [hspec.2.1]
    exact trodAll_stays hl hb hr hA hlt (fun x hx => by simpa using hlt x hx)
  · simp only [List.append_nil]
    rw [hspec.2.2, hv]
    rfl
end

theorem laidOutL : laidOutB Tryd.prog = true := by kernel_rfl
theorem ownL : ownKnob Tryd.prog.godebug = none := by kernel_rfl
section
variable {H : Type}
theorem bulk_pos (d : DataW H) : 1 ≤ Rows.uptoBulk d := by
  cases d with
  | lit l => cases l <;> simp [Rows.uptoBulk]
  | _ => simp [Rows.uptoBulk]
theorem bulk_mem {B : Nat} : ∀ {l : List (DataW H)}, Rows.uptoBulkAll l ≤ B → ∀ (j : Nat) {d : DataW H}, l[j]? = some d → Rows.uptoBulk d ≤ B
  | [], _, _, _, h => by simp at h
  | x :: l, hB, 0, d, h => by simp at h; subst h; simp only [Rows.uptoBulkAll] at hB; omega
  | x :: l, hB, j + 1, d, h => by
    simp only [Rows.uptoBulkAll] at hB
    exact bulk_mem (l := l) (B := B) (by omega) j (by simpa using h)
theorem bulk_all_len : ∀ l : List (DataW H), l.length ≤ Rows.uptoBulkAll l
  | [] => by simp
  | x :: l => by have := bulk_all_len l; have := bulk_pos x; simp only [Rows.uptoBulkAll, List.length_cons]; omega
theorem slice_bulk {α : Type} {d : DataW H} {l : List α} (h : (d = .nil ∧ l = []) ∨ ∃ el rest, d = .slice el rest ∧ el.length = l.length) : l.length + 1 ≤ Rows.uptoBulk d := by
  rcases h with ⟨rfl, rfl⟩ | ⟨el, rest, rfl, he⟩
  · simp [Rows.uptoBulk]
  · have := bulk_all_len el
    simp only [Rows.uptoBulk]; omega
theorem slice_reach {α : Type} {P : Program} {ts : List TypeId} {ds : List (DataW H)} (hsz : (DataW.weightsEach P ts ds).all (· ≤ reachBytes) = true) (j : Nat) {t e : TypeId} {d : DataW H} {l : List α} {b : Nat} (ht : ts[j]? = some t) (hd : ds[j]? = some d) (hu : P.underlying t = some (.slice e)) (hb : P.bytesOf e = b)
    (h : (d = .nil ∧ l = []) ∨ ∃ el rest, d = .slice el rest ∧ el.length = l.length) : l.length * b ≤ 140737488351232 := by
  rcases h with ⟨rfl, rfl⟩ | ⟨el, rest, rfl, he⟩
  · simp
  · have h1 := sized_slice hsz ht hd hu
    rw [hb] at h1
    simp only [reachBytes] at h1
    have h2 : l.length * b ≤ (el.length + rest.length) * b := Nat.mul_le_mul_right b (by omega)
    omega
end
/-- bytes as cells -/
def bc (b : Int) : List Value := [.int .u8 b]
abbrev Bytes (w : World) (v : Value) (l : List Int) : Prop := Sl bc 1 w v l
set_option maxRecDepth 100000 in
theorem open_bytes {H : Type} {enc : TypeId × Value → H} {W : World} {base : Nat} {spare : Nat → Bool} {held : Bool} {v : Value} {d : DataW H} {ps : List MemPlace} {r : Reach} {b0 : Nat} (ok : Value.okWide Tryd.prog W r b0 46 v) (h : DataW.Trod enc Tryd.prog W base spare held 46 v d ps) :
    ∃ l : List Int, Bytes W v l ∧ (∀ p ∈ l, 0 ≤ p ∧ p ≤ 255) ∧ ((d = .nil ∧ l = []) ∨ ∃ el rest, d = .slice el rest ∧ el.length = l.length) :=
  sl_of_trod Tryd.underlying46 (by kernel_rfl) (by decide) (fun _ => rfl) (fun n cs x hx => by
    obtain ⟨a, ha, _, wa⟩ := DataW.trod_int Tryd.underlying5 hx
    exact ⟨a, ha, by simpa [Lit.wf, IntKind.min, IntKind.max, IntKind.signed, IntKind.bits] using wa⟩) ok h
end Go.Proofs.YtffdgkofolomlaaDoor
