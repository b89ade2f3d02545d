/- Lemmas that the texts of later laws want, too. -/
import Derived.Test.YtjnokhaojpijhaaGreatDoorPac
import Derived.Deep.Slices
import Derived.Deep.Fields
import Derived.Deep.CondSized
import Derived.JoinedCond
import Derived.SizedLaws
import Derived.Test.YtjnokhaojpijhaaGreatDoorPae
namespace Go.Proofs.YtjnokhaojpijhaaGreatDoor
open Go.RowKit Go.WideShapes Go.ChangeShapes Go.ChangeAt Go.Deep

section
variable {H : Type} {enc : TypeId × Value → H} {P : Program} {W W' : World}
theorem sl_of_trod {α : Type} {ce : α → List Value} {Q : α → Prop} {size base : Nat} {spare : Nat → Bool} {held : Bool} {t e : TypeId} {v : Value} {d : DataW H} {ps : List MemPlace} {r : Reach} {b0 : Nat}
    (ht : P.underlying t = some (.slice e)) (hC : P.cellsOf e = size) (hsz : 0 < size) (hce : ∀ p, (ce p).length = size)
    (hel : ∀ n cs x, DataW.trod enc P W base spare held n e cs = some x → ∃ p : α, cs = ce p ∧ Q p) (ok : Value.okWide P W r b0 t v) (h : DataW.Trod enc P W base spare held t v d ps) :
    ∃ l : List α, Sl ce size W v l ∧ (∀ p ∈ l, Q p) ∧ ((d = .nil ∧ l = []) ∨ ∃ el rest, d = .slice el rest ∧ el.length = l.length) := by
  obtain ⟨a0, len0, cap0, rfl⟩ := okWide_slice ht ok
  obtain ⟨fuel, hf⟩ := h
  rcases open_slice ht (by simpa [Value.cells] using hf) with ⟨hcs, hx⟩ | ⟨a, len, cap, m, n, D, Pl, hcs, hb, hl, hm, hmm, hx, hi⟩
  · simp only [Prod.mk.injEq] at hx
    injection hcs with hcs
    rw [hcs]
    exact ⟨[], Sl.nil_, by simp, .inl ⟨hx.1, rfl⟩⟩
  · injection hcs with hcs
    rw [hcs]
    have hlm : len ≤ m := by rw [hmm]; split <;> omega
    simp only [Prod.mk.injEq] at hx
    have hex : ∀ i, i < len → ∃ p : α, Q p ∧ ∀ j u, (ce p)[j]? = some u → W.cell? (a.add (i * size + j)) = some u := fun i hil => by
      obtain ⟨cs', hc, ht'⟩ := hi i (by omega)
      obtain ⟨p, rfl, hq⟩ := hel n cs' _ ht'
      rw [hC] at hc
      obtain ⟨_, hcl, hat⟩ := World.cells?_some hc
      refine ⟨p, hq, fun j u hu => ?_⟩
      have hj : j < size := by have := (List.getElem?_eq_some_iff.1 hu).1; rw [hce] at this; exact this
      rw [← add_add, hat j hj, hu]
    obtain ⟨l, hll, hlq⟩ := list_of _ len hex
    subst hll
    refine ⟨l, ⟨_, cap, rfl, hl, hm, fun h0 => ?_⟩, fun p hp => ?_, .inr ⟨_, _, hx.1, by simp⟩⟩
    · have h00 := (hlq 0 l[0] (List.getElem?_eq_getElem h0)).2 0 ((ce l[0])[0]'(by rw [hce]; exact hsz)) (List.getElem?_eq_getElem _)
      rw [Nat.zero_mul, Nat.add_zero] at h00
      obtain ⟨b, off, spot⟩ := a
      have hsp : spot = none := by
        cases spot with
        | none => rfl
        | some s =>
          exfalso
          simp only [Addr.add, if_true, World.cell?] at h00
          split at h00 <;> simp at h00
      subst hsp
      refine ⟨b, off, rfl, ?_, fun i p hp j u hu => ?_⟩
      · have := World.block_lt_of_cell? W _ h00
        rw [add_none] at this; exact this
      · have := (hlq i p hp).2 j u hu
        rw [add_none] at this
        rw [Nat.add_assoc]; exact this
    · obtain ⟨i, hi⟩ := List.getElem?_of_mem hp
      exact (hlq i p hi).1

end

section
variable {H : Type}
theorem slice_reach {α : Type} {P : Program} {ts : List TypeId} {ds : List (DataW H)} (hsz : (DataW.weightsEach P ts ds).all (· ≤ reachBytes) = true) (j : Nat) {t e : TypeId} {d : DataW H} {l : List α} {b : Nat} (ht : ts[j]? = some t) (hd : ds[j]? = some d) (hu : P.underlying t = some (.slice e)) (hb : P.bytesOf e = b)
    (h : (d = .nil ∧ l = []) ∨ ∃ el rest, d = .slice el rest ∧ el.length = l.length) : l.length * b ≤ 140737488351232 := by
  rcases h with ⟨rfl, rfl⟩ | ⟨el, rest, rfl, he⟩
  · simp
  · have h1 := sized_slice hsz ht hd hu
    rw [hb] at h1
    simp only [reachBytes] at h1
    have h2 : l.length * b ≤ (el.length + rest.length) * b := Nat.mul_le_mul_right b (by omega)
    omega
end
set_option maxRecDepth 100000 in
theorem open_bytes {H : Type} {enc : TypeId × Value → H} {W : World} {base : Nat} {spare : Nat → Bool} {held : Bool} {v : Value} {d : DataW H} {ps : List MemPlace} {r : Reach} {b0 : Nat} (ok : Value.okWide Tryz.prog W r b0 31 v) (h : DataW.Trod enc Tryz.prog W base spare held 31 v d ps) :
    ∃ l : List Int, Bytes W v l ∧ (∀ p ∈ l, 0 ≤ p ∧ p ≤ 255) ∧ ((d = .nil ∧ l = []) ∨ ∃ el rest, d = .slice el rest ∧ el.length = l.length) :=
  sl_of_trod Tryz.underlying31 (by kernel_rfl) (by decide) (fun _ => rfl) (fun n cs x hx => by
    obtain ⟨a, ha, _, wa⟩ := DataW.trod_int Tryz.underlying5 hx
    exact ⟨a, ha, by simpa [Lit.wf, IntKind.min, IntKind.max, IntKind.signed, IntKind.bits] using wa⟩) ok h
end Go.Proofs.YtjnokhaojpijhaaGreatDoor
